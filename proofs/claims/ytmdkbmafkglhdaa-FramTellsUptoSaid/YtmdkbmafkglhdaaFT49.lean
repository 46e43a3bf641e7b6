/- Ref11OkH Ref11OkB Ref11EncK -/
import Derived.Test.YtmdkbmafkglhdaaFT40
import Derived.Test.YtmdkbmafkglhdaaFT48
namespace Go.Proofs.Ytmdkbmafkglhdaa
open Go.RowKit
set_option linter.unusedVariables false
/-- a row out of the middle of a block, where it is asked for -/
theorem wpList_load_midG {P : Program} {ops : Array Oper} {rest : List Oper} {op : Oper} {a : Act} {w : World} {Q : Exit → Act → World → Prop} (hw : Region.wanted op (yielded ops a.tmps) = true) (ty : TypeId) (x : Operand) (ho : op.op = .load ty x)
    (b o : Nat) (hx : a.eval x = .pointer (some ⟨b, o, none⟩)) (cs : List Value) (d : TypeDesc) (hc : w.rangeAt b o cs) (hu : P.underlying ty = some d) (hd : d.isRow = true) (hi : (P.info? ty).map (·.size) = some cs.length)
    (h : wpList P ops Q rest (a.put op.dst (.agg cs.toArray)) w) : wpList P ops Q (op :: rest) a w := by
  unfold wpList
  rw [if_pos hw]
  exact Or.inl (wp_load_mid ty x ho b o hx cs d hc hu hd hi h)
theorem refWithin_is {w : World} {A : Option Addr} {n c B : Nat} {zs : List Int} {k : Nat} {K : Int} {D : Bool} (hK : K = (k : Int)) (hD : wis k zs = D) (h : Rd w B A n (iv zs)) (hn : n ≤ 2000000) (hk : k ≤ 100) : Calls Try.prog 44 #[.slice A n c, .int .i64 K] w fun e w' => e = .returned (.bool D) ∧ w = w' := by
  subst hK; subst hD; exact refWithin w h hn k hk
theorem wis1 (x : Int) : wis 1 [x] = wi 1099511627776 x := by simp [wis]
theorem wis2 (x y : Int) : wis 2 [x, y] = (wi 1099511627776 x && wi 1099511627776 y) := by simp [wis]
set_option maxHeartbeats 4000000 in
set_option maxRecDepth 100000 in
theorem refOk_head (w : World) {a : GA} {m : Mg} (hno : m.headOk = false) : Calls Try.prog 23 #[msgV a m] w fun e w' => e = .returned (.bool false) ∧ Below w.heap.size w w' := by
  obtain ⟨wa, hwa⟩ : ∃ x, w.alloc (.cells #[.int .i64 m.kind, .int .i64 m.frm, .int .i64 m.dst, .int .i64 m.view, .int .i64 m.inst, .int .i64 m.len, .bool m.has, .int .i64 m.mem, .int .i64 m.src, .int .i64 m.pos, .int .i64 m.tot, .slice a.Ad m.data.length a.cd, .int .i64 m.hop, .int .i64 m.seq, .slice a.Ah m.hav.length a.ch, .slice a.An m.nee.length a.cn, .int .i64 m.idx, .int .i64 m.ent.s, .int .i64 m.ent.q, .int .i64 m.ent.c.kind, .int .i64 m.ent.c.who, .slice a.c.Ak m.ent.c.key.length a.c.ck, .slice a.c.Av m.ent.c.val.length a.c.cv, .slice a.c.Ao m.ent.c.old.length a.c.co] 29) = x := ⟨_, rfl⟩
  have bb : Below w.heap.size w wa := by rw [← hwa]; exact (Below.refl _ _).alloc (Nat.le_refl _) _
  obtain ⟨g, hg⟩ : ∃ g, w.heap.size = g := ⟨_, rfl⟩
  have k1 : Blk wa g 29 #[.int .i64 m.kind, .int .i64 m.frm, .int .i64 m.dst, .int .i64 m.view, .int .i64 m.inst, .int .i64 m.len, .bool m.has, .int .i64 m.mem, .int .i64 m.src, .int .i64 m.pos, .int .i64 m.tot, .slice a.Ad m.data.length a.cd, .int .i64 m.hop, .int .i64 m.seq, .slice a.Ah m.hav.length a.ch, .slice a.An m.nee.length a.cn, .int .i64 m.idx, .int .i64 m.ent.s, .int .i64 m.ent.q, .int .i64 m.ent.c.kind, .int .i64 m.ent.c.who, .slice a.c.Ak m.ent.c.key.length a.c.ck, .slice a.c.Av m.ent.c.val.length a.c.cv, .slice a.c.Ao m.ent.c.old.length a.c.co] := by rw [← hwa, ← hg]; exact Blk.new _ _ _
  have HF : Hid (∀ wx, Below wa.heap.size wa wx → Blk wx g 29 #[.int .i64 m.kind, .int .i64 m.frm, .int .i64 m.dst, .int .i64 m.view, .int .i64 m.inst, .int .i64 m.len, .bool m.has, .int .i64 m.mem, .int .i64 m.src, .int .i64 m.pos, .int .i64 m.tot, .slice a.Ad m.data.length a.cd, .int .i64 m.hop, .int .i64 m.seq, .slice a.Ah m.hav.length a.ch, .slice a.An m.nee.length a.cn, .int .i64 m.idx, .int .i64 m.ent.s, .int .i64 m.ent.q, .int .i64 m.ent.c.kind, .int .i64 m.ent.c.who, .slice a.c.Ak m.ent.c.key.length a.c.ck, .slice a.c.Av m.ent.c.val.length a.c.cv, .slice a.c.Ao m.ent.c.old.length a.c.co]) := Lib.hid (fun wx hb => k1.below hb)
  have HB := Lib.hid bb
  have HWA := Lib.hid hwa
  have HG := Lib.hid hg
  clear k1 bb hwa hg
  have hh : ¬ (0 ≤ m.frm) ∨ (0 ≤ m.frm ∧ ¬ m.frm ≤ 6) ∨ (0 ≤ m.frm ∧ m.frm ≤ 6 ∧ ¬ 0 ≤ m.dst) ∨ (0 ≤ m.frm ∧ m.frm ≤ 6 ∧ 0 ≤ m.dst ∧ ¬ m.dst ≤ 6) ∨ (0 ≤ m.frm ∧ m.frm ≤ 6 ∧ 0 ≤ m.dst ∧ m.dst ≤ 6 ∧ ¬ 0 ≤ m.view) ∨ (0 ≤ m.frm ∧ m.frm ≤ 6 ∧ 0 ≤ m.dst ∧ m.dst ≤ 6 ∧ 0 ≤ m.view ∧ ¬ m.view ≤ 1099511627776) := by
    unfold Mg.headOk at hno
    rw [← Bool.not_eq_true] at hno
    simp only [Bool.and_eq_true, wi_iff] at hno
    omega
  clear hno
  unfold msgV msgC
  go_enter Try.func23, Try.ntmps23
  go_upto_region 1 with fail
  rw [HG.out, HWA.out]
  clear HWA
  have x1 : wa.cell? ⟨g, 1, none⟩ = some (.int .i64 m.frm) := (HF.out _ (Below.refl _ _)).cell 1
  have x2 : wa.cell? ⟨g, 2, none⟩ = some (.int .i64 m.dst) := (HF.out _ (Below.refl _ _)).cell 2
  have x3 : wa.cell? ⟨g, 3, none⟩ = some (.int .i64 m.view) := (HF.out _ (Below.refl _ _)).cell 3
  rcases hh with h1 | ⟨h1, h2⟩ | ⟨h1, h2, h3⟩ | ⟨h1, h2, h3, h4⟩ | ⟨h1, h2, h3, h4, h5⟩ | ⟨h1, h2, h3, h4, h5, h6⟩
  · have q0 :  m.frm < 0 := by omega
    clear h1
    go_wp2
    go_ret
    exact ⟨rfl, HB.out⟩
  · have q0 : ¬ m.frm < 0 := by omega
    have q1 :  6 < m.frm := by omega
    clear h1 h2
    go_wp2
    go_ret
    exact ⟨rfl, HB.out⟩
  · have q0 : ¬ m.frm < 0 := by omega
    have q1 : ¬ 6 < m.frm := by omega
    have q2 :  m.dst < 0 := by omega
    clear h1 h2 h3
    go_wp2
    go_ret
    exact ⟨rfl, HB.out⟩
  · have q0 : ¬ m.frm < 0 := by omega
    have q1 : ¬ 6 < m.frm := by omega
    have q2 : ¬ m.dst < 0 := by omega
    have q3 :  6 < m.dst := by omega
    clear h1 h2 h3 h4
    go_wp2
    go_ret
    exact ⟨rfl, HB.out⟩
  · have q0 : ¬ m.frm < 0 := by omega
    have q1 : ¬ 6 < m.frm := by omega
    have q2 : ¬ m.dst < 0 := by omega
    have q3 : ¬ 6 < m.dst := by omega
    have q4 :  m.view < 0 := by omega
    clear h1 h2 h3 h4 h5
    go_wp2
    go_ret
    exact ⟨rfl, HB.out⟩
  · have q0 : ¬ m.frm < 0 := by omega
    have q1 : ¬ 6 < m.frm := by omega
    have q2 : ¬ m.dst < 0 := by omega
    have q3 : ¬ 6 < m.dst := by omega
    have q4 : ¬ m.view < 0 := by omega
    have q5 :  1099511627776 < m.view := by omega
    clear h1 h2 h3 h4 h5 h6
    go_wp2
    go_ret
    exact ⟨rfl, HB.out⟩
end Go.Proofs.Ytmdkbmafkglhdaa

namespace Go.Proofs.Ytmdkbmafkglhdaa
open Go.RowKit
set_option linter.unusedVariables false
set_option maxHeartbeats 8000000 in
set_option maxRecDepth 100000 in
theorem refOk_body (w : World) {a : GA} {m : Mg} {B : Nat} (hM : m.Wide) (hr : RdG w B a m) (hh : m.headOk = true) : Calls Try.prog 23 #[msgV a m] w fun e w' => e = .returned (.bool m.ok) ∧ Below w.heap.size w w' := by
  obtain ⟨wa, hwa⟩ : ∃ x, w.alloc (.cells #[.int .i64 m.kind, .int .i64 m.frm, .int .i64 m.dst, .int .i64 m.view, .int .i64 m.inst, .int .i64 m.len, .bool m.has, .int .i64 m.mem, .int .i64 m.src, .int .i64 m.pos, .int .i64 m.tot, .slice a.Ad m.data.length a.cd, .int .i64 m.hop, .int .i64 m.seq, .slice a.Ah m.hav.length a.ch, .slice a.An m.nee.length a.cn, .int .i64 m.idx, .int .i64 m.ent.s, .int .i64 m.ent.q, .int .i64 m.ent.c.kind, .int .i64 m.ent.c.who, .slice a.c.Ak m.ent.c.key.length a.c.ck, .slice a.c.Av m.ent.c.val.length a.c.cv, .slice a.c.Ao m.ent.c.old.length a.c.co] 29) = x := ⟨_, rfl⟩
  have bb : Below w.heap.size w wa := by rw [← hwa]; exact (Below.refl _ _).alloc (Nat.le_refl _) _
  obtain ⟨g, hg⟩ : ∃ g, w.heap.size = g := ⟨_, rfl⟩
  have k1 : Blk wa g 29 #[.int .i64 m.kind, .int .i64 m.frm, .int .i64 m.dst, .int .i64 m.view, .int .i64 m.inst, .int .i64 m.len, .bool m.has, .int .i64 m.mem, .int .i64 m.src, .int .i64 m.pos, .int .i64 m.tot, .slice a.Ad m.data.length a.cd, .int .i64 m.hop, .int .i64 m.seq, .slice a.Ah m.hav.length a.ch, .slice a.An m.nee.length a.cn, .int .i64 m.idx, .int .i64 m.ent.s, .int .i64 m.ent.q, .int .i64 m.ent.c.kind, .int .i64 m.ent.c.who, .slice a.c.Ak m.ent.c.key.length a.c.ck, .slice a.c.Av m.ent.c.val.length a.c.cv, .slice a.c.Ao m.ent.c.old.length a.c.co] := by rw [← hwa, ← hg]; exact Blk.new _ _ _
  have HF : Hid (∀ wx, Below wa.heap.size wa wx → Blk wx g 29 #[.int .i64 m.kind, .int .i64 m.frm, .int .i64 m.dst, .int .i64 m.view, .int .i64 m.inst, .int .i64 m.len, .bool m.has, .int .i64 m.mem, .int .i64 m.src, .int .i64 m.pos, .int .i64 m.tot, .slice a.Ad m.data.length a.cd, .int .i64 m.hop, .int .i64 m.seq, .slice a.Ah m.hav.length a.ch, .slice a.An m.nee.length a.cn, .int .i64 m.idx, .int .i64 m.ent.s, .int .i64 m.ent.q, .int .i64 m.ent.c.kind, .int .i64 m.ent.c.who, .slice a.c.Ak m.ent.c.key.length a.c.ck, .slice a.c.Av m.ent.c.val.length a.c.cv, .slice a.c.Ao m.ent.c.old.length a.c.co]) := Lib.hid (fun wx hb => k1.below hb)
  have HB := Lib.hid bb
  have HWA := Lib.hid hwa
  have HG := Lib.hid hg
  clear k1 bb hwa hg
  have HR := Lib.hid (hr.fit.below HB.out)
  have hok : m.ok = m.tailOk := by unfold Mg.ok; rw [hh]; rfl
  have hs := hh
  unfold Mg.headOk at hs
  simp only [Bool.and_eq_true, wi_iff] at hs
  have q0 : ¬ m.frm < 0 := by omega
  have q1 : ¬ 6 < m.frm := by omega
  have q2 : ¬ m.dst < 0 := by omega
  have q3 : ¬ 6 < m.dst := by omega
  have q4 : ¬ m.view < 0 := by omega
  have q5 : ¬ 1099511627776 < m.view := by omega
  have HM := Lib.hid hM
  obtain ⟨T, hT⟩ : ∃ T, m.ok = T := ⟨_, rfl⟩
  have HT : Hid (m.tailOk = T) := Lib.hid (hok.symm.trans hT)
  rw [hT]
  clear hs hh hok hT hr hM
  unfold msgV msgC
  go_enter Try.func23, Try.ntmps23
  go_upto_region 1 with fail
  rw [HG.out, HWA.out]
  clear HWA
  have x0 : wa.cell? ⟨g, 0, none⟩ = some (.int .i64 m.kind) := (HF.out _ (Below.refl _ _)).cell 0
  have x1 : wa.cell? ⟨g, 1, none⟩ = some (.int .i64 m.frm) := (HF.out _ (Below.refl _ _)).cell 1
  have x2 : wa.cell? ⟨g, 2, none⟩ = some (.int .i64 m.dst) := (HF.out _ (Below.refl _ _)).cell 2
  have x3 : wa.cell? ⟨g, 3, none⟩ = some (.int .i64 m.view) := (HF.out _ (Below.refl _ _)).cell 3
  go_upto_region 4 with fail
  clear q0 q1 q2 q3 q4 q5 x1 x2 x3 x0
  by_cases hk : m.kind = 1
  · have s1 : (m.kind == 1) = true := by rw [hk]; rfl
    have s6 : (m.kind == 6) = false := by rw [hk]; rfl
    have s2 : (m.kind == 2) = false := by rw [hk]; rfl
    have s3 : (m.kind == 3) = false := by rw [hk]; rfl
    have s4 : (m.kind == 4) = false := by rw [hk]; rfl
    have s5 : (m.kind == 5) = false := by rw [hk]; rfl
    have s7 : (m.kind == 7) = false := by rw [hk]; rfl
    have s8 : (m.kind == 8) = false := by rw [hk]; rfl
    have hkk := Lib.hid hk
    clear hk
    have hT : T = true := by
      rw [← HT.out]
      unfold Mg.tailOk
      simp [hkk.out]
    go_wp2
    go_ret
    exact ⟨by first | rfl | (rw [hT]; rfl), HB.out⟩
  by_cases hk : m.kind = 6
  · have s1 : (m.kind == 1) = false := by rw [hk]; rfl
    have s6 : (m.kind == 6) = true := by rw [hk]; rfl
    have s2 : (m.kind == 2) = false := by rw [hk]; rfl
    have s3 : (m.kind == 3) = false := by rw [hk]; rfl
    have s4 : (m.kind == 4) = false := by rw [hk]; rfl
    have s5 : (m.kind == 5) = false := by rw [hk]; rfl
    have s7 : (m.kind == 7) = false := by rw [hk]; rfl
    have s8 : (m.kind == 8) = false := by rw [hk]; rfl
    have hkk := Lib.hid hk
    clear hk
    have hT : T = true := by
      rw [← HT.out]
      unfold Mg.tailOk
      simp [hkk.out]
    go_wp2
    go_ret
    exact ⟨by first | rfl | (rw [hT]; rfl), HB.out⟩
  by_cases hk : m.kind = 2
  · have s1 : (m.kind == 1) = false := by rw [hk]; rfl
    have s6 : (m.kind == 6) = false := by rw [hk]; rfl
    have s2 : (m.kind == 2) = true := by rw [hk]; rfl
    have s3 : (m.kind == 3) = false := by rw [hk]; rfl
    have s4 : (m.kind == 4) = false := by rw [hk]; rfl
    have s5 : (m.kind == 5) = false := by rw [hk]; rfl
    have s7 : (m.kind == 7) = false := by rw [hk]; rfl
    have s8 : (m.kind == 8) = false := by rw [hk]; rfl
    have hkk := Lib.hid hk
    clear hk
    obtain ⟨D1, hD1⟩ : ∃ D, wis 2 [m.inst, m.len] = D := ⟨_, rfl⟩
    have hT : T = D1 := by
      rw [← HT.out]
      rw [← hD1, wis2]
      unfold Mg.tailOk
      simp [hkk.out]
    have CW : Hid (Calls Try.prog 44 #[.slice (some ⟨wa.heap.size, 0, none⟩) 2 2, .int .i64 2] (wa.alloc (.cells #[.int .i64 m.inst, .int .i64 m.len] 3)) fun e w' => e = .returned (.bool D1) ∧ wa.alloc (.cells #[.int .i64 m.inst, .int .i64 m.len] 3) = w') := Lib.hid (refWithin_is (zs := [m.inst, m.len]) (k := 2) rfl hD1 (Rd.made wa #[.int .i64 m.inst, .int .i64 m.len] 3 (0, 0) 2 rfl) (by omega) (by omega))
    have x4 : wa.cell? ⟨g, 4, none⟩ = some (.int .i64 m.inst) := (HF.out _ (Below.refl _ _)).cell 4
    have x5 : wa.cell? ⟨g, 5, none⟩ = some (.int .i64 m.len) := (HF.out _ (Below.refl _ _)).cell 5
    clear hD1
    go_wp2_with (first | (go_at_call 44; refine CW.out.mono ?_; rintro en wq ⟨rfl, rfl⟩) | fail)
    go_ret
    exact ⟨by first | rfl | (rw [hT]; rfl), HB.out.alloc HB.out.size _⟩
  by_cases hk : m.kind = 3
  · have s1 : (m.kind == 1) = false := by rw [hk]; rfl
    have s6 : (m.kind == 6) = false := by rw [hk]; rfl
    have s2 : (m.kind == 2) = false := by rw [hk]; rfl
    have s3 : (m.kind == 3) = true := by rw [hk]; rfl
    have s4 : (m.kind == 4) = false := by rw [hk]; rfl
    have s5 : (m.kind == 5) = false := by rw [hk]; rfl
    have s7 : (m.kind == 7) = false := by rw [hk]; rfl
    have s8 : (m.kind == 8) = false := by rw [hk]; rfl
    have hkk := Lib.hid hk
    clear hk
    obtain ⟨D1, hD1⟩ : ∃ D, wis 1 [m.len] = D := ⟨_, rfl⟩
    have CW : Hid (Calls Try.prog 44 #[.slice (some ⟨wa.heap.size, 0, none⟩) 1 1, .int .i64 1] (wa.alloc (.cells #[.int .i64 m.len] 3)) fun e w' => e = .returned (.bool D1) ∧ wa.alloc (.cells #[.int .i64 m.len] 3) = w') := Lib.hid (refWithin_is (zs := [m.len]) (k := 1) rfl hD1 (Rd.made wa #[.int .i64 m.len] 3 (0, 0) 1 rfl) (by omega) (by omega))
    have hT : T = (decide (0 ≤ m.mem) && (decide (m.mem ≤ 127) && (decide (0 ≤ m.src) && (decide (m.src ≤ 6) && D1)))) := by
      rw [← HT.out, ← hD1, wis1]
      unfold Mg.tailOk wi
      simp [hkk.out, Bool.and_assoc]
    clear hD1
    have HTT := Lib.hid hT
    clear hT
    have x7 : wa.cell? ⟨g, 7, none⟩ = some (.int .i64 m.mem) := (HF.out _ (Below.refl _ _)).cell 7
    have x8 : wa.cell? ⟨g, 8, none⟩ = some (.int .i64 m.src) := (HF.out _ (Below.refl _ _)).cell 8
    have x5 : wa.cell? ⟨g, 5, none⟩ = some (.int .i64 m.len) := (HF.out _ (Below.refl _ _)).cell 5
    by_cases u1 : 0 ≤ m.mem
    · by_cases u2 : m.mem ≤ 127
      · by_cases u3 : 0 ≤ m.src
        · by_cases u4 : m.src ≤ 6
          · have hT : T = D1 := by rw [HTT.out, decide_eq_true u1, decide_eq_true u2, decide_eq_true u3, decide_eq_true u4]; rfl
            go_wp2_with (first | (go_at_call 44; refine CW.out.mono ?_; rintro en wq ⟨rfl, rfl⟩) | fail)
            go_ret
            exact ⟨by first | rfl | (rw [hT]; rfl), HB.out.alloc HB.out.size _⟩
          · have hT : T = false := by rw [HTT.out, decide_eq_true u1, decide_eq_true u2, decide_eq_true u3, decide_eq_false u4]; rfl
            go_wp2
            go_ret
            exact ⟨by first | rfl | (rw [hT]; rfl), HB.out⟩
        · have hT : T = false := by rw [HTT.out, decide_eq_true u1, decide_eq_true u2, decide_eq_false u3]; rfl
          go_wp2
          go_ret
          exact ⟨by first | rfl | (rw [hT]; rfl), HB.out⟩
      · have hT : T = false := by rw [HTT.out, decide_eq_true u1, decide_eq_false u2]; rfl
        go_wp2
        go_ret
        exact ⟨by first | rfl | (rw [hT]; rfl), HB.out⟩
    · have hT : T = false := by rw [HTT.out, decide_eq_false u1]; rfl
      go_wp2
      go_ret
      exact ⟨by first | rfl | (rw [hT]; rfl), HB.out⟩
  by_cases hk : m.kind = 4
  · have s1 : (m.kind == 1) = false := by rw [hk]; rfl
    have s6 : (m.kind == 6) = false := by rw [hk]; rfl
    have s2 : (m.kind == 2) = false := by rw [hk]; rfl
    have s3 : (m.kind == 3) = false := by rw [hk]; rfl
    have s4 : (m.kind == 4) = true := by rw [hk]; rfl
    have s5 : (m.kind == 5) = false := by rw [hk]; rfl
    have s7 : (m.kind == 7) = false := by rw [hk]; rfl
    have s8 : (m.kind == 8) = false := by rw [hk]; rfl
    have hkk := Lib.hid hk
    clear hk
    obtain ⟨D1, hD1⟩ : ∃ D, wis 1 [m.pos] = D := ⟨_, rfl⟩
    have hT : T = D1 := by
      rw [← HT.out]
      rw [← hD1, wis1]
      unfold Mg.tailOk
      simp [hkk.out]
    have CW : Hid (Calls Try.prog 44 #[.slice (some ⟨wa.heap.size, 0, none⟩) 1 1, .int .i64 1] (wa.alloc (.cells #[.int .i64 m.pos] 3)) fun e w' => e = .returned (.bool D1) ∧ wa.alloc (.cells #[.int .i64 m.pos] 3) = w') := Lib.hid (refWithin_is (zs := [m.pos]) (k := 1) rfl hD1 (Rd.made wa #[.int .i64 m.pos] 3 (0, 0) 1 rfl) (by omega) (by omega))
    have x9 : wa.cell? ⟨g, 9, none⟩ = some (.int .i64 m.pos) := (HF.out _ (Below.refl _ _)).cell 9
    clear hD1
    go_wp2_with (first | (go_at_call 44; refine CW.out.mono ?_; rintro en wq ⟨rfl, rfl⟩) | fail)
    go_ret
    exact ⟨by first | rfl | (rw [hT]; rfl), HB.out.alloc HB.out.size _⟩
  by_cases hk : m.kind = 5
  · have s1 : (m.kind == 1) = false := by rw [hk]; rfl
    have s6 : (m.kind == 6) = false := by rw [hk]; rfl
    have s2 : (m.kind == 2) = false := by rw [hk]; rfl
    have s3 : (m.kind == 3) = false := by rw [hk]; rfl
    have s4 : (m.kind == 4) = false := by rw [hk]; rfl
    have s5 : (m.kind == 5) = true := by rw [hk]; rfl
    have s7 : (m.kind == 7) = false := by rw [hk]; rfl
    have s8 : (m.kind == 8) = false := by rw [hk]; rfl
    have hkk := Lib.hid hk
    clear hk
    obtain ⟨D1, hD1⟩ : ∃ D, wis 2 [m.pos, m.tot] = D := ⟨_, rfl⟩
    have hT : T = (D1 && decide (m.data.length ≤ 64)) := by
      rw [← HT.out, ← hD1, wis2]
      unfold Mg.tailOk
      simp [hkk.out, Bool.and_assoc]
    have CW : Hid (Calls Try.prog 44 #[.slice (some ⟨wa.heap.size, 0, none⟩) 2 2, .int .i64 2] (wa.alloc (.cells #[.int .i64 m.pos, .int .i64 m.tot] 3)) fun e w' => e = .returned (.bool D1) ∧ wa.alloc (.cells #[.int .i64 m.pos, .int .i64 m.tot] 3) = w') := Lib.hid (refWithin_is (zs := [m.pos, m.tot]) (k := 2) rfl hD1 (Rd.made wa #[.int .i64 m.pos, .int .i64 m.tot] 3 (0, 0) 2 rfl) (by omega) (by omega))
    have x9 : wa.cell? ⟨g, 9, none⟩ = some (.int .i64 m.pos) := (HF.out _ (Below.refl _ _)).cell 9
    have x10 : wa.cell? ⟨g, 10, none⟩ = some (.int .i64 m.tot) := (HF.out _ (Below.refl _ _)).cell 10
    have y11 : (wa.alloc (.cells #[.int .i64 m.pos, .int .i64 m.tot] 3)).cell? ⟨g, 11, none⟩ = some (.slice a.Ad m.data.length a.cd) := (HF.out _ ((Below.refl _ _).alloc (Nat.le_refl _) _)).cell 11
    clear hD1
    have HTT := Lib.hid hT
    clear hT
    cases D1 with
    | false =>
      go_wp2_with (first | (go_at_call 44; refine CW.out.mono ?_; rintro en wq ⟨rfl, rfl⟩) | fail)
      go_ret
      exact ⟨by rw [HTT.out]; rfl, HB.out.alloc HB.out.size _⟩
    | true =>
      obtain ⟨D2, hD2⟩ : ∃ D, decide (m.data.length ≤ 64) = D := ⟨_, rfl⟩
      have hD3 : decide ((m.data.length : Int) ≤ 64) = D2 := by rw [← hD2]; exact decide_eq_decide.2 (by omega)
      have HD2 := Lib.hid hD2
      have HD3 := Lib.hid hD3
      cases D2 with
      | false =>
        have u := of_decide_eq_false hD3
        clear hD2 hD3
        go_wp2_with (first | (go_at_call 44; refine CW.out.mono ?_; rintro en wq ⟨rfl, rfl⟩) | fail)
        go_ret
        exact ⟨by rw [HTT.out, HD2.out]; first | rfl | exact congrArg (fun b => Ending.returned (Value.bool b)) HD3.out, HB.out.alloc HB.out.size _⟩
      | true =>
        have u := of_decide_eq_true hD3
        clear hD2 hD3
        go_wp2_with (first | (go_at_call 44; refine CW.out.mono ?_; rintro en wq ⟨rfl, rfl⟩) | fail)
        go_ret
        exact ⟨by rw [HTT.out, HD2.out]; first | rfl | exact congrArg (fun b => Ending.returned (Value.bool b)) HD3.out, HB.out.alloc HB.out.size _⟩
  by_cases hk : m.kind = 7
  · have s1 : (m.kind == 1) = false := by rw [hk]; rfl
    have s6 : (m.kind == 6) = false := by rw [hk]; rfl
    have s2 : (m.kind == 2) = false := by rw [hk]; rfl
    have s3 : (m.kind == 3) = false := by rw [hk]; rfl
    have s4 : (m.kind == 4) = false := by rw [hk]; rfl
    have s5 : (m.kind == 5) = false := by rw [hk]; rfl
    have s7 : (m.kind == 7) = true := by rw [hk]; rfl
    have s8 : (m.kind == 8) = false := by rw [hk]; rfl
    have hkk := Lib.hid hk
    clear hk
    obtain ⟨D1, hD1⟩ : ∃ D, wis 2 [m.hop, m.seq] = D := ⟨_, rfl⟩
    obtain ⟨D2, hD2⟩ : ∃ D, wis 7 m.hav = D := ⟨_, rfl⟩
    obtain ⟨D3, hD3⟩ : ∃ D, wis 8 m.nee = D := ⟨_, rfl⟩
    have hT : T = (D1 && (D2 && D3)) := by
      rw [← HT.out, ← hD1, ← hD2, ← hD3, wis2]
      unfold Mg.tailOk
      simp [hkk.out, Bool.and_assoc]
    have CW : Hid (Calls Try.prog 44 #[.slice (some ⟨wa.heap.size, 0, none⟩) 2 2, .int .i64 2] (wa.alloc (.cells #[.int .i64 m.hop, .int .i64 m.seq] 3)) fun e w' => e = .returned (.bool D1) ∧ wa.alloc (.cells #[.int .i64 m.hop, .int .i64 m.seq] 3) = w') := Lib.hid (refWithin_is (zs := [m.hop, m.seq]) (k := 2) rfl hD1 (Rd.made wa #[.int .i64 m.hop, .int .i64 m.seq] 3 (0, 0) 2 rfl) (by omega) (by omega))
    have x12 : wa.cell? ⟨g, 12, none⟩ = some (.int .i64 m.hop) := (HF.out _ (Below.refl _ _)).cell 12
    have x13 : wa.cell? ⟨g, 13, none⟩ = some (.int .i64 m.seq) := (HF.out _ (Below.refl _ _)).cell 13
    have y14 : (wa.alloc (.cells #[.int .i64 m.hop, .int .i64 m.seq] 3)).cell? ⟨g, 14, none⟩ = some (.slice a.Ah m.hav.length a.ch) := (HF.out _ ((Below.refl _ _).alloc (Nat.le_refl _) _)).cell 14
    have y15 : (wa.alloc (.cells #[.int .i64 m.hop, .int .i64 m.seq] 3)).cell? ⟨g, 15, none⟩ = some (.slice a.An m.nee.length a.cn) := (HF.out _ ((Below.refl _ _).alloc (Nat.le_refl _) _)).cell 15
    have CH : Hid (Calls Try.prog 44 #[.slice a.Ah m.hav.length a.ch, .int .i64 7] (wa.alloc (.cells #[.int .i64 m.hop, .int .i64 m.seq] 3)) fun e w' => e = .returned (.bool D2) ∧ (wa.alloc (.cells #[.int .i64 m.hop, .int .i64 m.seq] 3)) = w') := Lib.hid (refWithin_is (zs := m.hav) (k := 7) rfl hD2 (HR.out.h.fit.below ((Below.refl _ _).alloc (Nat.le_refl _) _)) HM.out.h (by omega))
    have CN : Hid (Calls Try.prog 44 #[.slice a.An m.nee.length a.cn, .int .i64 8] (wa.alloc (.cells #[.int .i64 m.hop, .int .i64 m.seq] 3)) fun e w' => e = .returned (.bool D3) ∧ (wa.alloc (.cells #[.int .i64 m.hop, .int .i64 m.seq] 3)) = w') := Lib.hid (refWithin_is (zs := m.nee) (k := 8) rfl hD3 (HR.out.n.fit.below ((Below.refl _ _).alloc (Nat.le_refl _) _)) HM.out.n (by omega))
    clear hD1 hD2 hD3
    have HTT := Lib.hid hT
    clear hT
    cases D1 with
    | false =>
      go_wp2_with fail
      refine CW.out.mono ?_
      rintro en wq ⟨rfl, rfl⟩
      go_wp2_with fail
      go_ret
      exact ⟨by rw [HTT.out]; rfl, HB.out.alloc HB.out.size _⟩
    | true =>
      cases D2 with
      | false =>
        go_wp2_with fail
        refine CW.out.mono ?_
        rintro en wq ⟨rfl, rfl⟩
        go_wp2_with fail
        refine CH.out.mono ?_
        rintro en wq ⟨rfl, rfl⟩
        go_wp2_with fail
        go_ret
        exact ⟨by rw [HTT.out]; rfl, HB.out.alloc HB.out.size _⟩
      | true =>
        go_wp2_with fail
        refine CW.out.mono ?_
        rintro en wq ⟨rfl, rfl⟩
        go_wp2_with fail
        refine CH.out.mono ?_
        rintro en wq ⟨rfl, rfl⟩
        go_wp2_with fail
        refine CN.out.mono ?_
        rintro en wq ⟨rfl, rfl⟩
        go_wp2_with fail
        go_ret
        exact ⟨by rw [HTT.out]; rfl, HB.out.alloc HB.out.size _⟩
  by_cases hk : m.kind = 8
  · have s1 : (m.kind == 1) = false := by rw [hk]; rfl
    have s6 : (m.kind == 6) = false := by rw [hk]; rfl
    have s2 : (m.kind == 2) = false := by rw [hk]; rfl
    have s3 : (m.kind == 3) = false := by rw [hk]; rfl
    have s4 : (m.kind == 4) = false := by rw [hk]; rfl
    have s5 : (m.kind == 5) = false := by rw [hk]; rfl
    have s7 : (m.kind == 7) = false := by rw [hk]; rfl
    have s8 : (m.kind == 8) = true := by rw [hk]; rfl
    have hkk := Lib.hid hk
    clear hk
    obtain ⟨D1, hD1⟩ : ∃ D, wis 1 [m.idx] = D := ⟨_, rfl⟩
    obtain ⟨D2, hD2⟩ : ∃ D, m.ent.ok = D := ⟨_, rfl⟩
    have hT : T = (D1 && D2) := by
      rw [← HT.out, ← hD1, ← hD2, wis1]
      unfold Mg.tailOk
      simp [hkk.out]
    have CW : Hid (Calls Try.prog 44 #[.slice (some ⟨wa.heap.size, 0, none⟩) 1 1, .int .i64 1] (wa.alloc (.cells #[.int .i64 m.idx] 3)) fun e w' => e = .returned (.bool D1) ∧ wa.alloc (.cells #[.int .i64 m.idx] 3) = w') := Lib.hid (refWithin_is (zs := [m.idx]) (k := 1) rfl hD1 (Rd.made wa #[.int .i64 m.idx] 3 (0, 0) 1 rfl) (by omega) (by omega))
    have x16 : wa.cell? ⟨g, 16, none⟩ = some (.int .i64 m.idx) := (HF.out _ (Below.refl _ _)).cell 16
    have CE : Hid (∀ wx, Calls Try.prog 45 #[.agg #[.int .i64 m.ent.s, .int .i64 m.ent.q, .int .i64 m.ent.c.kind, .int .i64 m.ent.c.who, .slice a.c.Ak m.ent.c.key.length a.c.ck, .slice a.c.Av m.ent.c.val.length a.c.cv, .slice a.c.Ao m.ent.c.old.length a.c.co]] wx fun e w' => e = .returned (.bool D2) ∧ Below wx.heap.size wx w') := Lib.hid (fun wx => by rw [← hD2]; exact refEntry11 wx (ca := a.c) (e := m.ent))
    clear hD1 hD2
    have HTT := Lib.hid hT
    clear hT
    have hbw : Below wa.heap.size wa (wa.alloc (.cells #[.int .i64 m.idx] 3)) := (Below.refl _ _).alloc (Nat.le_refl _) _
    have HBW := Lib.hid hbw
    clear hbw
    have HCE : Hid ((wa.alloc (.cells #[.int .i64 m.idx] 3)).rangeAt g 17 [.int .i64 m.ent.s, .int .i64 m.ent.q, .int .i64 m.ent.c.kind, .int .i64 m.ent.c.who, .slice a.c.Ak m.ent.c.key.length a.c.ck, .slice a.c.Av m.ent.c.val.length a.c.cv, .slice a.c.Ao m.ent.c.old.length a.c.co]) := Lib.hid (show (wa.alloc (.cells #[.int .i64 m.idx] 3)).rangeAt g 17 ((#[.int .i64 m.kind, .int .i64 m.frm, .int .i64 m.dst, .int .i64 m.view, .int .i64 m.inst, .int .i64 m.len, .bool m.has, .int .i64 m.mem, .int .i64 m.src, .int .i64 m.pos, .int .i64 m.tot, .slice a.Ad m.data.length a.cd, .int .i64 m.hop, .int .i64 m.seq, .slice a.Ah m.hav.length a.ch, .slice a.An m.nee.length a.cn, .int .i64 m.idx, .int .i64 m.ent.s, .int .i64 m.ent.q, .int .i64 m.ent.c.kind, .int .i64 m.ent.c.who, .slice a.c.Ak m.ent.c.key.length a.c.ck, .slice a.c.Av m.ent.c.val.length a.c.cv, .slice a.c.Ao m.ent.c.old.length a.c.co] : Array Value).toList.drop 17) from fun j v hv => by
      have q := (HF.out _ HBW.out).cell (17 + j)
      rw [List.getElem?_drop] at hv
      rw [q]
      simpa using hv)
    cases D1 with
    | false =>
      go_wp2_with (first | (go_at_call 44; refine CW.out.mono ?_; rintro en wq ⟨rfl, rfl⟩) | fail)
      go_ret
      exact ⟨by rw [HTT.out]; rfl, HB.out.alloc HB.out.size _⟩
    | true =>
      go_wp2_with (first
        | (go_at_call 44; refine CW.out.mono ?_; rintro en wq ⟨rfl, rfl⟩)
        | (refine wpList_load_midG (by rfl) 27 (.tmp 115) rfl g 17 rfl [.int .i64 m.ent.s, .int .i64 m.ent.q, .int .i64 m.ent.c.kind, .int .i64 m.ent.c.who, .slice a.c.Ak m.ent.c.key.length a.c.ck, .slice a.c.Av m.ent.c.val.length a.c.cv, .slice a.c.Ao m.ent.c.old.length a.c.co] _ HCE.out Try.underlying27 rfl (by kernel_rfl) ?_)
        | (go_at_call 45; refine (CE.out _).mono ?_; rintro en w9 ⟨rfl, hb9⟩; have HB9 := Lib.hid (HB.out.trans ((HBW.out.trans (hb9.mono HBW.out.size)).mono HB.out.size)); clear hb9)
        | fail)
      go_ret
      exact ⟨by rw [HTT.out]; rfl, HB9.out⟩
  have s1 : (m.kind == 1) = false := by rw [beq_eq_false_iff_ne]; assumption
  have s6 : (m.kind == 6) = false := by rw [beq_eq_false_iff_ne]; assumption
  have s2 : (m.kind == 2) = false := by rw [beq_eq_false_iff_ne]; assumption
  have s3 : (m.kind == 3) = false := by rw [beq_eq_false_iff_ne]; assumption
  have s4 : (m.kind == 4) = false := by rw [beq_eq_false_iff_ne]; assumption
  have s5 : (m.kind == 5) = false := by rw [beq_eq_false_iff_ne]; assumption
  have s7 : (m.kind == 7) = false := by rw [beq_eq_false_iff_ne]; assumption
  have s8 : (m.kind == 8) = false := by rw [beq_eq_false_iff_ne]; assumption
  have hT : T = false := by
    rw [← HT.out]
    unfold Mg.tailOk
    simp [*]
  go_wp2
  go_ret
  exact ⟨by first | rfl | (rw [hT]; rfl), HB.out⟩
theorem refOk11 (w : World) {a : GA} {m : Mg} {B : Nat} (hM : m.Wide) (hr : RdG w B a m) : Calls Try.prog 23 #[msgV a m] w fun e w' => e = .returned (.bool m.ok) ∧ Below w.heap.size w w' := by
  cases hh : m.headOk with
  | true => exact refOk_body w hM hr hh
  | false =>
    have : m.ok = false := by unfold Mg.ok; rw [hh]; rfl
    rw [this]
    exact refOk_head w hh
end Go.Proofs.Ytmdkbmafkglhdaa

namespace Go.Proofs.Ytmdkbmafkglhdaa
open Go.RowKit
set_option linter.unusedVariables false
theorem refNums_is {W w : World} {A A' : Option Addr} {c n n' c' B' : Nat} {l L : List Nat} {zs : List Int} (hn0 : n = l.length) (hL : l ++ Pk.encs zs = L) (ho : OwnB W w A l.length c l) (h : Rd w B' A' n' (iv zs)) (hl : l.length ≤ 1000000) (hn : n' ≤ 1000) (hB : Below W.heap.size W w) :
    Calls Try.prog 24 #[.slice A n c, .slice A' n' c'] w (GotIn W w L) := by
  subst hn0; subst hL; exact refNums ho h hl hn hB
inductive KB where
  | eq (u : Value)
  | own (W : World) (L : List Nat)
  | ints (zs : List Int)
  | any
def VB (ks : List KB) (i : Nat) (v : Value) (w : World) : Prop := match ks[i]? with
  | some (.eq u) => v = u
  | some (.own W L) => ∃ A c, v = .slice A L.length c ∧ OwnB W w A L.length c L
  | some (.ints zs) => ∃ A c, v = .slice A zs.length c ∧ Rd w w.heap.size A zs.length (iv zs)
  | _ => True
theorem VB.ext (ks : List KB) (i : Nat) (v : Value) (w w' : World) (h : VB ks i v w) (he : Bw w w') : VB ks i v w' := by
  unfold VB at h ⊢
  cases hk : ks[i]? with
  | none => trivial
  | some k =>
    rw [hk] at h
    cases k with
    | eq u => exact h
    | own W L => obtain ⟨A, c, h1, h2⟩ := h; exact ⟨A, c, h1, own_below h2 he⟩
    | ints zs => obtain ⟨A, c, h1, h2⟩ := h; exact ⟨A, c, h1, (h2.below he).fit⟩
    | any => trivial
theorem deps_ofL {md : Region.Mode} {ops : Array Oper} {L : Nat} {deps : Nat → List Nat} (h : ((List.range L).all fun i => (deps i).all fun j => decide (j < L) && Region.waitsFor md ops i j) = true) : ∀ i, i < L → ∀ j ∈ deps i, j < L ∧ Region.waitsFor md ops i j = true := by
  intro i hi j hj
  have h2 := List.all_eq_true.1 (List.all_eq_true.1 h i (List.mem_range.2 hi)) j hj
  rw [Bool.and_eq_true, decide_eq_true_eq] at h2
  exact h2
theorem alls_ofL {md : Region.Mode} {ops : Array Oper} {L : Nat} (h : ((List.range L).all fun j => Region.waitsFor md ops L j) = true) : ∀ j, j < L → Region.waitsFor md ops L j = true :=
  fun j hj => List.all_eq_true.1 h j (List.mem_range.2 hj)
theorem all_opsL {p : Nat → Oper → Prop} {l : List Oper} {L : Nat} (h : AllFrom p 0 (l.take L)) : ∀ i o, i < L → l.toArray[i]? = some o → p i o := fun i o hi ho => by
  have q := h.get i o (by rw [List.getElem?_take, if_pos hi]; simpa using ho)
  rwa [Nat.zero_add] at q
theorem ev_tmpB {a : Act} {t : Nat} {v : Value} (h : a.eval (.tmp t) = v) : a.tmps[t]?.getD undef = v := by rw [← h]; simp [Act.eval]
def dstE15 (i : Nat) : Nat := ([52, 53, 54, 55, 56, 57, 58, 59, 60, 61] : List Nat).getD i 0
def depsE15 (i : Nat) : List Nat := ([[], [], [1], [], [3], [2, 4], [0, 5], [], [7], [6, 8]] : List (List Nat)).getD i []
def FrE15 (w w2 : World) (g : Nat) (a : GA) (m : Mg) (A1 : Option Addr) (c1 : Nat) (HD L1 L2 : List Nat) (a : Act) : Prop := a.eval (.tmp 1) = .pointer (some ⟨g, 0, none⟩) ∧ a.eval (.tmp 3) = .slice A1 HD.length c1
def kindsE15 (w w2 : World) (g : Nat) (a : GA) (m : Mg) (A1 : Option Addr) (c1 : Nat) (HD L1 L2 : List Nat) : List KB := [.own w HD, .eq (.pointer (some ⟨g, 9, none⟩)), .eq (.int .i64 m.pos), .eq (.pointer (some ⟨g, 10, none⟩)), .eq (.int .i64 m.tot), .ints [m.pos, m.tot], .own w L1, .eq (.pointer (some ⟨g, 11, none⟩)), .eq (.slice a.Ad m.data.length a.cd), .own w L2]
def frameE15 (w w2 : World) (g : Nat) (a : GA) (m : Mg) (A1 : Option Addr) (c1 : Nat) (HD L1 L2 : List Nat) (x0 x2 x4 x5 x6 x7 x8 x9 x10 x11 x12 x13 x14 x15 x16 x17 x18 x19 x20 x21 x22 x23 x24 x25 x26 x27 x28 x29 x30 x31 x32 x33 x34 x35 x36 x37 x38 x39 x40 x41 x42 x43 x44 x45 x46 x47 x48 x49 x50 x51 x62 x63 x64 x65 x66 x67 x68 x69 x70 x71 x72 x73 x74 x75 x76 x77 x78 x79 x80 x81 x82 x83 x84 x85 x86 x87 x88 x89 x90 x91 x92 x93 x94 x95 x96 : Value) (U : Nat → Value) : Act := { tmps := List.toArray (x0 :: .pointer (some ⟨g, 0, none⟩) :: x2 :: .slice A1 HD.length c1 :: x4 :: x5 :: x6 :: x7 :: x8 :: x9 :: x10 :: x11 :: x12 :: x13 :: x14 :: x15 :: x16 :: x17 :: x18 :: x19 :: x20 :: x21 :: x22 :: x23 :: x24 :: x25 :: x26 :: x27 :: x28 :: x29 :: x30 :: x31 :: x32 :: x33 :: x34 :: x35 :: x36 :: x37 :: x38 :: x39 :: x40 :: x41 :: x42 :: x43 :: x44 :: x45 :: x46 :: x47 :: x48 :: x49 :: x50 :: x51 :: U 52 :: U 53 :: U 54 :: U 55 :: U 56 :: U 57 :: U 58 :: U 59 :: U 60 :: U 61 :: x62 :: x63 :: x64 :: x65 :: x66 :: x67 :: x68 :: x69 :: x70 :: x71 :: x72 :: x73 :: x74 :: x75 :: x76 :: x77 :: x78 :: x79 :: x80 :: x81 :: x82 :: x83 :: x84 :: x85 :: x86 :: x87 :: x88 :: x89 :: x90 :: x91 :: x92 :: x93 :: x94 :: x95 :: x96 :: []), defers := [] }
def dstE17 (i : Nat) : Nat := ([64, 65, 66, 67, 68, 69, 70, 71, 72, 73, 74, 75, 76] : List Nat).getD i 0
def depsE17 (i : Nat) : List Nat := ([[], [], [1], [], [3], [], [5], [6], [2, 4, 7], [0, 8], [], [10], [9, 11]] : List (List Nat)).getD i []
def FrE17 (w w2 : World) (g : Nat) (a : GA) (m : Mg) (A1 : Option Addr) (c1 : Nat) (HD L1 L2 : List Nat) (a : Act) : Prop := a.eval (.tmp 1) = .pointer (some ⟨g, 0, none⟩) ∧ a.eval (.tmp 3) = .slice A1 HD.length c1
def kindsE17 (w w2 : World) (g : Nat) (a : GA) (m : Mg) (A1 : Option Addr) (c1 : Nat) (HD L1 L2 : List Nat) : List KB := [.own w HD, .eq (.pointer (some ⟨g, 12, none⟩)), .eq (.int .i64 m.hop), .eq (.pointer (some ⟨g, 13, none⟩)), .eq (.int .i64 m.seq), .eq (.pointer (some ⟨g, 14, none⟩)), .eq (.slice a.Ah m.hav.length a.ch), .eq (.int .i64 (m.hav.length : Int)), .ints [m.hop, m.seq, (m.hav.length : Int)], .own w L1, .eq (.pointer (some ⟨g, 14, none⟩)), .eq (.slice a.Ah m.hav.length a.ch), .own w L2]
def frameE17 (w w2 : World) (g : Nat) (a : GA) (m : Mg) (A1 : Option Addr) (c1 : Nat) (HD L1 L2 : List Nat) (x0 x2 x4 x5 x6 x7 x8 x9 x10 x11 x12 x13 x14 x15 x16 x17 x18 x19 x20 x21 x22 x23 x24 x25 x26 x27 x28 x29 x30 x31 x32 x33 x34 x35 x36 x37 x38 x39 x40 x41 x42 x43 x44 x45 x46 x47 x48 x49 x50 x51 x52 x53 x54 x55 x56 x57 x58 x59 x60 x61 x62 x63 x77 x78 x79 x80 x81 x82 x83 x84 x85 x86 x87 x88 x89 x90 x91 x92 x93 x94 x95 x96 : Value) (U : Nat → Value) : Act := { tmps := List.toArray (x0 :: .pointer (some ⟨g, 0, none⟩) :: x2 :: .slice A1 HD.length c1 :: x4 :: x5 :: x6 :: x7 :: x8 :: x9 :: x10 :: x11 :: x12 :: x13 :: x14 :: x15 :: x16 :: x17 :: x18 :: x19 :: x20 :: x21 :: x22 :: x23 :: x24 :: x25 :: x26 :: x27 :: x28 :: x29 :: x30 :: x31 :: x32 :: x33 :: x34 :: x35 :: x36 :: x37 :: x38 :: x39 :: x40 :: x41 :: x42 :: x43 :: x44 :: x45 :: x46 :: x47 :: x48 :: x49 :: x50 :: x51 :: x52 :: x53 :: x54 :: x55 :: x56 :: x57 :: x58 :: x59 :: x60 :: x61 :: x62 :: x63 :: U 64 :: U 65 :: U 66 :: U 67 :: U 68 :: U 69 :: U 70 :: U 71 :: U 72 :: U 73 :: U 74 :: U 75 :: U 76 :: x77 :: x78 :: x79 :: x80 :: x81 :: x82 :: x83 :: x84 :: x85 :: x86 :: x87 :: x88 :: x89 :: x90 :: x91 :: x92 :: x93 :: x94 :: x95 :: x96 :: []), defers := [] }
def dstE18 (i : Nat) : Nat := ([77, 78, 79, 80, 81, 82, 83, 84, 85] : List Nat).getD i 0
def depsE18 (i : Nat) : List Nat := ([[], [], [1], [2], [3], [0, 4], [], [6], [5, 7]] : List (List Nat)).getD i []
def FrE18 (w w2 : World) (g : Nat) (a : GA) (m : Mg) (A1 : Option Addr) (c1 : Nat) (HD L1 L2 : List Nat) (a : Act) : Prop := a.eval (.tmp 1) = .pointer (some ⟨g, 0, none⟩) ∧ a.eval (.tmp 3) = .slice A1 HD.length c1
def kindsE18 (w w2 : World) (g : Nat) (a : GA) (m : Mg) (A1 : Option Addr) (c1 : Nat) (HD L1 L2 : List Nat) : List KB := [.own w HD, .eq (.pointer (some ⟨g, 15, none⟩)), .eq (.slice a.An m.nee.length a.cn), .eq (.int .i64 (m.nee.length : Int)), .ints [(m.nee.length : Int)], .own w L1, .eq (.pointer (some ⟨g, 15, none⟩)), .eq (.slice a.An m.nee.length a.cn), .own w L2]
def frameE18 (w w2 : World) (g : Nat) (a : GA) (m : Mg) (A1 : Option Addr) (c1 : Nat) (HD L1 L2 : List Nat) (x0 x2 x4 x5 x6 x7 x8 x9 x10 x11 x12 x13 x14 x15 x16 x17 x18 x19 x20 x21 x22 x23 x24 x25 x26 x27 x28 x29 x30 x31 x32 x33 x34 x35 x36 x37 x38 x39 x40 x41 x42 x43 x44 x45 x46 x47 x48 x49 x50 x51 x52 x53 x54 x55 x56 x57 x58 x59 x60 x61 x62 x63 x64 x65 x66 x67 x68 x69 x70 x71 x72 x73 x74 x75 x76 x86 x87 x88 x89 x90 x91 x92 x93 x94 x95 x96 : Value) (U : Nat → Value) : Act := { tmps := List.toArray (x0 :: .pointer (some ⟨g, 0, none⟩) :: x2 :: .slice A1 HD.length c1 :: x4 :: x5 :: x6 :: x7 :: x8 :: x9 :: x10 :: x11 :: x12 :: x13 :: x14 :: x15 :: x16 :: x17 :: x18 :: x19 :: x20 :: x21 :: x22 :: x23 :: x24 :: x25 :: x26 :: x27 :: x28 :: x29 :: x30 :: x31 :: x32 :: x33 :: x34 :: x35 :: x36 :: x37 :: x38 :: x39 :: x40 :: x41 :: x42 :: x43 :: x44 :: x45 :: x46 :: x47 :: x48 :: x49 :: x50 :: x51 :: x52 :: x53 :: x54 :: x55 :: x56 :: x57 :: x58 :: x59 :: x60 :: x61 :: x62 :: x63 :: x64 :: x65 :: x66 :: x67 :: x68 :: x69 :: x70 :: x71 :: x72 :: x73 :: x74 :: x75 :: x76 :: U 77 :: U 78 :: U 79 :: U 80 :: U 81 :: U 82 :: U 83 :: U 84 :: U 85 :: x86 :: x87 :: x88 :: x89 :: x90 :: x91 :: x92 :: x93 :: x94 :: x95 :: x96 :: []), defers := [] }
def dstE20 (i : Nat) : Nat := ([88, 89, 90, 91, 92, 93, 94, 95] : List Nat).getD i 0
def depsE20 (i : Nat) : List Nat := ([[], [], [1], [2], [0, 3], [], [5], [4, 6]] : List (List Nat)).getD i []
def FrE20 (w w2 : World) (g : Nat) (a : GA) (m : Mg) (A1 : Option Addr) (c1 : Nat) (HD L1 L2 : List Nat) (a : Act) : Prop := a.eval (.tmp 1) = .pointer (some ⟨g, 0, none⟩) ∧ a.eval (.tmp 3) = .slice A1 HD.length c1
def kindsE20 (w w2 : World) (g : Nat) (a : GA) (m : Mg) (A1 : Option Addr) (c1 : Nat) (HD L1 L2 : List Nat) : List KB := [.own w HD, .eq (.pointer (some ⟨g, 16, none⟩)), .eq (.int .i64 m.idx), .ints [m.idx], .own w L1, .eq (.pointer (some ⟨g, 17, none⟩)), .eq (.agg #[.int .i64 m.ent.s, .int .i64 m.ent.q, .int .i64 m.ent.c.kind, .int .i64 m.ent.c.who, .slice a.c.Ak m.ent.c.key.length a.c.ck, .slice a.c.Av m.ent.c.val.length a.c.cv, .slice a.c.Ao m.ent.c.old.length a.c.co]), .own w L2]
def frameE20 (w w2 : World) (g : Nat) (a : GA) (m : Mg) (A1 : Option Addr) (c1 : Nat) (HD L1 L2 : List Nat) (x0 x2 x4 x5 x6 x7 x8 x9 x10 x11 x12 x13 x14 x15 x16 x17 x18 x19 x20 x21 x22 x23 x24 x25 x26 x27 x28 x29 x30 x31 x32 x33 x34 x35 x36 x37 x38 x39 x40 x41 x42 x43 x44 x45 x46 x47 x48 x49 x50 x51 x52 x53 x54 x55 x56 x57 x58 x59 x60 x61 x62 x63 x64 x65 x66 x67 x68 x69 x70 x71 x72 x73 x74 x75 x76 x77 x78 x79 x80 x81 x82 x83 x84 x85 x86 x87 x96 : Value) (U : Nat → Value) : Act := { tmps := List.toArray (x0 :: .pointer (some ⟨g, 0, none⟩) :: x2 :: .slice A1 HD.length c1 :: x4 :: x5 :: x6 :: x7 :: x8 :: x9 :: x10 :: x11 :: x12 :: x13 :: x14 :: x15 :: x16 :: x17 :: x18 :: x19 :: x20 :: x21 :: x22 :: x23 :: x24 :: x25 :: x26 :: x27 :: x28 :: x29 :: x30 :: x31 :: x32 :: x33 :: x34 :: x35 :: x36 :: x37 :: x38 :: x39 :: x40 :: x41 :: x42 :: x43 :: x44 :: x45 :: x46 :: x47 :: x48 :: x49 :: x50 :: x51 :: x52 :: x53 :: x54 :: x55 :: x56 :: x57 :: x58 :: x59 :: x60 :: x61 :: x62 :: x63 :: x64 :: x65 :: x66 :: x67 :: x68 :: x69 :: x70 :: x71 :: x72 :: x73 :: x74 :: x75 :: x76 :: x77 :: x78 :: x79 :: x80 :: x81 :: x82 :: x83 :: x84 :: x85 :: x86 :: x87 :: U 88 :: U 89 :: U 90 :: U 91 :: U 92 :: U 93 :: U 94 :: U 95 :: x96 :: []), defers := [] }
end Go.Proofs.Ytmdkbmafkglhdaa

