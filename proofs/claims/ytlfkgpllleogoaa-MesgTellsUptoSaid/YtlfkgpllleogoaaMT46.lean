/- Ref11OkB -/
import Derived.Test.YtlfkgpllleogoaaMT45
namespace Go.Proofs.Ytlfkgpllleogoaa
open Go.RowKit
set_option linter.unusedVariables false
set_option maxHeartbeats 8000000 in
set_option maxRecDepth 100000 in
theorem refOk_body (w : World) {a : GA} {m : Mg} {B : Nat} (hM : m.Wide) (hr : RdG w B a m) (hh : m.headOk = true) : Calls Try.prog 35 #[msgV a m] w fun e w' => e = .returned (.bool m.ok) ∧ Below w.heap.size w w' := by
  obtain ⟨wa, hwa⟩ : ∃ x, w.alloc (.cells #[.int .i64 m.kind, .int .i64 m.frm, .int .i64 m.dst, .int .i64 m.view, .int .i64 m.inst, .int .i64 m.len, .bool m.has, .int .i64 m.mem, .int .i64 m.src, .int .i64 m.pos, .int .i64 m.tot, .slice a.Ad m.data.length a.cd, .int .i64 m.hop, .int .i64 m.seq, .slice a.Ah m.hav.length a.ch, .slice a.An m.nee.length a.cn, .int .i64 m.idx, .int .i64 m.ent.s, .int .i64 m.ent.q, .int .i64 m.ent.c.kind, .int .i64 m.ent.c.who, .slice a.c.Ak m.ent.c.key.length a.c.ck, .slice a.c.Av m.ent.c.val.length a.c.cv, .slice a.c.Ao m.ent.c.old.length a.c.co] 29) = x := ⟨_, rfl⟩
  have bb : Below w.heap.size w wa := by rw [← hwa]; exact (Below.refl _ _).alloc (Nat.le_refl _) _
  obtain ⟨g, hg⟩ : ∃ g, w.heap.size = g := ⟨_, rfl⟩
  have k1 : Blk wa g 29 #[.int .i64 m.kind, .int .i64 m.frm, .int .i64 m.dst, .int .i64 m.view, .int .i64 m.inst, .int .i64 m.len, .bool m.has, .int .i64 m.mem, .int .i64 m.src, .int .i64 m.pos, .int .i64 m.tot, .slice a.Ad m.data.length a.cd, .int .i64 m.hop, .int .i64 m.seq, .slice a.Ah m.hav.length a.ch, .slice a.An m.nee.length a.cn, .int .i64 m.idx, .int .i64 m.ent.s, .int .i64 m.ent.q, .int .i64 m.ent.c.kind, .int .i64 m.ent.c.who, .slice a.c.Ak m.ent.c.key.length a.c.ck, .slice a.c.Av m.ent.c.val.length a.c.cv, .slice a.c.Ao m.ent.c.old.length a.c.co] := by rw [← hwa, ← hg]; exact Blk.new _ _ _
  have HF : Hid (∀ wx, Below wa.heap.size wa wx → Blk wx g 29 #[.int .i64 m.kind, .int .i64 m.frm, .int .i64 m.dst, .int .i64 m.view, .int .i64 m.inst, .int .i64 m.len, .bool m.has, .int .i64 m.mem, .int .i64 m.src, .int .i64 m.pos, .int .i64 m.tot, .slice a.Ad m.data.length a.cd, .int .i64 m.hop, .int .i64 m.seq, .slice a.Ah m.hav.length a.ch, .slice a.An m.nee.length a.cn, .int .i64 m.idx, .int .i64 m.ent.s, .int .i64 m.ent.q, .int .i64 m.ent.c.kind, .int .i64 m.ent.c.who, .slice a.c.Ak m.ent.c.key.length a.c.ck, .slice a.c.Av m.ent.c.val.length a.c.cv, .slice a.c.Ao m.ent.c.old.length a.c.co]) := Lib.hid (fun wx hb => k1.below hb)
  have HB := Lib.hid bb
  have HWA := Lib.hid hwa
  have HG := Lib.hid hg
  clear k1 bb hwa hg
  have HR := Lib.hid (hr.fit.below HB.out)
  have hok : m.ok = m.tailOk := by unfold Mg.ok; rw [hh]; rfl
  have hs := hh
  unfold Mg.headOk at hs
  simp only [Bool.and_eq_true, wi_iff] at hs
  have q0 : ¬ m.frm < 0 := by omega
  have q1 : ¬ 6 < m.frm := by omega
  have q2 : ¬ m.dst < 0 := by omega
  have q3 : ¬ 6 < m.dst := by omega
  have q4 : ¬ m.view < 0 := by omega
  have q5 : ¬ 1099511627776 < m.view := by omega
  have HM := Lib.hid hM
  obtain ⟨T, hT⟩ : ∃ T, m.ok = T := ⟨_, rfl⟩
  have HT : Hid (m.tailOk = T) := Lib.hid (hok.symm.trans hT)
  rw [hT]
  clear hs hh hok hT hr hM
  unfold msgV msgC
  go_enter Try.func35, Try.ntmps35
  go_upto_region 1 with fail
  rw [HG.out, HWA.out]
  clear HWA
  have x0 : wa.cell? ⟨g, 0, none⟩ = some (.int .i64 m.kind) := (HF.out _ (Below.refl _ _)).cell 0
  have x1 : wa.cell? ⟨g, 1, none⟩ = some (.int .i64 m.frm) := (HF.out _ (Below.refl _ _)).cell 1
  have x2 : wa.cell? ⟨g, 2, none⟩ = some (.int .i64 m.dst) := (HF.out _ (Below.refl _ _)).cell 2
  have x3 : wa.cell? ⟨g, 3, none⟩ = some (.int .i64 m.view) := (HF.out _ (Below.refl _ _)).cell 3
  go_upto_region 4 with fail
  clear q0 q1 q2 q3 q4 q5 x1 x2 x3 x0
  by_cases hk : m.kind = 1
  · have s1 : (m.kind == 1) = true := by rw [hk]; rfl
    have s6 : (m.kind == 6) = false := by rw [hk]; rfl
    have s2 : (m.kind == 2) = false := by rw [hk]; rfl
    have s3 : (m.kind == 3) = false := by rw [hk]; rfl
    have s4 : (m.kind == 4) = false := by rw [hk]; rfl
    have s5 : (m.kind == 5) = false := by rw [hk]; rfl
    have s7 : (m.kind == 7) = false := by rw [hk]; rfl
    have s8 : (m.kind == 8) = false := by rw [hk]; rfl
    have hkk := Lib.hid hk
    clear hk
    have hT : T = true := by
      rw [← HT.out]
      unfold Mg.tailOk
      simp [hkk.out]
    go_wp2
    go_ret
    exact ⟨by first | rfl | (rw [hT]; rfl), HB.out⟩
  by_cases hk : m.kind = 6
  · have s1 : (m.kind == 1) = false := by rw [hk]; rfl
    have s6 : (m.kind == 6) = true := by rw [hk]; rfl
    have s2 : (m.kind == 2) = false := by rw [hk]; rfl
    have s3 : (m.kind == 3) = false := by rw [hk]; rfl
    have s4 : (m.kind == 4) = false := by rw [hk]; rfl
    have s5 : (m.kind == 5) = false := by rw [hk]; rfl
    have s7 : (m.kind == 7) = false := by rw [hk]; rfl
    have s8 : (m.kind == 8) = false := by rw [hk]; rfl
    have hkk := Lib.hid hk
    clear hk
    have hT : T = true := by
      rw [← HT.out]
      unfold Mg.tailOk
      simp [hkk.out]
    go_wp2
    go_ret
    exact ⟨by first | rfl | (rw [hT]; rfl), HB.out⟩
  by_cases hk : m.kind = 2
  · have s1 : (m.kind == 1) = false := by rw [hk]; rfl
    have s6 : (m.kind == 6) = false := by rw [hk]; rfl
    have s2 : (m.kind == 2) = true := by rw [hk]; rfl
    have s3 : (m.kind == 3) = false := by rw [hk]; rfl
    have s4 : (m.kind == 4) = false := by rw [hk]; rfl
    have s5 : (m.kind == 5) = false := by rw [hk]; rfl
    have s7 : (m.kind == 7) = false := by rw [hk]; rfl
    have s8 : (m.kind == 8) = false := by rw [hk]; rfl
    have hkk := Lib.hid hk
    clear hk
    obtain ⟨D1, hD1⟩ : ∃ D, wis 2 [m.inst, m.len] = D := ⟨_, rfl⟩
    have hT : T = D1 := by
      rw [← HT.out]
      rw [← hD1, wis2]
      unfold Mg.tailOk
      simp [hkk.out]
    have CW : Hid (Calls Try.prog 64 #[.slice (some ⟨wa.heap.size, 0, none⟩) 2 2, .int .i64 2] (wa.alloc (.cells #[.int .i64 m.inst, .int .i64 m.len] 3)) fun e w' => e = .returned (.bool D1) ∧ wa.alloc (.cells #[.int .i64 m.inst, .int .i64 m.len] 3) = w') := Lib.hid (refWithin_is (zs := [m.inst, m.len]) (k := 2) rfl hD1 (Rd.made wa #[.int .i64 m.inst, .int .i64 m.len] 3 (0, 0) 2 rfl) (by omega) (by omega))
    have x4 : wa.cell? ⟨g, 4, none⟩ = some (.int .i64 m.inst) := (HF.out _ (Below.refl _ _)).cell 4
    have x5 : wa.cell? ⟨g, 5, none⟩ = some (.int .i64 m.len) := (HF.out _ (Below.refl _ _)).cell 5
    clear hD1
    go_wp2_with (first | (go_at_call 64; refine CW.out.mono ?_; rintro en wq ⟨rfl, rfl⟩) | fail)
    go_ret
    exact ⟨by first | rfl | (rw [hT]; rfl), HB.out.alloc HB.out.size _⟩
  by_cases hk : m.kind = 3
  · have s1 : (m.kind == 1) = false := by rw [hk]; rfl
    have s6 : (m.kind == 6) = false := by rw [hk]; rfl
    have s2 : (m.kind == 2) = false := by rw [hk]; rfl
    have s3 : (m.kind == 3) = true := by rw [hk]; rfl
    have s4 : (m.kind == 4) = false := by rw [hk]; rfl
    have s5 : (m.kind == 5) = false := by rw [hk]; rfl
    have s7 : (m.kind == 7) = false := by rw [hk]; rfl
    have s8 : (m.kind == 8) = false := by rw [hk]; rfl
    have hkk := Lib.hid hk
    clear hk
    obtain ⟨D1, hD1⟩ : ∃ D, wis 1 [m.len] = D := ⟨_, rfl⟩
    have CW : Hid (Calls Try.prog 64 #[.slice (some ⟨wa.heap.size, 0, none⟩) 1 1, .int .i64 1] (wa.alloc (.cells #[.int .i64 m.len] 3)) fun e w' => e = .returned (.bool D1) ∧ wa.alloc (.cells #[.int .i64 m.len] 3) = w') := Lib.hid (refWithin_is (zs := [m.len]) (k := 1) rfl hD1 (Rd.made wa #[.int .i64 m.len] 3 (0, 0) 1 rfl) (by omega) (by omega))
    have hT : T = (decide (0 ≤ m.mem) && (decide (m.mem ≤ 127) && (decide (0 ≤ m.src) && (decide (m.src ≤ 6) && D1)))) := by
      rw [← HT.out, ← hD1, wis1]
      unfold Mg.tailOk wi
      simp [hkk.out, Bool.and_assoc]
    clear hD1
    have HTT := Lib.hid hT
    clear hT
    have x7 : wa.cell? ⟨g, 7, none⟩ = some (.int .i64 m.mem) := (HF.out _ (Below.refl _ _)).cell 7
    have x8 : wa.cell? ⟨g, 8, none⟩ = some (.int .i64 m.src) := (HF.out _ (Below.refl _ _)).cell 8
    have x5 : wa.cell? ⟨g, 5, none⟩ = some (.int .i64 m.len) := (HF.out _ (Below.refl _ _)).cell 5
    by_cases u1 : 0 ≤ m.mem
    · by_cases u2 : m.mem ≤ 127
      · by_cases u3 : 0 ≤ m.src
        · by_cases u4 : m.src ≤ 6
          · have hT : T = D1 := by rw [HTT.out, decide_eq_true u1, decide_eq_true u2, decide_eq_true u3, decide_eq_true u4]; rfl
            go_wp2_with (first | (go_at_call 64; refine CW.out.mono ?_; rintro en wq ⟨rfl, rfl⟩) | fail)
            go_ret
            exact ⟨by first | rfl | (rw [hT]; rfl), HB.out.alloc HB.out.size _⟩
          · have hT : T = false := by rw [HTT.out, decide_eq_true u1, decide_eq_true u2, decide_eq_true u3, decide_eq_false u4]; rfl
            go_wp2
            go_ret
            exact ⟨by first | rfl | (rw [hT]; rfl), HB.out⟩
        · have hT : T = false := by rw [HTT.out, decide_eq_true u1, decide_eq_true u2, decide_eq_false u3]; rfl
          go_wp2
          go_ret
          exact ⟨by first | rfl | (rw [hT]; rfl), HB.out⟩
      · have hT : T = false := by rw [HTT.out, decide_eq_true u1, decide_eq_false u2]; rfl
        go_wp2
        go_ret
        exact ⟨by first | rfl | (rw [hT]; rfl), HB.out⟩
    · have hT : T = false := by rw [HTT.out, decide_eq_false u1]; rfl
      go_wp2
      go_ret
      exact ⟨by first | rfl | (rw [hT]; rfl), HB.out⟩
  by_cases hk : m.kind = 4
  · have s1 : (m.kind == 1) = false := by rw [hk]; rfl
    have s6 : (m.kind == 6) = false := by rw [hk]; rfl
    have s2 : (m.kind == 2) = false := by rw [hk]; rfl
    have s3 : (m.kind == 3) = false := by rw [hk]; rfl
    have s4 : (m.kind == 4) = true := by rw [hk]; rfl
    have s5 : (m.kind == 5) = false := by rw [hk]; rfl
    have s7 : (m.kind == 7) = false := by rw [hk]; rfl
    have s8 : (m.kind == 8) = false := by rw [hk]; rfl
    have hkk := Lib.hid hk
    clear hk
    obtain ⟨D1, hD1⟩ : ∃ D, wis 1 [m.pos] = D := ⟨_, rfl⟩
    have hT : T = D1 := by
      rw [← HT.out]
      rw [← hD1, wis1]
      unfold Mg.tailOk
      simp [hkk.out]
    have CW : Hid (Calls Try.prog 64 #[.slice (some ⟨wa.heap.size, 0, none⟩) 1 1, .int .i64 1] (wa.alloc (.cells #[.int .i64 m.pos] 3)) fun e w' => e = .returned (.bool D1) ∧ wa.alloc (.cells #[.int .i64 m.pos] 3) = w') := Lib.hid (refWithin_is (zs := [m.pos]) (k := 1) rfl hD1 (Rd.made wa #[.int .i64 m.pos] 3 (0, 0) 1 rfl) (by omega) (by omega))
    have x9 : wa.cell? ⟨g, 9, none⟩ = some (.int .i64 m.pos) := (HF.out _ (Below.refl _ _)).cell 9
    clear hD1
    go_wp2_with (first | (go_at_call 64; refine CW.out.mono ?_; rintro en wq ⟨rfl, rfl⟩) | fail)
    go_ret
    exact ⟨by first | rfl | (rw [hT]; rfl), HB.out.alloc HB.out.size _⟩
  by_cases hk : m.kind = 5
  · have s1 : (m.kind == 1) = false := by rw [hk]; rfl
    have s6 : (m.kind == 6) = false := by rw [hk]; rfl
    have s2 : (m.kind == 2) = false := by rw [hk]; rfl
    have s3 : (m.kind == 3) = false := by rw [hk]; rfl
    have s4 : (m.kind == 4) = false := by rw [hk]; rfl
    have s5 : (m.kind == 5) = true := by rw [hk]; rfl
    have s7 : (m.kind == 7) = false := by rw [hk]; rfl
    have s8 : (m.kind == 8) = false := by rw [hk]; rfl
    have hkk := Lib.hid hk
    clear hk
    obtain ⟨D1, hD1⟩ : ∃ D, wis 2 [m.pos, m.tot] = D := ⟨_, rfl⟩
    have hT : T = (D1 && decide (m.data.length ≤ 64)) := by
      rw [← HT.out, ← hD1, wis2]
      unfold Mg.tailOk
      simp [hkk.out, Bool.and_assoc]
    have CW : Hid (Calls Try.prog 64 #[.slice (some ⟨wa.heap.size, 0, none⟩) 2 2, .int .i64 2] (wa.alloc (.cells #[.int .i64 m.pos, .int .i64 m.tot] 3)) fun e w' => e = .returned (.bool D1) ∧ wa.alloc (.cells #[.int .i64 m.pos, .int .i64 m.tot] 3) = w') := Lib.hid (refWithin_is (zs := [m.pos, m.tot]) (k := 2) rfl hD1 (Rd.made wa #[.int .i64 m.pos, .int .i64 m.tot] 3 (0, 0) 2 rfl) (by omega) (by omega))
    have x9 : wa.cell? ⟨g, 9, none⟩ = some (.int .i64 m.pos) := (HF.out _ (Below.refl _ _)).cell 9
    have x10 : wa.cell? ⟨g, 10, none⟩ = some (.int .i64 m.tot) := (HF.out _ (Below.refl _ _)).cell 10
    have y11 : (wa.alloc (.cells #[.int .i64 m.pos, .int .i64 m.tot] 3)).cell? ⟨g, 11, none⟩ = some (.slice a.Ad m.data.length a.cd) := (HF.out _ ((Below.refl _ _).alloc (Nat.le_refl _) _)).cell 11
    clear hD1
    have HTT := Lib.hid hT
    clear hT
    cases D1 with
    | false =>
      go_wp2_with (first | (go_at_call 64; refine CW.out.mono ?_; rintro en wq ⟨rfl, rfl⟩) | fail)
      go_ret
      exact ⟨by rw [HTT.out]; rfl, HB.out.alloc HB.out.size _⟩
    | true =>
      obtain ⟨D2, hD2⟩ : ∃ D, decide (m.data.length ≤ 64) = D := ⟨_, rfl⟩
      have hD3 : decide ((m.data.length : Int) ≤ 64) = D2 := by rw [← hD2]; exact decide_eq_decide.2 (by omega)
      have HD2 := Lib.hid hD2
      have HD3 := Lib.hid hD3
      cases D2 with
      | false =>
        have u := of_decide_eq_false hD3
        clear hD2 hD3
        go_wp2_with (first | (go_at_call 64; refine CW.out.mono ?_; rintro en wq ⟨rfl, rfl⟩) | fail)
        go_ret
        exact ⟨by rw [HTT.out, HD2.out]; first | rfl | exact congrArg (fun b => Ending.returned (Value.bool b)) HD3.out, HB.out.alloc HB.out.size _⟩
      | true =>
        have u := of_decide_eq_true hD3
        clear hD2 hD3
        go_wp2_with (first | (go_at_call 64; refine CW.out.mono ?_; rintro en wq ⟨rfl, rfl⟩) | fail)
        go_ret
        exact ⟨by rw [HTT.out, HD2.out]; first | rfl | exact congrArg (fun b => Ending.returned (Value.bool b)) HD3.out, HB.out.alloc HB.out.size _⟩
  by_cases hk : m.kind = 7
  · have s1 : (m.kind == 1) = false := by rw [hk]; rfl
    have s6 : (m.kind == 6) = false := by rw [hk]; rfl
    have s2 : (m.kind == 2) = false := by rw [hk]; rfl
    have s3 : (m.kind == 3) = false := by rw [hk]; rfl
    have s4 : (m.kind == 4) = false := by rw [hk]; rfl
    have s5 : (m.kind == 5) = false := by rw [hk]; rfl
    have s7 : (m.kind == 7) = true := by rw [hk]; rfl
    have s8 : (m.kind == 8) = false := by rw [hk]; rfl
    have hkk := Lib.hid hk
    clear hk
    obtain ⟨D1, hD1⟩ : ∃ D, wis 2 [m.hop, m.seq] = D := ⟨_, rfl⟩
    obtain ⟨D2, hD2⟩ : ∃ D, wis 7 m.hav = D := ⟨_, rfl⟩
    obtain ⟨D3, hD3⟩ : ∃ D, wis 8 m.nee = D := ⟨_, rfl⟩
    have hT : T = (D1 && (D2 && D3)) := by
      rw [← HT.out, ← hD1, ← hD2, ← hD3, wis2]
      unfold Mg.tailOk
      simp [hkk.out, Bool.and_assoc]
    have CW : Hid (Calls Try.prog 64 #[.slice (some ⟨wa.heap.size, 0, none⟩) 2 2, .int .i64 2] (wa.alloc (.cells #[.int .i64 m.hop, .int .i64 m.seq] 3)) fun e w' => e = .returned (.bool D1) ∧ wa.alloc (.cells #[.int .i64 m.hop, .int .i64 m.seq] 3) = w') := Lib.hid (refWithin_is (zs := [m.hop, m.seq]) (k := 2) rfl hD1 (Rd.made wa #[.int .i64 m.hop, .int .i64 m.seq] 3 (0, 0) 2 rfl) (by omega) (by omega))
    have x12 : wa.cell? ⟨g, 12, none⟩ = some (.int .i64 m.hop) := (HF.out _ (Below.refl _ _)).cell 12
    have x13 : wa.cell? ⟨g, 13, none⟩ = some (.int .i64 m.seq) := (HF.out _ (Below.refl _ _)).cell 13
    have y14 : (wa.alloc (.cells #[.int .i64 m.hop, .int .i64 m.seq] 3)).cell? ⟨g, 14, none⟩ = some (.slice a.Ah m.hav.length a.ch) := (HF.out _ ((Below.refl _ _).alloc (Nat.le_refl _) _)).cell 14
    have y15 : (wa.alloc (.cells #[.int .i64 m.hop, .int .i64 m.seq] 3)).cell? ⟨g, 15, none⟩ = some (.slice a.An m.nee.length a.cn) := (HF.out _ ((Below.refl _ _).alloc (Nat.le_refl _) _)).cell 15
    have CH : Hid (Calls Try.prog 64 #[.slice a.Ah m.hav.length a.ch, .int .i64 7] (wa.alloc (.cells #[.int .i64 m.hop, .int .i64 m.seq] 3)) fun e w' => e = .returned (.bool D2) ∧ (wa.alloc (.cells #[.int .i64 m.hop, .int .i64 m.seq] 3)) = w') := Lib.hid (refWithin_is (zs := m.hav) (k := 7) rfl hD2 (HR.out.h.fit.below ((Below.refl _ _).alloc (Nat.le_refl _) _)) HM.out.h (by omega))
    have CN : Hid (Calls Try.prog 64 #[.slice a.An m.nee.length a.cn, .int .i64 8] (wa.alloc (.cells #[.int .i64 m.hop, .int .i64 m.seq] 3)) fun e w' => e = .returned (.bool D3) ∧ (wa.alloc (.cells #[.int .i64 m.hop, .int .i64 m.seq] 3)) = w') := Lib.hid (refWithin_is (zs := m.nee) (k := 8) rfl hD3 (HR.out.n.fit.below ((Below.refl _ _).alloc (Nat.le_refl _) _)) HM.out.n (by omega))
    clear hD1 hD2 hD3
    have HTT := Lib.hid hT
    clear hT
    cases D1 with
    | false =>
      go_wp2_with fail
      refine CW.out.mono ?_
      rintro en wq ⟨rfl, rfl⟩
      go_wp2_with fail
      go_ret
      exact ⟨by rw [HTT.out]; rfl, HB.out.alloc HB.out.size _⟩
    | true =>
      cases D2 with
      | false =>
        go_wp2_with fail
        refine CW.out.mono ?_
        rintro en wq ⟨rfl, rfl⟩
        go_wp2_with fail
        refine CH.out.mono ?_
        rintro en wq ⟨rfl, rfl⟩
        go_wp2_with fail
        go_ret
        exact ⟨by rw [HTT.out]; rfl, HB.out.alloc HB.out.size _⟩
      | true =>
        go_wp2_with fail
        refine CW.out.mono ?_
        rintro en wq ⟨rfl, rfl⟩
        go_wp2_with fail
        refine CH.out.mono ?_
        rintro en wq ⟨rfl, rfl⟩
        go_wp2_with fail
        refine CN.out.mono ?_
        rintro en wq ⟨rfl, rfl⟩
        go_wp2_with fail
        go_ret
        exact ⟨by rw [HTT.out]; rfl, HB.out.alloc HB.out.size _⟩
  by_cases hk : m.kind = 8
  · have s1 : (m.kind == 1) = false := by rw [hk]; rfl
    have s6 : (m.kind == 6) = false := by rw [hk]; rfl
    have s2 : (m.kind == 2) = false := by rw [hk]; rfl
    have s3 : (m.kind == 3) = false := by rw [hk]; rfl
    have s4 : (m.kind == 4) = false := by rw [hk]; rfl
    have s5 : (m.kind == 5) = false := by rw [hk]; rfl
    have s7 : (m.kind == 7) = false := by rw [hk]; rfl
    have s8 : (m.kind == 8) = true := by rw [hk]; rfl
    have hkk := Lib.hid hk
    clear hk
    obtain ⟨D1, hD1⟩ : ∃ D, wis 1 [m.idx] = D := ⟨_, rfl⟩
    obtain ⟨D2, hD2⟩ : ∃ D, m.ent.ok = D := ⟨_, rfl⟩
    have hT : T = (D1 && D2) := by
      rw [← HT.out, ← hD1, ← hD2, wis1]
      unfold Mg.tailOk
      simp [hkk.out]
    have CW : Hid (Calls Try.prog 64 #[.slice (some ⟨wa.heap.size, 0, none⟩) 1 1, .int .i64 1] (wa.alloc (.cells #[.int .i64 m.idx] 3)) fun e w' => e = .returned (.bool D1) ∧ wa.alloc (.cells #[.int .i64 m.idx] 3) = w') := Lib.hid (refWithin_is (zs := [m.idx]) (k := 1) rfl hD1 (Rd.made wa #[.int .i64 m.idx] 3 (0, 0) 1 rfl) (by omega) (by omega))
    have x16 : wa.cell? ⟨g, 16, none⟩ = some (.int .i64 m.idx) := (HF.out _ (Below.refl _ _)).cell 16
    have CE : Hid (∀ wx, Calls Try.prog 65 #[.agg #[.int .i64 m.ent.s, .int .i64 m.ent.q, .int .i64 m.ent.c.kind, .int .i64 m.ent.c.who, .slice a.c.Ak m.ent.c.key.length a.c.ck, .slice a.c.Av m.ent.c.val.length a.c.cv, .slice a.c.Ao m.ent.c.old.length a.c.co]] wx fun e w' => e = .returned (.bool D2) ∧ Below wx.heap.size wx w') := Lib.hid (fun wx => by rw [← hD2]; exact refEntry11 wx (ca := a.c) (e := m.ent))
    clear hD1 hD2
    have HTT := Lib.hid hT
    clear hT
    have hbw : Below wa.heap.size wa (wa.alloc (.cells #[.int .i64 m.idx] 3)) := (Below.refl _ _).alloc (Nat.le_refl _) _
    have HBW := Lib.hid hbw
    clear hbw
    have HCE : Hid ((wa.alloc (.cells #[.int .i64 m.idx] 3)).rangeAt g 17 [.int .i64 m.ent.s, .int .i64 m.ent.q, .int .i64 m.ent.c.kind, .int .i64 m.ent.c.who, .slice a.c.Ak m.ent.c.key.length a.c.ck, .slice a.c.Av m.ent.c.val.length a.c.cv, .slice a.c.Ao m.ent.c.old.length a.c.co]) := Lib.hid (show (wa.alloc (.cells #[.int .i64 m.idx] 3)).rangeAt g 17 ((#[.int .i64 m.kind, .int .i64 m.frm, .int .i64 m.dst, .int .i64 m.view, .int .i64 m.inst, .int .i64 m.len, .bool m.has, .int .i64 m.mem, .int .i64 m.src, .int .i64 m.pos, .int .i64 m.tot, .slice a.Ad m.data.length a.cd, .int .i64 m.hop, .int .i64 m.seq, .slice a.Ah m.hav.length a.ch, .slice a.An m.nee.length a.cn, .int .i64 m.idx, .int .i64 m.ent.s, .int .i64 m.ent.q, .int .i64 m.ent.c.kind, .int .i64 m.ent.c.who, .slice a.c.Ak m.ent.c.key.length a.c.ck, .slice a.c.Av m.ent.c.val.length a.c.cv, .slice a.c.Ao m.ent.c.old.length a.c.co] : Array Value).toList.drop 17) from fun j v hv => by
      have q := (HF.out _ HBW.out).cell (17 + j)
      rw [List.getElem?_drop] at hv
      rw [q]
      simpa using hv)
    cases D1 with
    | false =>
      go_wp2_with (first | (go_at_call 64; refine CW.out.mono ?_; rintro en wq ⟨rfl, rfl⟩) | fail)
      go_ret
      exact ⟨by rw [HTT.out]; rfl, HB.out.alloc HB.out.size _⟩
    | true =>
      go_wp2_with (first
        | (go_at_call 64; refine CW.out.mono ?_; rintro en wq ⟨rfl, rfl⟩)
        | (refine wpList_load_midG (by rfl) 27 (.tmp 115) rfl g 17 rfl [.int .i64 m.ent.s, .int .i64 m.ent.q, .int .i64 m.ent.c.kind, .int .i64 m.ent.c.who, .slice a.c.Ak m.ent.c.key.length a.c.ck, .slice a.c.Av m.ent.c.val.length a.c.cv, .slice a.c.Ao m.ent.c.old.length a.c.co] _ HCE.out Try.underlying27 rfl (by kernel_rfl) ?_)
        | (go_at_call 65; refine (CE.out _).mono ?_; rintro en w9 ⟨rfl, hb9⟩; have HB9 := Lib.hid (HB.out.trans ((HBW.out.trans (hb9.mono HBW.out.size)).mono HB.out.size)); clear hb9)
        | fail)
      go_ret
      exact ⟨by rw [HTT.out]; rfl, HB9.out⟩
  have s1 : (m.kind == 1) = false := by rw [beq_eq_false_iff_ne]; assumption
  have s6 : (m.kind == 6) = false := by rw [beq_eq_false_iff_ne]; assumption
  have s2 : (m.kind == 2) = false := by rw [beq_eq_false_iff_ne]; assumption
  have s3 : (m.kind == 3) = false := by rw [beq_eq_false_iff_ne]; assumption
  have s4 : (m.kind == 4) = false := by rw [beq_eq_false_iff_ne]; assumption
  have s5 : (m.kind == 5) = false := by rw [beq_eq_false_iff_ne]; assumption
  have s7 : (m.kind == 7) = false := by rw [beq_eq_false_iff_ne]; assumption
  have s8 : (m.kind == 8) = false := by rw [beq_eq_false_iff_ne]; assumption
  have hT : T = false := by
    rw [← HT.out]
    unfold Mg.tailOk
    simp [*]
  go_wp2
  go_ret
  exact ⟨by first | rfl | (rw [hT]; rfl), HB.out⟩
theorem refOk11 (w : World) {a : GA} {m : Mg} {B : Nat} (hM : m.Wide) (hr : RdG w B a m) : Calls Try.prog 35 #[msgV a m] w fun e w' => e = .returned (.bool m.ok) ∧ Below w.heap.size w w' := by
  cases hh : m.headOk with
  | true => exact refOk_body w hM hr hh
  | false =>
    have : m.ok = false := by unfold Mg.ok; rw [hh]; rfl
    rw [this]
    exact refOk_head w hh
end Go.Proofs.Ytlfkgpllleogoaa

