/- MesgSame -/
import Derived.Test.YtlfkgpllleogoaaMT10
import Derived.Test.YtlfkgpllleogoaaMT26
namespace Go.Proofs.Ytlfkgpllleogoaa
open Go.RowKit
set_option linter.unusedVariables false
set_option maxHeartbeats 8000000 in
set_option maxRecDepth 100000 in
theorem same11 (w : World) {a a' : GA} {m m' : Mg} {B B' : Nat} (hM : m.Wide) (hM' : m'.Wide) (h : RdG w B a m) (h' : RdG w B' a' m') : Calls Try.prog 17 #[msgV a m, msgV a' m'] w fun e w' => e = .returned (.bool (decide (m = m'))) ∧ Below w.heap.size w w' := by
  obtain ⟨wa, hwa⟩ : ∃ x, (w.alloc (.cells #[.int .i64 m.kind, .int .i64 m.frm, .int .i64 m.dst, .int .i64 m.view, .int .i64 m.inst, .int .i64 m.len, .bool m.has, .int .i64 m.mem, .int .i64 m.src, .int .i64 m.pos, .int .i64 m.tot, .slice a.Ad m.data.length a.cd, .int .i64 m.hop, .int .i64 m.seq, .slice a.Ah m.hav.length a.ch, .slice a.An m.nee.length a.cn, .int .i64 m.idx, .int .i64 m.ent.s, .int .i64 m.ent.q, .int .i64 m.ent.c.kind, .int .i64 m.ent.c.who, .slice a.c.Ak m.ent.c.key.length a.c.ck, .slice a.c.Av m.ent.c.val.length a.c.cv, .slice a.c.Ao m.ent.c.old.length a.c.co] 29)).alloc (.cells #[.int .i64 m'.kind, .int .i64 m'.frm, .int .i64 m'.dst, .int .i64 m'.view, .int .i64 m'.inst, .int .i64 m'.len, .bool m'.has, .int .i64 m'.mem, .int .i64 m'.src, .int .i64 m'.pos, .int .i64 m'.tot, .slice a'.Ad m'.data.length a'.cd, .int .i64 m'.hop, .int .i64 m'.seq, .slice a'.Ah m'.hav.length a'.ch, .slice a'.An m'.nee.length a'.cn, .int .i64 m'.idx, .int .i64 m'.ent.s, .int .i64 m'.ent.q, .int .i64 m'.ent.c.kind, .int .i64 m'.ent.c.who, .slice a'.c.Ak m'.ent.c.key.length a'.c.ck, .slice a'.c.Av m'.ent.c.val.length a'.c.cv, .slice a'.c.Ao m'.ent.c.old.length a'.c.co] 29) = x := ⟨_, rfl⟩
  have bb : Below w.heap.size w wa := by rw [← hwa]; exact ((Below.refl _ _).alloc (Nat.le_refl _) _).alloc (by rw [World.size_alloc]; omega) _
  obtain ⟨g, hg⟩ : ∃ g, w.heap.size = g := ⟨_, rfl⟩
  have k1 : Blk wa g 29 #[.int .i64 m.kind, .int .i64 m.frm, .int .i64 m.dst, .int .i64 m.view, .int .i64 m.inst, .int .i64 m.len, .bool m.has, .int .i64 m.mem, .int .i64 m.src, .int .i64 m.pos, .int .i64 m.tot, .slice a.Ad m.data.length a.cd, .int .i64 m.hop, .int .i64 m.seq, .slice a.Ah m.hav.length a.ch, .slice a.An m.nee.length a.cn, .int .i64 m.idx, .int .i64 m.ent.s, .int .i64 m.ent.q, .int .i64 m.ent.c.kind, .int .i64 m.ent.c.who, .slice a.c.Ak m.ent.c.key.length a.c.ck, .slice a.c.Av m.ent.c.val.length a.c.cv, .slice a.c.Ao m.ent.c.old.length a.c.co] := by rw [← hwa, ← hg]; exact (Blk.new _ _ _).alloc _
  have k2 : Blk wa (g + 1) 29 #[.int .i64 m'.kind, .int .i64 m'.frm, .int .i64 m'.dst, .int .i64 m'.view, .int .i64 m'.inst, .int .i64 m'.len, .bool m'.has, .int .i64 m'.mem, .int .i64 m'.src, .int .i64 m'.pos, .int .i64 m'.tot, .slice a'.Ad m'.data.length a'.cd, .int .i64 m'.hop, .int .i64 m'.seq, .slice a'.Ah m'.hav.length a'.ch, .slice a'.An m'.nee.length a'.cn, .int .i64 m'.idx, .int .i64 m'.ent.s, .int .i64 m'.ent.q, .int .i64 m'.ent.c.kind, .int .i64 m'.ent.c.who, .slice a'.c.Ak m'.ent.c.key.length a'.c.ck, .slice a'.c.Av m'.ent.c.val.length a'.c.cv, .slice a'.c.Ao m'.ent.c.old.length a'.c.co] := by
    rw [← hwa, ← hg]
    have := Blk.new (w.alloc (.cells #[.int .i64 m.kind, .int .i64 m.frm, .int .i64 m.dst, .int .i64 m.view, .int .i64 m.inst, .int .i64 m.len, .bool m.has, .int .i64 m.mem, .int .i64 m.src, .int .i64 m.pos, .int .i64 m.tot, .slice a.Ad m.data.length a.cd, .int .i64 m.hop, .int .i64 m.seq, .slice a.Ah m.hav.length a.ch, .slice a.An m.nee.length a.cn, .int .i64 m.idx, .int .i64 m.ent.s, .int .i64 m.ent.q, .int .i64 m.ent.c.kind, .int .i64 m.ent.c.who, .slice a.c.Ak m.ent.c.key.length a.c.ck, .slice a.c.Av m.ent.c.val.length a.c.cv, .slice a.c.Ao m.ent.c.old.length a.c.co] 29)) 29 #[.int .i64 m'.kind, .int .i64 m'.frm, .int .i64 m'.dst, .int .i64 m'.view, .int .i64 m'.inst, .int .i64 m'.len, .bool m'.has, .int .i64 m'.mem, .int .i64 m'.src, .int .i64 m'.pos, .int .i64 m'.tot, .slice a'.Ad m'.data.length a'.cd, .int .i64 m'.hop, .int .i64 m'.seq, .slice a'.Ah m'.hav.length a'.ch, .slice a'.An m'.nee.length a'.cn, .int .i64 m'.idx, .int .i64 m'.ent.s, .int .i64 m'.ent.q, .int .i64 m'.ent.c.kind, .int .i64 m'.ent.c.who, .slice a'.c.Ak m'.ent.c.key.length a'.c.ck, .slice a'.c.Av m'.ent.c.val.length a'.c.cv, .slice a'.c.Ao m'.ent.c.old.length a'.c.co]
    rwa [World.size_alloc] at this
  have HB := Lib.hid bb
  have HWA := Lib.hid hwa
  have HG := Lib.hid hg
  have R := h.fit.below bb
  have R' := h'.fit.below bb
  obtain ⟨D0, d0⟩ : ∃ D : Bool, decide (m.kind = m'.kind) = D := ⟨_, rfl⟩
  obtain ⟨D1, d1⟩ : ∃ D : Bool, decide (m.frm = m'.frm) = D := ⟨_, rfl⟩
  obtain ⟨D2, d2⟩ : ∃ D : Bool, decide (m.dst = m'.dst) = D := ⟨_, rfl⟩
  obtain ⟨D3, d3⟩ : ∃ D : Bool, decide (m.view = m'.view) = D := ⟨_, rfl⟩
  obtain ⟨D4, d4⟩ : ∃ D : Bool, decide (m.inst = m'.inst) = D := ⟨_, rfl⟩
  obtain ⟨D5, d5⟩ : ∃ D : Bool, decide (m.len = m'.len) = D := ⟨_, rfl⟩
  obtain ⟨D6, d6⟩ : ∃ D : Bool, decide (m.has = m'.has) = D := ⟨_, rfl⟩
  obtain ⟨D7, d7⟩ : ∃ D : Bool, decide (m.mem = m'.mem) = D := ⟨_, rfl⟩
  obtain ⟨D8, d8⟩ : ∃ D : Bool, decide (m.src = m'.src) = D := ⟨_, rfl⟩
  obtain ⟨D9, d9⟩ : ∃ D : Bool, decide (m.pos = m'.pos) = D := ⟨_, rfl⟩
  obtain ⟨D10, d10⟩ : ∃ D : Bool, decide (m.tot = m'.tot) = D := ⟨_, rfl⟩
  obtain ⟨D11, d11⟩ : ∃ D : Bool, decide (m.data = m'.data) = D := ⟨_, rfl⟩
  obtain ⟨D12, d12⟩ : ∃ D : Bool, decide (m.hop = m'.hop) = D := ⟨_, rfl⟩
  obtain ⟨D13, d13⟩ : ∃ D : Bool, decide (m.seq = m'.seq) = D := ⟨_, rfl⟩
  obtain ⟨D14, d14⟩ : ∃ D : Bool, decide (m.hav = m'.hav) = D := ⟨_, rfl⟩
  obtain ⟨D15, d15⟩ : ∃ D : Bool, decide (m.nee = m'.nee) = D := ⟨_, rfl⟩
  obtain ⟨D16, d16⟩ : ∃ D : Bool, decide (m.idx = m'.idx) = D := ⟨_, rfl⟩
  obtain ⟨D17, d17⟩ : ∃ D : Bool, decide (m.ent = m'.ent) = D := ⟨_, rfl⟩
  have HD : Hid (decide (m = m') = (D0 && (D1 && (D2 && (D3 && (D4 && (D5 && (D6 && (D7 && (D8 && (D9 && (D10 && (D11 && (D12 && (D13 && (D14 && (D15 && (D16 && D17)))))))))))))))))) := Lib.hid (by
    rw [← d0, ← d1, ← d2, ← d3, ← d4, ← d5, ← d6, ← d7, ← d8, ← d9, ← d10, ← d11, ← d12, ← d13, ← d14, ← d15, ← d16, ← d17, Bool.eq_iff_iff]
    simp only [decide_eq_true_eq, Bool.and_eq_true, Mg.eq_iff])
  have r0 : (m.kind == m'.kind) = D0 := by rw [← d0, Bool.eq_iff_iff]; simp
  have r1 : (m.frm == m'.frm) = D1 := by rw [← d1, Bool.eq_iff_iff]; simp
  have r2 : (m.dst == m'.dst) = D2 := by rw [← d2, Bool.eq_iff_iff]; simp
  have r3 : (m.view == m'.view) = D3 := by rw [← d3, Bool.eq_iff_iff]; simp
  have r4 : (m.inst == m'.inst) = D4 := by rw [← d4, Bool.eq_iff_iff]; simp
  have r5 : (m.len == m'.len) = D5 := by rw [← d5, Bool.eq_iff_iff]; simp
  have r6 : (m.has == m'.has) = D6 := by rw [← d6, Bool.eq_iff_iff]; simp
  have r7 : (m.mem == m'.mem) = D7 := by rw [← d7, Bool.eq_iff_iff]; simp
  have r8 : (m.src == m'.src) = D8 := by rw [← d8, Bool.eq_iff_iff]; simp
  have r9 : (m.pos == m'.pos) = D9 := by rw [← d9, Bool.eq_iff_iff]; simp
  have r10 : (m.tot == m'.tot) = D10 := by rw [← d10, Bool.eq_iff_iff]; simp
  have r12 : (m.hop == m'.hop) = D12 := by rw [← d12, Bool.eq_iff_iff]; simp
  have r13 : (m.seq == m'.seq) = D13 := by rw [← d13, Bool.eq_iff_iff]; simp
  have r16 : (m.idx == m'.idx) = D16 := by rw [← d16, Bool.eq_iff_iff]; simp
  rw [HD.out]
  have CD : Hid (∀ wx, Below wa.heap.size wa wx → Calls Try.prog 40 #[.slice a.Ad m.data.length a.cd, .slice a'.Ad m'.data.length a'.cd] wx fun e w' => e = .returned (.bool D11) ∧ w' = wx) := Lib.hid (fun wx hb => by rw [← d11]; exact equal_any wx _ _ _ _ _ _ _ _ _ _ hM.d.2 hM'.d.2 (R.d.fit.below hb) (R'.d.fit.below hb))
  have CH : Hid (∀ wx, Below wa.heap.size wa wx → Calls Try.prog 41 #[.slice a.Ah m.hav.length a.ch, .slice a'.Ah m'.hav.length a'.ch] wx fun e w' => e = .returned (.bool D14) ∧ Below wx.heap.size wx w') := Lib.hid (fun wx hb => by rw [← d14]; exact equalI_any wx _ _ _ _ _ _ _ _ _ _ (R.h.fit.below hb) (R'.h.fit.below hb) (Nat.le_trans hM.h (by unfold maxLen; omega)) (Nat.le_trans hM'.h (by unfold maxLen; omega)))
  have CN : Hid (∀ wx, Below wa.heap.size wa wx → Calls Try.prog 41 #[.slice a.An m.nee.length a.cn, .slice a'.An m'.nee.length a'.cn] wx fun e w' => e = .returned (.bool D15) ∧ Below wx.heap.size wx w') := Lib.hid (fun wx hb => by rw [← d15]; exact equalI_any wx _ _ _ _ _ _ _ _ _ _ (R.n.fit.below hb) (R'.n.fit.below hb) (Nat.le_trans hM.n (by unfold maxLen; omega)) (Nat.le_trans hM'.n (by unfold maxLen; omega)))
  have CE : Hid (∀ wx, Below wa.heap.size wa wx → Calls Try.prog 42 #[.agg #[.int .i64 m.ent.s, .int .i64 m.ent.q, .int .i64 m.ent.c.kind, .int .i64 m.ent.c.who, .slice a.c.Ak m.ent.c.key.length a.c.ck, .slice a.c.Av m.ent.c.val.length a.c.cv, .slice a.c.Ao m.ent.c.old.length a.c.co], .agg #[.int .i64 m'.ent.s, .int .i64 m'.ent.q, .int .i64 m'.ent.c.kind, .int .i64 m'.ent.c.who, .slice a'.c.Ak m'.ent.c.key.length a'.c.ck, .slice a'.c.Av m'.ent.c.val.length a'.c.cv, .slice a'.c.Ao m'.ent.c.old.length a'.c.co]] wx fun e w' => e = .returned (.bool D17) ∧ Below wx.heap.size wx w') := Lib.hid (fun wx hb => by rw [← d17]; exact sameEW wx hM.c hM'.c (R.c.fit.below hb) (R'.c.fit.below hb))
  have HF : Hid (∀ wx, Below wa.heap.size wa wx → Blk wx g 29 #[.int .i64 m.kind, .int .i64 m.frm, .int .i64 m.dst, .int .i64 m.view, .int .i64 m.inst, .int .i64 m.len, .bool m.has, .int .i64 m.mem, .int .i64 m.src, .int .i64 m.pos, .int .i64 m.tot, .slice a.Ad m.data.length a.cd, .int .i64 m.hop, .int .i64 m.seq, .slice a.Ah m.hav.length a.ch, .slice a.An m.nee.length a.cn, .int .i64 m.idx, .int .i64 m.ent.s, .int .i64 m.ent.q, .int .i64 m.ent.c.kind, .int .i64 m.ent.c.who, .slice a.c.Ak m.ent.c.key.length a.c.ck, .slice a.c.Av m.ent.c.val.length a.c.cv, .slice a.c.Ao m.ent.c.old.length a.c.co] ∧ Blk wx (g + 1) 29 #[.int .i64 m'.kind, .int .i64 m'.frm, .int .i64 m'.dst, .int .i64 m'.view, .int .i64 m'.inst, .int .i64 m'.len, .bool m'.has, .int .i64 m'.mem, .int .i64 m'.src, .int .i64 m'.pos, .int .i64 m'.tot, .slice a'.Ad m'.data.length a'.cd, .int .i64 m'.hop, .int .i64 m'.seq, .slice a'.Ah m'.hav.length a'.ch, .slice a'.An m'.nee.length a'.cn, .int .i64 m'.idx, .int .i64 m'.ent.s, .int .i64 m'.ent.q, .int .i64 m'.ent.c.kind, .int .i64 m'.ent.c.who, .slice a'.c.Ak m'.ent.c.key.length a'.c.ck, .slice a'.c.Av m'.ent.c.val.length a'.c.cv, .slice a'.c.Ao m'.ent.c.old.length a'.c.co]) := Lib.hid (fun wx hb => ⟨k1.below hb, k2.below hb⟩)
  clear h h' hM hM' bb k1 k2 R R' hwa hg HD d0 d1 d2 d3 d4 d5 d6 d7 d8 d9 d10 d11 d12 d13 d14 d15 d16 d17
  unfold msgV msgC
  go_enter Try.func17, Try.ntmps17
  go_upto_region 1 with fail
  rw [HG.out, HWA.out]
  have hS : Hid (Below wa.heap.size wa wa) := Lib.hid (Below.refl _ _)
  clear HWA
  go_cut [5] from 10 to 36 (fun s5 wx => s5 = .bool (D0 && (D1 && (D2 && D3))) ∧ Hid (Below wa.heap.size wa wx))
  case first =>
    obtain ⟨k1, k2⟩ := HF.out _ hS.out
    have x0 : wa.cell? ⟨g, 0, none⟩ = some (.int .i64 m.kind) := k1.cell 0
    have y0 : wa.cell? ⟨g + 1, 0, none⟩ = some (.int .i64 m'.kind) := k2.cell 0
    have x1 : wa.cell? ⟨g, 1, none⟩ = some (.int .i64 m.frm) := k1.cell 1
    have y1 : wa.cell? ⟨g + 1, 1, none⟩ = some (.int .i64 m'.frm) := k2.cell 1
    have x2 : wa.cell? ⟨g, 2, none⟩ = some (.int .i64 m.dst) := k1.cell 2
    have y2 : wa.cell? ⟨g + 1, 2, none⟩ = some (.int .i64 m'.dst) := k2.cell 2
    have x3 : wa.cell? ⟨g, 3, none⟩ = some (.int .i64 m.view) := k1.cell 3
    have y3 : wa.cell? ⟨g + 1, 3, none⟩ = some (.int .i64 m'.view) := k2.cell 3
    clear k1 k2
    cases D0 with
    | false =>
      go_wp2_with fail
      go_meet
      exact ⟨rfl, hS⟩
    | true =>
      cases D1 with
      | false =>
        go_wp2_with fail
        go_meet
        exact ⟨rfl, hS⟩
      | true =>
        cases D2 with
        | false =>
          go_wp2_with fail
          go_meet
          exact ⟨rfl, hS⟩
        | true =>
          cases D3 with
          | false =>
            go_wp2_with fail
            go_meet
            exact ⟨rfl, hS⟩
          | true =>
            go_wp2_with fail
            go_meet
            exact ⟨rfl, hS⟩
  case rest =>
  obtain ⟨rfl, hS⟩ := hcut
  rename World => wb1
  obtain ⟨E1, e1⟩ : ∃ E : Bool, (D0 && (D1 && (D2 && D3))) = E := ⟨_, rfl⟩
  rw [e1]
  have HE1 := Lib.hid e1
  clear e1
  go_upto_region 2 with fail
  go_cut [6] from 36 to 69 (fun s6 wx => s6 = .bool (D4 && (D5 && (D6 && (D7 && D8)))) ∧ Hid (Below wa.heap.size wa wx))
  case first =>
    obtain ⟨k1, k2⟩ := HF.out _ hS.out
    have x4 : wb1.cell? ⟨g, 4, none⟩ = some (.int .i64 m.inst) := k1.cell 4
    have y4 : wb1.cell? ⟨g + 1, 4, none⟩ = some (.int .i64 m'.inst) := k2.cell 4
    have x5 : wb1.cell? ⟨g, 5, none⟩ = some (.int .i64 m.len) := k1.cell 5
    have y5 : wb1.cell? ⟨g + 1, 5, none⟩ = some (.int .i64 m'.len) := k2.cell 5
    have x6 : wb1.cell? ⟨g, 6, none⟩ = some (.bool m.has) := k1.cell 6
    have y6 : wb1.cell? ⟨g + 1, 6, none⟩ = some (.bool m'.has) := k2.cell 6
    have x7 : wb1.cell? ⟨g, 7, none⟩ = some (.int .i64 m.mem) := k1.cell 7
    have y7 : wb1.cell? ⟨g + 1, 7, none⟩ = some (.int .i64 m'.mem) := k2.cell 7
    have x8 : wb1.cell? ⟨g, 8, none⟩ = some (.int .i64 m.src) := k1.cell 8
    have y8 : wb1.cell? ⟨g + 1, 8, none⟩ = some (.int .i64 m'.src) := k2.cell 8
    clear k1 k2
    cases D4 with
    | false =>
      go_wp2_with fail
      go_meet
      exact ⟨rfl, hS⟩
    | true =>
      cases D5 with
      | false =>
        go_wp2_with fail
        go_meet
        exact ⟨rfl, hS⟩
      | true =>
        cases D6 with
        | false =>
          go_wp2_with fail
          go_meet
          exact ⟨rfl, hS⟩
        | true =>
          cases D7 with
          | false =>
            go_wp2_with fail
            go_meet
            exact ⟨rfl, hS⟩
          | true =>
            cases D8 with
            | false =>
              go_wp2_with fail
              go_meet
              exact ⟨rfl, hS⟩
            | true =>
              go_wp2_with fail
              go_meet
              exact ⟨rfl, hS⟩
  case rest =>
  obtain ⟨rfl, hS⟩ := hcut
  rename World => wb2
  obtain ⟨E2, e2⟩ : ∃ E : Bool, (D4 && (D5 && (D6 && (D7 && D8)))) = E := ⟨_, rfl⟩
  rw [e2]
  have HE2 := Lib.hid e2
  clear e2
  go_upto_region 3 with fail
  go_cut [7] from 69 to 88 (fun s7 wx => s7 = .bool (D9 && (D10 && D11)) ∧ Hid (Below wa.heap.size wa wx))
  case first =>
    obtain ⟨k1, k2⟩ := HF.out _ hS.out
    have x9 : wb2.cell? ⟨g, 9, none⟩ = some (.int .i64 m.pos) := k1.cell 9
    have y9 : wb2.cell? ⟨g + 1, 9, none⟩ = some (.int .i64 m'.pos) := k2.cell 9
    have x10 : wb2.cell? ⟨g, 10, none⟩ = some (.int .i64 m.tot) := k1.cell 10
    have y10 : wb2.cell? ⟨g + 1, 10, none⟩ = some (.int .i64 m'.tot) := k2.cell 10
    have x11 : wb2.cell? ⟨g, 11, none⟩ = some (.slice a.Ad m.data.length a.cd) := k1.cell 11
    have y11 : wb2.cell? ⟨g + 1, 11, none⟩ = some (.slice a'.Ad m'.data.length a'.cd) := k2.cell 11
    clear k1 k2
    cases D9 with
    | false =>
      go_wp2_with (first
        | (go_at_call 40; refine (CD.out _ hS.out).mono ?_; rintro en w1 ⟨rfl, rfl⟩)
        | fail)
      go_meet
      exact ⟨rfl, hS⟩
    | true =>
      cases D10 with
      | false =>
        go_wp2_with (first
          | (go_at_call 40; refine (CD.out _ hS.out).mono ?_; rintro en w1 ⟨rfl, rfl⟩)
          | fail)
        go_meet
        exact ⟨rfl, hS⟩
      | true =>
        cases D11 with
        | false =>
          go_wp2_with (first
            | (go_at_call 40; refine (CD.out _ hS.out).mono ?_; rintro en w1 ⟨rfl, rfl⟩)
            | fail)
          go_meet
          exact ⟨rfl, hS⟩
        | true =>
          go_wp2_with (first
            | (go_at_call 40; refine (CD.out _ hS.out).mono ?_; rintro en w1 ⟨rfl, rfl⟩)
            | fail)
          go_meet
          exact ⟨rfl, hS⟩
  case rest =>
  obtain ⟨rfl, hS⟩ := hcut
  rename World => wb3
  obtain ⟨E3, e3⟩ : ∃ E : Bool, (D9 && (D10 && D11)) = E := ⟨_, rfl⟩
  rw [e3]
  have HE3 := Lib.hid e3
  clear e3
  go_upto_region 4 with fail
  go_cut [8] from 88 to 114 (fun s8 wx => s8 = .bool (D12 && (D13 && (D14 && D15))) ∧ Hid (Below wa.heap.size wa wx))
  case first =>
    obtain ⟨k1, k2⟩ := HF.out _ hS.out
    have x12 : wb3.cell? ⟨g, 12, none⟩ = some (.int .i64 m.hop) := k1.cell 12
    have y12 : wb3.cell? ⟨g + 1, 12, none⟩ = some (.int .i64 m'.hop) := k2.cell 12
    have x13 : wb3.cell? ⟨g, 13, none⟩ = some (.int .i64 m.seq) := k1.cell 13
    have y13 : wb3.cell? ⟨g + 1, 13, none⟩ = some (.int .i64 m'.seq) := k2.cell 13
    have x14 : wb3.cell? ⟨g, 14, none⟩ = some (.slice a.Ah m.hav.length a.ch) := k1.cell 14
    have y14 : wb3.cell? ⟨g + 1, 14, none⟩ = some (.slice a'.Ah m'.hav.length a'.ch) := k2.cell 14
    have x15 : wb3.cell? ⟨g, 15, none⟩ = some (.slice a.An m.nee.length a.cn) := k1.cell 15
    have y15 : wb3.cell? ⟨g + 1, 15, none⟩ = some (.slice a'.An m'.nee.length a'.cn) := k2.cell 15
    clear k1 k2
    cases D12 with
    | false =>
      go_wp2_with (first
        | (go_at_call 41; refine (CH.out _ hS.out).mono ?_; rintro en w1 ⟨rfl, hb1⟩
           have hS := Lib.hid (hS.out.trans (hb1.mono hS.out.size))
           obtain ⟨k1, k2⟩ := HF.out _ hS.out
           have x15 : w1.cell? ⟨g, 15, none⟩ = some (.slice a.An m.nee.length a.cn) := k1.cell 15
           have y15 : w1.cell? ⟨g + 1, 15, none⟩ = some (.slice a'.An m'.nee.length a'.cn) := k2.cell 15
           clear k1 k2 hb1 CH)
        | (go_at_call 41; refine (CN.out _ hS.out).mono ?_; rintro en w1 ⟨rfl, hb1⟩
           have hS := Lib.hid (hS.out.trans (hb1.mono hS.out.size))
           clear hb1 CN)
        | fail)
      go_meet
      exact ⟨rfl, hS⟩
    | true =>
      cases D13 with
      | false =>
        go_wp2_with (first
          | (go_at_call 41; refine (CH.out _ hS.out).mono ?_; rintro en w1 ⟨rfl, hb1⟩
             have hS := Lib.hid (hS.out.trans (hb1.mono hS.out.size))
             obtain ⟨k1, k2⟩ := HF.out _ hS.out
             have x15 : w1.cell? ⟨g, 15, none⟩ = some (.slice a.An m.nee.length a.cn) := k1.cell 15
             have y15 : w1.cell? ⟨g + 1, 15, none⟩ = some (.slice a'.An m'.nee.length a'.cn) := k2.cell 15
             clear k1 k2 hb1 CH)
          | (go_at_call 41; refine (CN.out _ hS.out).mono ?_; rintro en w1 ⟨rfl, hb1⟩
             have hS := Lib.hid (hS.out.trans (hb1.mono hS.out.size))
             clear hb1 CN)
          | fail)
        go_meet
        exact ⟨rfl, hS⟩
      | true =>
        cases D14 with
        | false =>
          go_wp2_with (first
            | (go_at_call 41; refine (CH.out _ hS.out).mono ?_; rintro en w1 ⟨rfl, hb1⟩
               have hS := Lib.hid (hS.out.trans (hb1.mono hS.out.size))
               obtain ⟨k1, k2⟩ := HF.out _ hS.out
               have x15 : w1.cell? ⟨g, 15, none⟩ = some (.slice a.An m.nee.length a.cn) := k1.cell 15
               have y15 : w1.cell? ⟨g + 1, 15, none⟩ = some (.slice a'.An m'.nee.length a'.cn) := k2.cell 15
               clear k1 k2 hb1 CH)
            | (go_at_call 41; refine (CN.out _ hS.out).mono ?_; rintro en w1 ⟨rfl, hb1⟩
               have hS := Lib.hid (hS.out.trans (hb1.mono hS.out.size))
               clear hb1 CN)
            | fail)
          go_meet
          exact ⟨rfl, hS⟩
        | true =>
          cases D15 with
          | false =>
            go_wp2_with (first
              | (go_at_call 41; refine (CH.out _ hS.out).mono ?_; rintro en w1 ⟨rfl, hb1⟩
                 have hS := Lib.hid (hS.out.trans (hb1.mono hS.out.size))
                 obtain ⟨k1, k2⟩ := HF.out _ hS.out
                 have x15 : w1.cell? ⟨g, 15, none⟩ = some (.slice a.An m.nee.length a.cn) := k1.cell 15
                 have y15 : w1.cell? ⟨g + 1, 15, none⟩ = some (.slice a'.An m'.nee.length a'.cn) := k2.cell 15
                 clear k1 k2 hb1 CH)
              | (go_at_call 41; refine (CN.out _ hS.out).mono ?_; rintro en w1 ⟨rfl, hb1⟩
                 have hS := Lib.hid (hS.out.trans (hb1.mono hS.out.size))
                 clear hb1 CN)
              | fail)
            go_meet
            exact ⟨rfl, hS⟩
          | true =>
            go_wp2_with (first
              | (go_at_call 41; refine (CH.out _ hS.out).mono ?_; rintro en w1 ⟨rfl, hb1⟩
                 have hS := Lib.hid (hS.out.trans (hb1.mono hS.out.size))
                 obtain ⟨k1, k2⟩ := HF.out _ hS.out
                 have x15 : w1.cell? ⟨g, 15, none⟩ = some (.slice a.An m.nee.length a.cn) := k1.cell 15
                 have y15 : w1.cell? ⟨g + 1, 15, none⟩ = some (.slice a'.An m'.nee.length a'.cn) := k2.cell 15
                 clear k1 k2 hb1 CH)
              | (go_at_call 41; refine (CN.out _ hS.out).mono ?_; rintro en w1 ⟨rfl, hb1⟩
                 have hS := Lib.hid (hS.out.trans (hb1.mono hS.out.size))
                 clear hb1 CN)
              | fail)
            go_meet
            exact ⟨rfl, hS⟩
  case rest =>
  obtain ⟨rfl, hS⟩ := hcut
  rename World => wb4
  obtain ⟨E4, e4⟩ : ∃ E : Bool, (D12 && (D13 && (D14 && D15))) = E := ⟨_, rfl⟩
  rw [e4]
  have HE4 := Lib.hid e4
  clear e4
  go_upto_region 5 with fail
  go_cut [9] from 114 to 126 (fun s9 wx => s9 = .bool (D16 && D17) ∧ Hid (Below wa.heap.size wa wx))
  case first =>
    obtain ⟨k1, k2⟩ := HF.out _ hS.out
    have x16 : wb4.cell? ⟨g, 16, none⟩ = some (.int .i64 m.idx) := k1.cell 16
    have y16 : wb4.cell? ⟨g + 1, 16, none⟩ = some (.int .i64 m'.idx) := k2.cell 16
    have x17 : wb4.cell? ⟨g, 17, none⟩ = some (.int .i64 m.ent.s) := k1.cell 17
    have y17 : wb4.cell? ⟨g + 1, 17, none⟩ = some (.int .i64 m'.ent.s) := k2.cell 17
    have x18 : wb4.cell? ⟨g, 18, none⟩ = some (.int .i64 m.ent.q) := k1.cell 18
    have y18 : wb4.cell? ⟨g + 1, 18, none⟩ = some (.int .i64 m'.ent.q) := k2.cell 18
    have x19 : wb4.cell? ⟨g, 19, none⟩ = some (.int .i64 m.ent.c.kind) := k1.cell 19
    have y19 : wb4.cell? ⟨g + 1, 19, none⟩ = some (.int .i64 m'.ent.c.kind) := k2.cell 19
    have x20 : wb4.cell? ⟨g, 20, none⟩ = some (.int .i64 m.ent.c.who) := k1.cell 20
    have y20 : wb4.cell? ⟨g + 1, 20, none⟩ = some (.int .i64 m'.ent.c.who) := k2.cell 20
    have x21 : wb4.cell? ⟨g, 21, none⟩ = some (.slice a.c.Ak m.ent.c.key.length a.c.ck) := k1.cell 21
    have y21 : wb4.cell? ⟨g + 1, 21, none⟩ = some (.slice a'.c.Ak m'.ent.c.key.length a'.c.ck) := k2.cell 21
    have x22 : wb4.cell? ⟨g, 22, none⟩ = some (.slice a.c.Av m.ent.c.val.length a.c.cv) := k1.cell 22
    have y22 : wb4.cell? ⟨g + 1, 22, none⟩ = some (.slice a'.c.Av m'.ent.c.val.length a'.c.cv) := k2.cell 22
    have x23 : wb4.cell? ⟨g, 23, none⟩ = some (.slice a.c.Ao m.ent.c.old.length a.c.co) := k1.cell 23
    have y23 : wb4.cell? ⟨g + 1, 23, none⟩ = some (.slice a'.c.Ao m'.ent.c.old.length a'.c.co) := k2.cell 23
    clear k1 k2
    cases D16 with
    | false =>
      go_wp2_with (first
        | (go_at_call 42; refine (CE.out _ hS.out).mono ?_; rintro en w1 ⟨rfl, hb1⟩; have hS := Lib.hid (hS.out.trans (hb1.mono hS.out.size)); clear hb1)
        | fail)
      go_meet
      exact ⟨rfl, hS⟩
    | true =>
      cases D17 with
      | false =>
        go_wp2_with (first
          | (go_at_call 42; refine (CE.out _ hS.out).mono ?_; rintro en w1 ⟨rfl, hb1⟩; have hS := Lib.hid (hS.out.trans (hb1.mono hS.out.size)); clear hb1)
          | fail)
        go_meet
        exact ⟨rfl, hS⟩
      | true =>
        go_wp2_with (first
          | (go_at_call 42; refine (CE.out _ hS.out).mono ?_; rintro en w1 ⟨rfl, hb1⟩; have hS := Lib.hid (hS.out.trans (hb1.mono hS.out.size)); clear hb1)
          | fail)
        go_meet
        exact ⟨rfl, hS⟩
  case rest =>
  obtain ⟨rfl, hS⟩ := hcut
  rename World => wb5
  obtain ⟨E5, e5⟩ : ∃ E : Bool, (D16 && D17) = E := ⟨_, rfl⟩
  rw [e5]
  have HE5 := Lib.hid e5
  clear e5
  have HALL : Hid ((D0 && (D1 && (D2 && (D3 && (D4 && (D5 && (D6 && (D7 && (D8 && (D9 && (D10 && (D11 && (D12 && (D13 && (D14 && (D15 && (D16 && D17))))))))))))))))) = (E1 && (E2 && (E3 && (E4 && E5))))) := Lib.hid (by rw [← HE1.out, ← HE2.out, ← HE3.out, ← HE4.out, ← HE5.out]; simp only [Bool.and_assoc])
  clear HE1 HE2 HE3 HE4 HE5
  cases E1 with
  | false =>
    go_wp2_with fail
    go_ret
    exact ⟨by rw [HALL.out]; rfl, HB.out.trans (hS.out.mono HB.out.size)⟩
  | true =>
    cases E2 with
    | false =>
      go_wp2_with fail
      go_ret
      exact ⟨by rw [HALL.out]; rfl, HB.out.trans (hS.out.mono HB.out.size)⟩
    | true =>
      cases E3 with
      | false =>
        go_wp2_with fail
        go_ret
        exact ⟨by rw [HALL.out]; rfl, HB.out.trans (hS.out.mono HB.out.size)⟩
      | true =>
        cases E4 with
        | false =>
          go_wp2_with fail
          go_ret
          exact ⟨by rw [HALL.out]; rfl, HB.out.trans (hS.out.mono HB.out.size)⟩
        | true =>
          cases E5 with
          | false =>
            go_wp2_with fail
            go_ret
            exact ⟨by rw [HALL.out]; rfl, HB.out.trans (hS.out.mono HB.out.size)⟩
          | true =>
            go_wp2_with fail
            go_ret
            exact ⟨by rw [HALL.out]; rfl, HB.out.trans (hS.out.mono HB.out.size)⟩
end Go.Proofs.Ytlfkgpllleogoaa

