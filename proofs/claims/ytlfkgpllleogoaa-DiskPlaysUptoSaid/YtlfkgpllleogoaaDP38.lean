/- RefDisk2 -/
import Derived.Test.YtlfkgpllleogoaaDP32
import Derived.Test.YtlfkgpllleogoaaDP36
import Derived.Test.YtlfkgpllleogoaaDP37
namespace Go.Proofs.Ytlfkgpllleogoaa
open Go.RowKit
set_option linter.unusedVariables false
/-- a disk that is read -/
structure RdD (w : World) (A A' : Option Addr) (n c n' c' : Nat) (x y : List Nat) : Prop where
  a : Rd w w.heap.size A n (bv x)
  b : Rd w w.heap.size A' n' (bv y)
  ca : n ≤ c ∧ c ≤ maxLen
  cb : n' ≤ c' ∧ c' ≤ maxLen
  fa : Dk.Fine x
  fb : Dk.Fine y
theorem RdD.below {w w' : World} {A A' : Option Addr} {n c n' c' : Nat} {x y : List Nat} (h : RdD w A A' n c n' c' x y) (hb : Below w.heap.size w w') : RdD w' A A' n c n' c' x y := ⟨(h.a.below hb).fit, (h.b.below hb).fit, h.ca, h.cb, h.fa, h.fb⟩
theorem OwnD.rd {W w : World} {A A' : Option Addr} {c c' : Nat} {x y : List Nat} (h : OwnD W w A A' c c' x y) : RdD w A A' x.length c y.length c' x y := ⟨Rd.own_ h.a, Rd.own_ h.b, own_cap h.a, own_cap h.b, h.fa, h.fb⟩
theorem slotN_le {r : Option Dk.Rc} (h : ∀ x, r = some x → x.Ok) : slotN r ≤ 1099511627776 := by
  cases r with
  | none => simp [slotN]
  | some x => have := (h x rfl).1; unfold Dk.far at this; simp only [slotN]; omega
theorem slotN_ge (r : Option Dk.Rc) : -1 ≤ slotN r := by
  cases r with
  | none => exact Int.le_refl _
  | some x => show -1 ≤ (x.n : Int); omega
theorem pick_no {a b : Option Dk.Rc} (h1 : slotN a < 0) (h2 : slotN b < 0) : Dk.pick a b = (none, false) ∧ a = none ∧ b = none := by
  cases a <;> cases b <;> simp_all [slotN, Dk.pick] <;> omega
theorem pick_a {a b : Option Dk.Rc} (h1 : 0 ≤ slotN a) (h2 : slotN b ≤ slotN a) : Dk.pick a b = (a, false) ∧ a.isSome = true := by
  cases a with
  | none => simp [slotN] at h1
  | some x =>
    cases b with
    | none => exact ⟨rfl, rfl⟩
    | some y =>
      simp only [slotN] at h2
      unfold Dk.pick
      simp only
      rw [if_neg (by omega)]
      exact ⟨rfl, rfl⟩
theorem pick_b {a b : Option Dk.Rc} (h2 : slotN a < slotN b) : Dk.pick a b = (b, true) ∧ b.isSome = true := by
  cases b with
  | none =>
    have h3 := slotN_ge a
    have h4 : slotN a < -1 := h2
    omega
  | some y =>
    cases a with
    | none => exact ⟨rfl, rfl⟩
    | some x =>
      simp only [slotN] at h2
      unfold Dk.pick
      simp only
      rw [if_pos (by omega)]
      exact ⟨rfl, rfl⟩
theorem isSome_some {a : Option Dk.Rc} (h : a.isSome = true) : ∃ x, a = some x := by cases a with
  | none => cases h
  | some x => exact ⟨x, rfl⟩
set_option maxHeartbeats 4000000 in
set_option maxRecDepth 100000 in
theorem refread_raw {w : World} {A A2 : Option Addr} {n c n2 c2 : Nat} {x y : List Nat} (h : RdD w A A2 n c n2 c2 x y) : Calls Try.prog 30 #[.agg #[.slice A n c, .slice A2 n2 c2]] w (GotRc w w (Dk.read x y)) := by
  obtain ⟨RA, hRA⟩ : ∃ r, Dk.parse x = r := ⟨_, rfl⟩
  obtain ⟨RB, hRB⟩ : ∃ r, Dk.parse y = r := ⟨_, rfl⟩
  have hokA : ∀ z, RA = some z → z.Ok := fun z hz => Dk.parse_ok (hRA.trans hz)
  have hokB : ∀ z, RB = some z → z.Ok := fun z hz => Dk.parse_ok (hRB.trans hz)
  have hna := slotN_le hokA
  have hnb := slotN_le hokB
  have hna0 := slotN_ge RA
  have hnb0 := slotN_ge RB
  obtain ⟨NA, hNA⟩ : ∃ n, slotN RA = n := ⟨_, rfl⟩
  obtain ⟨NB, hNB⟩ : ∃ n, slotN RB = n := ⟨_, rfl⟩
  obtain ⟨ra0, ra1, ra2, hra⟩ : ∃ r0 r1 r2 : Int, recC' RA = #[.int .i64 r0, .int .i64 r1, .int .i64 r2] := ⟨_, _, _, rfl⟩
  obtain ⟨rb0, rb1, rb2, hrb⟩ : ∃ r0 r1 r2 : Int, recC' RB = #[.int .i64 r0, .int .i64 r1, .int .i64 r2] := ⟨_, _, _, rfl⟩
  have HNA := Lib.hid hNA
  have HNB := Lib.hid hNB
  have HRA := Lib.hid hra
  have HRB := Lib.hid hrb
  rw [hNA] at hna hna0
  rw [hNB] at hnb hnb0
  obtain ⟨R, hR⟩ : ∃ r, Dk.read x y = r := ⟨_, rfl⟩
  have HRD : Hid (Dk.pick RA RB = Dk.pick RA RB ∧ (Dk.pick RA RB).1 = R) := Lib.hid ⟨rfl, by rw [← hR, ← hRA, ← hRB]; rfl⟩
  obtain ⟨g1, hg1⟩ : ∃ g, w.heap.size = g := ⟨_, rfl⟩
  obtain ⟨g2, hg2⟩ : ∃ g, w.heap.size + 1 = g := ⟨_, rfl⟩
  obtain ⟨wz, hwz⟩ : ∃ x, (w.alloc (.cells #[.slice A n c, .slice A2 n2 c2] 44)).alloc (.cells #[.int .i64 0, .int .i64 0, .int .i64 0] 46) = x := ⟨_, rfl⟩
  have bb : Below w.heap.size w wz := by rw [← hwz]; exact ((Below.refl _ _).alloc (Nat.le_refl _) _).alloc (by simp) _
  have k1 : Blk wz g1 44 #[.slice A n c, .slice A2 n2 c2] := by rw [← hwz, ← hg1]; exact (Blk.new _ _ _).alloc _
  have k2 : Blk wz g2 46 #[.int .i64 0, .int .i64 0, .int .i64 0] := by
    rw [← hwz, ← hg2]
    have := Blk.new (w.alloc (.cells #[.slice A n c, .slice A2 n2 c2] 44)) 46 #[.int .i64 0, .int .i64 0, .int .i64 0]
    rw [World.size_alloc] at this
    exact this
  have hgl : w.heap.size ≤ g2 := by omega
  have h2 := h.below bb
  have CA : Hid (∀ wx, Below wz.heap.size wz wx → Calls Try.prog 61 #[.slice A n c] wx (GotN wz wx RA)) := Lib.hid fun wx hx => refparse hRA h2.fa.1 h2.fa.2 h2.ca (h2.a.below hx) hx
  have CB : Hid (∀ wx, Below wz.heap.size wz wx → Calls Try.prog 61 #[.slice A2 n2 c2] wx (GotN wz wx RB)) := Lib.hid fun wx hx => refparse hRB h2.fb.1 h2.fb.2 h2.cb (h2.b.below hx) hx
  have HEND : Hid (∀ wx cs, Below wz.heap.size wz wx → Below w.heap.size w (wx.setRow g2 cs)) := Lib.hid fun wx cs hx => below_setRow (bb.trans (hx.mono bb.size)) hgl _
  have HWZ := Lib.hid hwz
  have HG1 := Lib.hid hg1
  have HG2 := Lib.hid hg2
  have HK1 := Lib.hid k1
  have HK2 := Lib.hid k2
  have y0 : wz.cell? ⟨g1, 0, none⟩ = some (.slice A n c) := k1.cell 0
  rw [hR]
  clear h h2 bb k1 k2 hgl hwz hg1 hg2 hR hRA hRB hNA hNB hra hrb hokA hokB
  go_enter Try.func30, Try.ntmps30
  go_upto_region 1 with fail
  rw [HG2.out, HG1.out, HWZ.out]
  clear HWZ HG1 HG2
  go_upto_region 2 with (first
    | (go_at_call 61; refine (CA.out _ (Below.refl _ _)).mono ?_; rintro en w1 ⟨he, hB, hb⟩
       have he2 : en = .returned (.tuple #[.int .i64 NA, .agg #[.int .i64 ra0, .int .i64 ra1, .int .i64 ra2]]) := by rw [he, HNA.out, HRA.out]
       clear he
       subst he2
       have HB1 := Lib.hid hB
       clear hB hb)
    | (refine wpList_store_row rfl 46 (.tmp 5) (.tmp 13) rfl w1.heap.size #[.int .i64 ra0, .int .i64 ra1, .int .i64 ra2] rfl rfl 46 #[.int .i64 0, .int .i64 0, .int .i64 0] (Blk.new w1 46 #[.int .i64 0, .int .i64 0, .int .i64 0]) (by kernel_rfl) rfl (by kernel_rfl) ?_)
    | fail)
  obtain ⟨ga, w2, hgE, hwE, hbE, hkE⟩ := boxed w1 #[.int .i64 0, .int .i64 0, .int .i64 0] #[.int .i64 ra0, .int .i64 ra1, .int .i64 ra2] 46
  rw [hgE, hwE]
  have HBc := Lib.hid hbE
  have HKA := Lib.hid hkE
  clear hgE hwE hbE hkE
  have HB2 := Lib.hid (HB1.out.trans (HBc.out.mono HB1.out.size))
  have y1 : w2.cell? ⟨g1, 1, none⟩ = some (.slice A2 n2 c2) := (HK1.out.below HB2.out).cell 1
  clear HB1 HBc y0
  go_upto_region 3 with (first
    | (go_at_call 61; refine (CB.out _ HB2.out).mono ?_; rintro en w3 ⟨he, hB, hb⟩
       have he2 : en = .returned (.tuple #[.int .i64 NB, .agg #[.int .i64 rb0, .int .i64 rb1, .int .i64 rb2]]) := by rw [he, HNB.out, HRB.out]
       clear he
       subst he2
       have HB3 := Lib.hid hB
       have HKA := Lib.hid (HKA.out.below hb)
       clear hB hb)
    | (refine wpList_store_row rfl 46 (.tmp 7) (.tmp 19) rfl w3.heap.size #[.int .i64 rb0, .int .i64 rb1, .int .i64 rb2] rfl rfl 46 #[.int .i64 0, .int .i64 0, .int .i64 0] (Blk.new w3 46 #[.int .i64 0, .int .i64 0, .int .i64 0]) (by kernel_rfl) rfl (by kernel_rfl) ?_)
    | fail)
  obtain ⟨gb, w4, hgE, hwE, hbE, hkE⟩ := boxed w3 #[.int .i64 0, .int .i64 0, .int .i64 0] #[.int .i64 rb0, .int .i64 rb1, .int .i64 rb2] 46
  rw [hgE, hwE]
  have HBc := Lib.hid hbE
  have HKB := Lib.hid hkE
  clear hgE hwE hbE hkE
  have HB4 := Lib.hid (HB3.out.trans (HBc.out.mono HB3.out.size))
  have HKA := Lib.hid (HKA.out.below HBc.out)
  clear HB3 HBc y1
  have HK2 := Lib.hid (HK2.out.below HB4.out)
  clear HK1 CA CB
  by_cases h1 : NA < 0
  · by_cases h2 : NB < 0
    · have HP := Lib.hid (pick_no (by rw [HNA.out]; exact h1) (by rw [HNB.out]; exact h2))
      go_upto_region 4 with fail
      go_wp2_with (first
        | (refine wpList_store_row rfl 46 (.tmp 2) (.tmp 27) rfl g2 #[.int .i64 0, .int .i64 0, .int .i64 0] rfl rfl 46 #[.int .i64 0, .int .i64 0, .int .i64 0] HK2.out (by kernel_rfl) rfl (by kernel_rfl) ?_)
        | fail)
      refine bodyPost_ret (results_cell_tmp rfl _ _ _ _ _ _ rfl (HK2.out.row #[.int .i64 0, .int .i64 0, .int .i64 0]) Try.underlying46 rfl (by kernel_rfl)) rfl ?_
      have e := HRD.out.2
      rw [HP.out.1] at e
      rw [← e]
      exact ⟨rfl, HEND.out _ _ HB4.out, HEND.out _ _ HB4.out⟩
    · have HP := Lib.hid (pick_b (a := RA) (b := RB) (by rw [HNA.out, HNB.out]; omega))
      have h3 : ¬ NB ≤ NA := by omega
      go_upto_region 7 with fail
      go_wp2_with (first
        | (refine wpList_load_row rfl  46 (.tmp 7) rfl gb rfl 46 #[.int .i64 rb0, .int .i64 rb1, .int .i64 rb2] (0, 0) _ HKB.out Try.underlying46 rfl (by kernel_rfl) ?_)
        | (refine wpList_store_row rfl 46 (.tmp 2) (.tmp 33) rfl g2 #[.int .i64 rb0, .int .i64 rb1, .int .i64 rb2] rfl rfl 46 #[.int .i64 0, .int .i64 0, .int .i64 0] HK2.out (by kernel_rfl) rfl (by kernel_rfl) ?_)
        | fail)
      refine bodyPost_ret (results_cell_tmp rfl _ _ _ _ _ _ rfl (HK2.out.row #[.int .i64 rb0, .int .i64 rb1, .int .i64 rb2]) Try.underlying46 rfl (by kernel_rfl)) rfl ?_
      have e := HRD.out.2
      rw [HP.out.1] at e
      have e2 : RB = R := e
      rw [← e2]
      refine ⟨?_, HEND.out _ _ HB4.out, HEND.out _ _ HB4.out⟩
      rw [HP.out.2, show recC RB = recC' RB from rfl, HRB.out]
      rfl
  · by_cases h3 : NB ≤ NA
    · have HP := Lib.hid (pick_a (a := RA) (b := RB) (by rw [HNA.out]; omega) (by rw [HNA.out, HNB.out]; exact h3))
      go_upto_region 6 with fail
      go_wp2_with (first
        | (refine wpList_load_row rfl  46 (.tmp 5) rfl ga rfl 46 #[.int .i64 ra0, .int .i64 ra1, .int .i64 ra2] (0, 0) _ HKA.out Try.underlying46 rfl (by kernel_rfl) ?_)
        | (refine wpList_store_row rfl 46 (.tmp 2) (.tmp 32) rfl g2 #[.int .i64 ra0, .int .i64 ra1, .int .i64 ra2] rfl rfl 46 #[.int .i64 0, .int .i64 0, .int .i64 0] HK2.out (by kernel_rfl) rfl (by kernel_rfl) ?_)
        | fail)
      refine bodyPost_ret (results_cell_tmp rfl _ _ _ _ _ _ rfl (HK2.out.row #[.int .i64 ra0, .int .i64 ra1, .int .i64 ra2]) Try.underlying46 rfl (by kernel_rfl)) rfl ?_
      have e := HRD.out.2
      rw [HP.out.1] at e
      have e2 : RA = R := e
      rw [← e2]
      refine ⟨?_, HEND.out _ _ HB4.out, HEND.out _ _ HB4.out⟩
      rw [HP.out.2, show recC RA = recC' RA from rfl, HRA.out]
      rfl
    · have HP := Lib.hid (pick_b (a := RA) (b := RB) (by rw [HNA.out, HNB.out]; omega))
      go_upto_region 7 with fail
      go_wp2_with (first
        | (refine wpList_load_row rfl  46 (.tmp 7) rfl gb rfl 46 #[.int .i64 rb0, .int .i64 rb1, .int .i64 rb2] (0, 0) _ HKB.out Try.underlying46 rfl (by kernel_rfl) ?_)
        | (refine wpList_store_row rfl 46 (.tmp 2) (.tmp 33) rfl g2 #[.int .i64 rb0, .int .i64 rb1, .int .i64 rb2] rfl rfl 46 #[.int .i64 0, .int .i64 0, .int .i64 0] HK2.out (by kernel_rfl) rfl (by kernel_rfl) ?_)
        | fail)
      refine bodyPost_ret (results_cell_tmp rfl _ _ _ _ _ _ rfl (HK2.out.row #[.int .i64 rb0, .int .i64 rb1, .int .i64 rb2]) Try.underlying46 rfl (by kernel_rfl)) rfl ?_
      have e := HRD.out.2
      rw [HP.out.1] at e
      have e2 : RB = R := e
      rw [← e2]
      refine ⟨?_, HEND.out _ _ HB4.out, HEND.out _ _ HB4.out⟩
      rw [HP.out.2, show recC RB = recC' RB from rfl, HRB.out]
      rfl
theorem refread {W w : World} {A A2 : Option Addr} {n c n2 c2 : Nat} {x y : List Nat} {r : Option Dk.Rc} (he : Dk.read x y = r) (h : RdD w A A2 n c n2 c2 x y) (hB : Below W.heap.size W w) : Calls Try.prog 30 #[.agg #[.slice A n c, .slice A2 n2 c2]] w (GotRc W w r) := by
  subst he
  exact (refread_raw h).mono fun e w' ⟨h1, h2, h3⟩ => ⟨h1, hB.trans (h2.mono hB.size), h3⟩
set_option maxHeartbeats 2000000 in
set_option maxRecDepth 100000 in
/-- two disks that are alike -/
theorem refsame {w : World} {A A2 B B2 : Option Addr} {n c n2 c2 m d m2 d2 : Nat} {x y : List Nat} (h : RdD w A A2 n c n2 c2 x y) (h' : RdD w B B2 m d m2 d2 x y) : Calls Try.prog 33 #[.agg #[.slice A n c, .slice A2 n2 c2], .agg #[.slice B m d, .slice B2 m2 d2]] w fun e w' => e = .returned (.bool true) ∧ Below w.heap.size w w' := by
  obtain ⟨g1, hg1⟩ : ∃ g, w.heap.size = g := ⟨_, rfl⟩
  obtain ⟨g2, hg2⟩ : ∃ g, w.heap.size + 1 = g := ⟨_, rfl⟩
  obtain ⟨wz, hwz⟩ : ∃ x, (w.alloc (.cells #[.slice A n c, .slice A2 n2 c2] 44)).alloc (.cells #[.slice B m d, .slice B2 m2 d2] 44) = x := ⟨_, rfl⟩
  have bb : Below w.heap.size w wz := by rw [← hwz]; exact ((Below.refl _ _).alloc (Nat.le_refl _) _).alloc (by simp) _
  have k1 : Blk wz g1 44 #[.slice A n c, .slice A2 n2 c2] := by rw [← hwz, ← hg1]; exact (Blk.new _ _ _).alloc _
  have k2 : Blk wz g2 44 #[.slice B m d, .slice B2 m2 d2] := by
    rw [← hwz, ← hg2]
    have := Blk.new (w.alloc (.cells #[.slice A n c, .slice A2 n2 c2] 44)) 44 #[.slice B m d, .slice B2 m2 d2]
    rw [World.size_alloc] at this
    exact this
  have h1 := h.below bb
  have h2 := h'.below bb
  have y0 : wz.cell? ⟨g1, 0, none⟩ = some (.slice A n c) := k1.cell 0
  have y1 : wz.cell? ⟨g1, 1, none⟩ = some (.slice A2 n2 c2) := k1.cell 1
  have y2 : wz.cell? ⟨g2, 0, none⟩ = some (.slice B m d) := k2.cell 0
  have y3 : wz.cell? ⟨g2, 1, none⟩ = some (.slice B2 m2 d2) := k2.cell 1
  have s1 : (convert 22 9 (.slice A n c)).run Try.prog wz = .ok (.string (strB x)) wz := str_of h1.a
  have s2 : (convert 22 9 (.slice A2 n2 c2)).run Try.prog wz = .ok (.string (strB y)) wz := str_of h1.b
  have s3 : (convert 22 9 (.slice B m d)).run Try.prog wz = .ok (.string (strB x)) wz := str_of h2.a
  have s4 : (convert 22 9 (.slice B2 m2 d2)).run Try.prog wz = .ok (.string (strB y)) wz := str_of h2.b
  have q1 := strB_self x
  have q2 := strB_self y
  have HBB := Lib.hid bb
  have HWZ := Lib.hid hwz
  have HG1 := Lib.hid hg1
  have HG2 := Lib.hid hg2
  clear h h' h1 h2 bb k1 k2 hwz hg1 hg2
  go_enter Try.func33, Try.ntmps33
  go_upto_region 1 with fail
  rw [HG2.out, HG1.out, HWZ.out]
  clear HWZ HG1 HG2
  go_wp2_with fail
  go_ret
  exact ⟨rfl, HBB.out⟩
end Go.Proofs.Ytlfkgpllleogoaa

