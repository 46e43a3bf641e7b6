/- The contracts of the code: maps.Get, maps.place, the closure of maps.without. -/
import Derived.Test.YtcmjpjhaaookfaaMapsC0
import Derived.Test.YtcmjpjhaaookfaaEqualKit
import Derived.Test.YtcmjpjhaaookfaaCompareKit
import Derived.Test.YtcmjpjhaaookfaaCloneKit
namespace Go.Proofs.Ytcmjpjhaaookfaa
open Go.RowKit
set_option linter.unusedVariables false
set_option maxHeartbeats 1000000 in
set_option maxRecDepth 100000 in
theorem get_raw {w : World} {ps : List Pr} {k : List Nat} {A A' : Option Addr} {n c n' c' B B' : Nat} (hn : n ≤ 100000) (hL : LimP ps) (hb : BytesP ps) (hbk : ∀ x ∈ k, x < 256) (h : RdP w B A n ps) (h' : Rd w B' A' n' (bv k)) :
    Calls Try.prog 41 #[.slice A n c, .slice A' n' c'] w (GotR w w (Mp.getE ps k) (Mp.getV ps k) 0) := by
  have hlen := h.length
  have H := Lib.hid h.fit
  have H' := Lib.hid h'.fit
  have HL := Lib.hid hL
  have HB := Lib.hid hb
  have HBK := Lib.hid hbk
  have b0 : Below w.heap.size w (w.alloc (.cells zeroR 34)) := (Below.refl _ _).alloc (Nat.le_refl _) _
  clear h h' hL hb hbk
  go_enter Try.func41, Try.ntmps41
  go_wp2_with fail
  go_loopw [6, 9] (fun s6 s9 wr => ∃ j : Nat, j ≤ n ∧ s9 = .int .i64 j ∧ Hid (∀ i, i < j → (Mp.keys ps)[i]? ≠ some k) ∧ Hid (Blk wr w.heap.size 34 zeroR) ∧ Hid (Below w.heap.size w wr)) (fun _ s9 _ => n - (intOf s9).toNat)
  case atStart => exact ⟨0, Nat.zero_le _, rfl, Lib.hid (fun i hi => absurd hi (by omega)), Lib.hid (Blk.new _ _ _), Lib.hid b0⟩
  case round =>
    obtain ⟨j, hj, rfl, HS, HK, HB0⟩ := hrel
    clear b0
    by_cases hlt : j < n
    · obtain ⟨b, o, p, A1, c1, A2, c2, rfl, hp, hcell1, hcell2, hrd1, hrd2⟩ := ((H.out.below HB0.out).fit).at hlt
      have hl2 : Lim 0 p.2.length := (HL.out p (List.mem_of_getElem? hp)).2
      have HP := Lib.hid hp
      have HR1 := Lib.hid hrd1
      have HR2 := Lib.hid hrd2
      have HBP := Lib.hid (HB.out p (List.mem_of_getElem? hp)).1
      have b1 : Below wr.heap.size wr (wr.alloc (.cells #[.slice A1 p.1.length c1, .slice A2 p.2.length c2] 42)) := (Below.refl _ _).alloc (Nat.le_refl _) _
      clear hp hrd1 hrd2
      by_cases he : p.1 = k
      · have HE := Lib.hid he
        have HD := Lib.hid (decide_eq_true he)
        clear he
        go_wp2_with (first
          | (go_at_call 62; refine (equal_any _ _ _ _ _ _ _ _ _ _ _ HBP.out HBK.out (HR1.out.below b1) ((H'.out.below HB0.out).alloc HB0.out.size _)).mono ?_; rw [HD.out]; rintro e w2 ⟨rfl, rfl⟩)
          | (go_at_call 80; refine (clone_any (W := w) hl2 (HR2.out.below b1) (HB0.out.alloc HB0.out.size _)).mono ?_; rintro e w2 ⟨A3, c3, rfl, ho2, hB2, hb2⟩; have HK := Lib.hid ((HK.out.alloc _).below hb2); obtain ⟨x0, x1, x2, f0, f1, f2⟩ := three HK.out)
          | fail)
        obtain ⟨k1, k2, k3⟩ := put3 HK.out (.int .i64 0) (.slice A3 p.2.length c3) (.int .i64 0)
        refine bodyPost_ret (results_cell_row rfl _ _ _ _ _ _ _ rfl k1 Try.underlying34 rfl (by kernel_rfl)) rfl ?_
        have h3 := k2 w (Nat.le_refl _) hB2
        have hpl := Mp.place_first (by rw [keys_at HP.out, HE.out]) HS.out
        have hkin : k ∈ Mp.keys ps := by
          have := keys_at HP.out
          rw [HE.out] at this
          exact List.mem_of_getElem? this
        obtain ⟨i, ei, hi, hix⟩ := Mp.place_lt hkin
        rw [hpl] at ei
        have hji : j = i := by omega
        subst hji
        have e1 : Mp.getE ps k = 0 := by unfold Mp.getE; rw [if_pos hkin]
        have e2 : Mp.getV ps k = p.2 := by unfold Mp.getV; rw [if_pos hkin, hix, HP.out]; rfl
        rw [e1, e2]
        exact ⟨A3, c3, rfl, k3 _ _ _ _ _ _ ho2 (by decide), h3, h3⟩
      · have HE := Lib.hid he
        have HD := Lib.hid (decide_eq_false he)
        clear he
        go_wp2_with (first
          | (go_at_call 62; refine (equal_any _ _ _ _ _ _ _ _ _ _ _ HBP.out HBK.out (HR1.out.below b1) ((H'.out.below HB0.out).alloc HB0.out.size _)).mono ?_; rw [HD.out]; rintro e w2 ⟨rfl, rfl⟩)
          | fail)
        go_roundw
        case rel =>
          refine ⟨j + 1, by omega, by go_num, Lib.hid (fun i hi => ?_), Lib.hid (HK.out.alloc _), Lib.hid (HB0.out.alloc HB0.out.size _)⟩
          rcases Nat.lt_or_ge i j with h1 | h1
          · exact HS.out i h1
          · obtain rfl : i = j := by omega
            rw [keys_at HP.out]
            intro h; injection h with h; exact HE.out h
        case measure => simp [intOf]; omega
    · obtain rfl : j = n := by omega
      obtain ⟨x0, x1, x2, f0, f1, f2⟩ := three HK.out
      go_wp2_with fail
      obtain ⟨k1, k2, k3⟩ := put3 HK.out (.int .i64 5) (.slice none 0 0) (.int .i64 0)
      refine bodyPost_ret (results_cell_row rfl _ _ _ _ _ _ _ rfl k1 Try.underlying34 rfl (by kernel_rfl)) rfl ?_
      have h3 := k2 w (Nat.le_refl _) HB0.out
      have hno : k ∉ Mp.keys ps := fun hk => by
        obtain ⟨i, _, hi, _⟩ := Mp.place_lt hk
        have h1 : i < (Mp.keys ps).length := by
          rcases Nat.lt_or_ge i (Mp.keys ps).length with h | h
          · exact h
          · rw [List.getElem?_eq_none h] at hi; cases hi
        rw [keys_length, hlen] at h1
        exact HS.out i h1 hi
      have e1 : Mp.getE ps k = 5 := by unfold Mp.getE; rw [if_neg hno]
      have e2 : Mp.getV ps k = [] := by unfold Mp.getV; rw [if_neg hno]
      rw [e1, e2]
      exact ⟨none, 0, rfl, own_nil _ _, h3, h3⟩
theorem get_any {W w : World} {ps : List Pr} {k : List Nat} {A A' : Option Addr} {n c n' c' B B' : Nat} (hn : n ≤ 100000) (hL : LimP ps) (hb : BytesP ps) (hbk : ∀ x ∈ k, x < 256) (h : RdP w B A n ps) (h' : Rd w B' A' n' (bv k)) (hB : Below W.heap.size W w) :
    Calls Try.prog 41 #[.slice A n c, .slice A' n' c'] w (GotR W w (Mp.getE ps k) (Mp.getV ps k) 0) :=
  (get_raw hn hL hb hbk h h').mono fun e w' ⟨A, c, h1, h2, h3, h4⟩ => ⟨A, c, h1, more_ hB.size h2, hB.trans (h3.mono hB.size), h4⟩
theorem Mp.ltB_asymm {x y : List Nat} (h : Mp.ltB x y = true) : Mp.ltB y x = false := by
  cases h2 : Mp.ltB y x with
  | false => rfl
  | true => have := Mp.ltB_trans h h2; rw [Mp.ltB_irrefl] at this; cases this
set_option maxHeartbeats 1000000 in
theorem placeM_any (w : World) {A A' : Option Addr} {n c n' c' B B' : Nat} {ps : List Pr} {k : List Nat} (hn : n ≤ 100000) (hb : BytesP ps) (hbk : ∀ x ∈ k, x < 256) (hno : k ∉ Mp.keys ps) (h : RdP w B A n ps) (h' : Rd w B' A' n' (bv k)) :
    Calls Try.prog 91 #[.slice A n c, .slice A' n' c'] w fun e w' => e = .returned (.int .i64 (Mp.cut ps k : Nat)) ∧ Below w.heap.size w w' := by
  have hlen := h.length
  have H := Lib.hid h.fit
  have H' := Lib.hid h'.fit
  have HB := Lib.hid hb
  have HBK := Lib.hid hbk
  have HNO := Lib.hid hno
  clear h h' hb hbk hno
  go_enter Try.func91, Try.ntmps91
  go_wp2_with fail
  go_loopw [5, 6, 9] (fun s5 s6 s9 wr => ∃ j : Nat, j ≤ n ∧ s9 = .int .i64 j ∧ Hid (∀ (i : Nat) (p : Pr), i < j → ps[i]? = some p → Mp.ltB p.1 k = true) ∧ Hid (Below w.heap.size w wr)) (fun _ _ s9 _ => n - (intOf s9).toNat)
  case atStart => exact ⟨0, Nat.zero_le _, rfl, Lib.hid (fun i p hi => absurd hi (by omega)), Lib.hid (Below.refl _ _)⟩
  case round =>
    obtain ⟨j, hj, rfl, HS, HB0⟩ := hrel
    by_cases hlt : j < n
    · obtain ⟨b, o, p, A1, c1, A2, c2, rfl, hp, hcell1, hcell2, hrd1, hrd2⟩ := ((H.out.below HB0.out).fit).at hlt
      have HP := Lib.hid hp
      have HR1 := Lib.hid hrd1
      have hpos := cmpB_pos (HB.out p (List.mem_of_getElem? hp)).1 HBK.out
      obtain ⟨z, hz⟩ : ∃ z, cmpB p.1 k = z := ⟨_, rfl⟩
      rw [hz] at hpos
      have b1 : Below wr.heap.size wr (wr.alloc (.cells #[.slice A1 p.1.length c1, .slice A2 p.2.length c2] 42)) := (Below.refl _ _).alloc (Nat.le_refl _) _
      have HZ := Lib.hid hz
      clear hp hrd1 hrd2 hz
      by_cases he : 0 < z
      · have HE := Lib.hid (hpos.1 he)
        clear hpos
        go_wp2_with (first
          | (go_at_call 102; refine (compare_any _ _ _ _ _ _ _ _ _ _ _ (HR1.out.below b1) ((H'.out.below HB0.out).alloc HB0.out.size _)).mono ?_; rw [HZ.out]; rintro e w2 ⟨rfl, rfl⟩)
          | fail)
        go_ret
        refine ⟨ret_int ?_, HB0.out.alloc HB0.out.size _⟩
        congr 1
        refine (Mp.cut_is (by omega) HS.out (fun q hq => ?_)).symm
        rw [HP.out] at hq
        injection hq with hq
        subst hq
        exact Mp.ltB_asymm HE.out
      · have HE := Lib.hid (show Mp.ltB p.1 k = true from by
          cases h1 : Mp.ltB p.1 k with
          | true => rfl
          | false =>
            cases h2 : Mp.ltB k p.1 with
            | true => exact absurd (hpos.2 h2) he
            | false =>
              have := keys_at HP.out
              rw [Mp.ltB_total h1 h2] at this
              exact absurd (List.mem_of_getElem? this) HNO.out)
        clear hpos
        go_wp2_with (first
          | (go_at_call 102; refine (compare_any _ _ _ _ _ _ _ _ _ _ _ (HR1.out.below b1) ((H'.out.below HB0.out).alloc HB0.out.size _)).mono ?_; rw [HZ.out]; rintro e w2 ⟨rfl, rfl⟩)
          | fail)
        go_roundw
        case rel =>
          refine ⟨j + 1, by omega, by go_num, Lib.hid (fun i q hi hq => ?_), Lib.hid (HB0.out.alloc HB0.out.size _)⟩
          rcases Nat.lt_or_ge i j with h1 | h1
          · exact HS.out i q h1 hq
          · obtain rfl : i = j := by omega
            rw [HP.out] at hq
            injection hq with hq
            subst hq
            exact HE.out
        case measure => simp [intOf]; omega
    · obtain rfl : j = n := by omega
      go_wp2_with fail
      go_ret
      refine ⟨ret_int ?_, HB0.out⟩
      congr 1
      refine (Mp.cut_is (by omega) HS.out (fun q hq => ?_)).symm
      rw [List.getElem?_eq_none (by omega)] at hq
      cases hq
set_option maxHeartbeats 1000000 in
/-- is it k's? -/
theorem pred_any (w : World) {kb B B' : Nat} {A A1 A2 : Option Addr} {n c c1 c2 n2 : Nat} {k k1 : List Nat} (hk : ∀ x ∈ k, x < 256) (hk1 : ∀ x ∈ k1, x < 256) (hc : w.cell? ⟨kb, 0, none⟩ = some (.slice A n c)) (h : Rd w B A n (bv k)) (h1 : Rd w B' A1 k1.length (bv k1)) :
    Calls Try.prog 99 #[.agg #[.slice A1 k1.length c1, .slice A2 n2 c2], .pointer (some ⟨kb, 0, none⟩)] w fun e w' => e = .returned (.bool (decide (k1 = k))) ∧ Below w.heap.size w w' := by
  have hlt := World.block_lt_of_cell? _ _ hc
  have b1 : Below w.heap.size w (w.alloc (.cells #[.slice A1 k1.length c1, .slice A2 n2 c2] 42)) := (Below.refl _ _).alloc (Nat.le_refl _) _
  have hc1 := (b1.cell (p := ⟨kb, 0, none⟩) hlt).trans hc
  have H := Lib.hid (h.fit.below b1)
  have H1 := Lib.hid (h1.fit.below b1)
  have HK := Lib.hid hk
  have HK1 := Lib.hid hk1
  clear h h1 hk hk1 hc hlt
  go_enter Try.func99, Try.ntmps99
  go_wp2_with (first
    | (go_at_call 62; refine (equal_any _ _ _ _ _ _ _ _ _ _ _ HK1.out HK.out H1.out H.out).mono ?_; rintro e w2 ⟨rfl, rfl⟩)
    | fail)
  go_ret
  exact ⟨rfl, b1⟩
end Go.Proofs.Ytcmjpjhaaookfaa
