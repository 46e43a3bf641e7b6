/- WindFar: the walk. -/
import Derived.Test.YtomiobnjllaalaaWindAwake
import Derived.Test.YtomiobnjllaalaaBitsKit
namespace Go.Proofs.Ytomiobnjllaalaa
open Go.RowKit
set_option linter.unusedVariables false
namespace Wa
abbrev x : ByteArray := ⟨#[120]⟩
abbrev y : ByteArray := ⟨#[121]⟩
abbrev z : ByteArray := ⟨#[122]⟩
abbrev full (n : Nat) : List (Option ByteArray) := List.replicate n (some x)
/-- what the window is behind the Put that may be far -/
def FarP (W : World) (p : Nat) (top : Nat) (r : Bool) (w : World) (e : Ending) (w' : World) : Prop :=
  e = .returned (.bool r) ∧ (∃ ss, WS.WinR w' W.heap.size p 7 top ss ∧ top = 7 + Wd.lead ss) ∧ WS.Turns W.heap.size w w'
theorem far_no {W w : World} {p : Nat} (h : WS.WinR w W.heap.size p 7 20 (full 13)) (k : Int) (hk : k ≤ 20 ∨ 84 < k) :
    Calls Try.prog 16 #[.pointer (some ⟨p, 0, none⟩), .int .i64 k, .string y] w (FarP W p 20 false w) := by
  refine (WS.put_not h (by unfold WS.Fit; omega) k y ?_).mono fun e w' ⟨h1, h2, h3⟩ => ⟨h1, ⟨_, h2, by rw [Wd.lead_full]⟩, h3⟩
  by_cases h1 : k ≤ 7
  · exact .inl h1
  · rcases hk with h2 | h2
    · refine .inr (.inr ?_)
      have e : k = ((7 + 1 + (k - 8).toNat : Nat) : Int) := by omega
      rw [e, Wd.hasB_at (by rw [List.length_replicate]; omega)]
      rw [List.getElem_replicate]; rfl
    · exact .inr (.inl (by omega))
theorem far_yes {W w : World} {p : Nat} (h : WS.WinR w W.heap.size p 7 20 (full 13)) (hs : W.heap.size ≤ w.heap.size) (k : Int) (h1 : 20 < k) (h2 : k ≤ 84) (top : Nat) (ht : (k = 21 ∧ top = 21) ∨ (k ≠ 21 ∧ top = 20)) :
    Calls Try.prog 16 #[.pointer (some ⟨p, 0, none⟩), .int .i64 k, .string y] w (FarP W p top true w) := by
  have hno : (full 13)[(k - 8).toNat]?.join = none := by rw [List.getElem?_eq_none (by rw [List.length_replicate]; omega)]; rfl
  have hl : 7 + Wd.lead (Wd.laid (full 13) (k - 8).toNat y) = top := by
    rcases ht with ⟨rfl, rfl⟩ | ⟨h3, rfl⟩
    · rfl
    · rw [Wd.lead_laid_far _ _ _ (by rw [Wd.lead_full]; omega), Wd.lead_full]
  exact (WS.put_is h hs (by rw [Wd.lead_full]) k (k - 8).toNat y _ top (by omega) (by omega) hno (by unfold WS.Fit; omega) rfl hl).mono fun e w' ⟨h1, h2, h3⟩ => ⟨h1, ⟨_, h2, hl.symm⟩, h3⟩
end Wa
set_option maxRecDepth 100000 in
set_option maxHeartbeats 2000000 in
theorem windFar_walk (a0 : Int) (a1 : Int) (w0 : (Lit.int .i64 a0).wf = true) (w1 : (Lit.int .i64 a1).wf = true) (w : World) :
    Calls Try.prog 4 #[.int .i64 a0, .int .i64 a1] w fun e w' => e = .returned (.bool true) ∧ Below w.heap.size w w' := by
  clear w0 w1
  have e1 := and_127 a0
  have e2 := and_63 a1
  obtain ⟨k, hk⟩ : ∃ k, k = a0 % 128 := ⟨_, rfl⟩
  obtain ⟨ct, hct⟩ : ∃ ct : Nat, (ct : Int) = a1 % 64 := ⟨(a1 % 64).toNat, by omega⟩
  rw [← hk] at e1
  rw [← hct] at e2
  have hk0 : 0 ≤ k := by omega
  have hk1 : k < 128 := by omega
  have hc1 : ct < 64 := by omega
  clear hk hct
  go_enter Try.func4, Try.ntmps4
  go_wp2_with fail
  refine (WS.new_any w 7).mono ?_
  rintro e w1 ⟨p, rfl, hw1, hB1⟩
  have hh : WS.Wd.held 7 = 7 := by decide
  rw [hh] at hw1
  have T1 : WS.Turns w.heap.size w w1 := WS.Turns.of_below hB1
  clear hh hB1
  go_wp2_with fail
  go_loopw [6] (fun i wr => ∃ j : Nat, j ≤ 13 ∧ i = .int .i64 ((8 + j : Nat) : Int) ∧ WS.WinR wr w.heap.size p 7 (7 + j) (Wa.full j) ∧ WS.Turns w.heap.size w wr) (fun i _ => 21 - (intOf i).toNat)
  case atStart => exact ⟨0, by omega, rfl, hw1, T1⟩
  case round =>
    obtain ⟨j, hj, rfl, hw, ht⟩ := hrel
    have HW := Lib.hid hw
    have HT := Lib.hid ht
    clear hw ht hw1 T1
    by_cases hlt : j < 13
    · have hjj : (j : Int) < 13 := by omega
      have HP := Lib.hid (WS.put_is HW.out HT.out.size (by rw [Wd.lead_full]) ((8 : Int) + (j : Int)) j Wa.x (Wa.full (j + 1)) (7 + (j + 1)) (by omega) (by omega) (by rw [List.getElem?_eq_none (by rw [List.length_replicate]; omega)]; rfl) (by unfold WS.Fit; omega) (Wd.laid_full j _) (by rw [Wd.lead_full]))
      have hd : decide ((8 : Int) + (j : Int) ≤ 20) = true := by simp; omega
      go_wp2_with fail
      refine HP.out.mono ?_
      rintro e w2 ⟨rfl, hw2, t2⟩
      have HW2 := Lib.hid hw2
      have HT2 := Lib.hid (HT.out.trans t2)
      clear hw2 t2
      go_wp2
      go_roundw
      case rel => exact ⟨j + 1, by omega, by go_num, HW2.out, HT2.out⟩
      case measure => simp [intOf]; omega
    · obtain rfl : j = 13 := by omega
      have hd : decide ((8 : Int) + ((13 : Nat) : Int) ≤ 20) = false := by decide
      clear hlt hj
      rcases (by omega : k ≤ 20 ∨ 84 < k ∨ (20 < k ∧ k ≤ 84 ∧ k ≠ 21) ∨ k = 21) with hA | hA | hA | hA
      · -- k ≤ 20
        have hk2 : decide ((20 : Int) < k) = false := by simp; omega
        have hk4 : (k == 21) = false := by simp; omega
        have HP := Lib.hid (Wa.far_no HW.out k (.inl hA))
        clear hA
        go_wp2_with fail
        refine HP.out.mono ?_
        rintro e w3 ⟨rfl, ⟨ss, hw3, hl3⟩, t3⟩
        have HS3 := Lib.hid hw3
        have HL3 := Lib.hid hl3
        have HT3 := Lib.hid (HT.out.trans t3)
        clear hw3 hl3 t3
        rcases (by omega : ct ≤ 7 ∨ (7 < ct ∧ ct ≤ 20) ∨ 20 < ct) with hB | hB | hB
        · -- ct ≤ 7
          have hd7 : decide ((7 : Int) < (ct : Int)) = false := by simp; omega
          have HQ := Lib.hid (WS.cut_no w3 _ p 7 20 _ HS3.out (ct : Int) (by omega))
          clear hB
          go_wp2_with fail
          refine HQ.out.mono ?_
          rintro e w' ⟨rfl, rfl⟩
          have hw4 := HS3.out
          have T4 := HT3.out
          go_wp2_with fail
          refine (WS.cut_no w3 _ p 7 20 _ hw4 6 (.inl (by omega))).mono ?_
          rintro e w' ⟨rfl, rfl⟩
          go_wp2_with fail
          refine (WS.get_no w3 _ p 7 20 _ hw4 7 (Wd.hasB_no (by omega))).mono ?_
          rintro e w5 ⟨rfl, hB5⟩
          have hw5 := hw4.below hB5
          have T5 := T4.trans (WS.Turns.of_below hB5)
          clear hB5 hw4 T4
          go_wp2_with fail
          refine (WS.from_any _ _ _ _ _ _ hw5).mono ?_
          rintro e w' ⟨rfl, rfl⟩
          go_wp2_with fail
          refine (WS.put_not hw5 (by unfold WS.Fit; omega) 7 Wa.z (.inl (by omega))).mono ?_
          rintro e w6 ⟨rfl, hw6, t6⟩
          have T6 := T5.trans t6
          clear hw5 T5 t6
          go_wp2_with fail
          refine (WS.whole_any _ _ _ _ _ _ hw6).mono ?_
          rintro e w' ⟨rfl, rfl⟩
          go_wp2_with fail
          refine (awake_any _).mono ?_
          rintro e w7 ⟨rfl, hB7⟩
          have hB := (T6.below (Nat.le_refl _)).trans (hB7.mono T6.size)
          clear hw6 T6 hB7
          go_wp2
          go_ret
          exact ⟨rfl, hB⟩
        · -- 7 < ct ∧ ct ≤ 20
          have hd7 : decide ((7 : Int) < (ct : Int)) = true := by simp; omega
          have hd8 : decide ((ct : Int) ≤ 20) = true := by simp; omega
          have hw : IntKind.i64.wrap ((ct : Int) - 1) = (ct : Int) - 1 := IntWalk.i64_in _ (by omega)
          have HQ := Lib.hid (WS.cut_is HS3.out HL3.out (ct : Int) (ct - 7) ct _ (by omega) (by have := HL3.out; omega) (by omega) (by omega) rfl)
          clear hB
          go_wp2_with fail
          refine HQ.out.mono ?_
          rintro e w4 ⟨rfl, hw4, t4⟩
          have T4 := HT3.out.trans t4
          clear t4
          go_wp2_with fail
          refine (WS.cut_no w4 _ p ct 20 _ hw4 ((ct : Int) - 1) (.inl (by omega))).mono ?_
          rintro e w' ⟨rfl, rfl⟩
          go_wp2_with fail
          refine (WS.get_no w4 _ p ct 20 _ hw4 (ct : Int) (Wd.hasB_no (by omega))).mono ?_
          rintro e w5 ⟨rfl, hB5⟩
          have hw5 := hw4.below hB5
          have T5 := T4.trans (WS.Turns.of_below hB5)
          clear hB5 hw4 T4
          go_wp2_with fail
          refine (WS.from_any _ _ _ _ _ _ hw5).mono ?_
          rintro e w' ⟨rfl, rfl⟩
          go_wp2_with fail
          refine (WS.put_not hw5 (by unfold WS.Fit; omega) (ct : Int) Wa.z (.inl (by omega))).mono ?_
          rintro e w6 ⟨rfl, hw6, t6⟩
          have T6 := T5.trans t6
          clear hw5 T5 t6
          go_wp2_with fail
          refine (WS.whole_any _ _ _ _ _ _ hw6).mono ?_
          rintro e w' ⟨rfl, rfl⟩
          go_wp2_with fail
          refine (awake_any _).mono ?_
          rintro e w7 ⟨rfl, hB7⟩
          have hB := (T6.below (Nat.le_refl _)).trans (hB7.mono T6.size)
          clear hw6 T6 hB7
          go_wp2
          go_ret
          exact ⟨rfl, hB⟩
        · -- 20 < ct
          have hd7 : decide ((7 : Int) < (ct : Int)) = true := by simp; omega
          have hd8 : decide ((ct : Int) ≤ 20) = false := by simp; omega
          have HQ := Lib.hid (WS.cut_no w3 _ p 7 20 _ HS3.out (ct : Int) (by omega))
          clear hB
          go_wp2_with fail
          refine HQ.out.mono ?_
          rintro e w' ⟨rfl, rfl⟩
          have hw4 := HS3.out
          have T4 := HT3.out
          go_wp2_with fail
          refine (WS.cut_no w3 _ p 7 20 _ hw4 6 (.inl (by omega))).mono ?_
          rintro e w' ⟨rfl, rfl⟩
          go_wp2_with fail
          refine (WS.get_no w3 _ p 7 20 _ hw4 7 (Wd.hasB_no (by omega))).mono ?_
          rintro e w5 ⟨rfl, hB5⟩
          have hw5 := hw4.below hB5
          have T5 := T4.trans (WS.Turns.of_below hB5)
          clear hB5 hw4 T4
          go_wp2_with fail
          refine (WS.from_any _ _ _ _ _ _ hw5).mono ?_
          rintro e w' ⟨rfl, rfl⟩
          go_wp2_with fail
          refine (WS.put_not hw5 (by unfold WS.Fit; omega) 7 Wa.z (.inl (by omega))).mono ?_
          rintro e w6 ⟨rfl, hw6, t6⟩
          have T6 := T5.trans t6
          clear hw5 T5 t6
          go_wp2_with fail
          refine (WS.whole_any _ _ _ _ _ _ hw6).mono ?_
          rintro e w' ⟨rfl, rfl⟩
          go_wp2_with fail
          refine (awake_any _).mono ?_
          rintro e w7 ⟨rfl, hB7⟩
          have hB := (T6.below (Nat.le_refl _)).trans (hB7.mono T6.size)
          clear hw6 T6 hB7
          go_wp2
          go_ret
          exact ⟨rfl, hB⟩
      · -- 84 < k
        have hk2 : decide ((20 : Int) < k) = true := by simp; omega
        have hk3 : decide (k ≤ 84) = false := by simp; omega
        have hk4 : (k == 21) = false := by simp; omega
        have HP := Lib.hid (Wa.far_no HW.out k (.inr hA))
        clear hA
        go_wp2_with fail
        refine HP.out.mono ?_
        rintro e w3 ⟨rfl, ⟨ss, hw3, hl3⟩, t3⟩
        have HS3 := Lib.hid hw3
        have HL3 := Lib.hid hl3
        have HT3 := Lib.hid (HT.out.trans t3)
        clear hw3 hl3 t3
        rcases (by omega : ct ≤ 7 ∨ (7 < ct ∧ ct ≤ 20) ∨ 20 < ct) with hB | hB | hB
        · -- ct ≤ 7
          have hd7 : decide ((7 : Int) < (ct : Int)) = false := by simp; omega
          have HQ := Lib.hid (WS.cut_no w3 _ p 7 20 _ HS3.out (ct : Int) (by omega))
          clear hB
          go_wp2_with fail
          refine HQ.out.mono ?_
          rintro e w' ⟨rfl, rfl⟩
          have hw4 := HS3.out
          have T4 := HT3.out
          go_wp2_with fail
          refine (WS.cut_no w3 _ p 7 20 _ hw4 6 (.inl (by omega))).mono ?_
          rintro e w' ⟨rfl, rfl⟩
          go_wp2_with fail
          refine (WS.get_no w3 _ p 7 20 _ hw4 7 (Wd.hasB_no (by omega))).mono ?_
          rintro e w5 ⟨rfl, hB5⟩
          have hw5 := hw4.below hB5
          have T5 := T4.trans (WS.Turns.of_below hB5)
          clear hB5 hw4 T4
          go_wp2_with fail
          refine (WS.from_any _ _ _ _ _ _ hw5).mono ?_
          rintro e w' ⟨rfl, rfl⟩
          go_wp2_with fail
          refine (WS.put_not hw5 (by unfold WS.Fit; omega) 7 Wa.z (.inl (by omega))).mono ?_
          rintro e w6 ⟨rfl, hw6, t6⟩
          have T6 := T5.trans t6
          clear hw5 T5 t6
          go_wp2_with fail
          refine (WS.whole_any _ _ _ _ _ _ hw6).mono ?_
          rintro e w' ⟨rfl, rfl⟩
          go_wp2_with fail
          refine (awake_any _).mono ?_
          rintro e w7 ⟨rfl, hB7⟩
          have hB := (T6.below (Nat.le_refl _)).trans (hB7.mono T6.size)
          clear hw6 T6 hB7
          go_wp2
          go_ret
          exact ⟨rfl, hB⟩
        · -- 7 < ct ∧ ct ≤ 20
          have hd7 : decide ((7 : Int) < (ct : Int)) = true := by simp; omega
          have hd8 : decide ((ct : Int) ≤ 20) = true := by simp; omega
          have hw : IntKind.i64.wrap ((ct : Int) - 1) = (ct : Int) - 1 := IntWalk.i64_in _ (by omega)
          have HQ := Lib.hid (WS.cut_is HS3.out HL3.out (ct : Int) (ct - 7) ct _ (by omega) (by have := HL3.out; omega) (by omega) (by omega) rfl)
          clear hB
          go_wp2_with fail
          refine HQ.out.mono ?_
          rintro e w4 ⟨rfl, hw4, t4⟩
          have T4 := HT3.out.trans t4
          clear t4
          go_wp2_with fail
          refine (WS.cut_no w4 _ p ct 20 _ hw4 ((ct : Int) - 1) (.inl (by omega))).mono ?_
          rintro e w' ⟨rfl, rfl⟩
          go_wp2_with fail
          refine (WS.get_no w4 _ p ct 20 _ hw4 (ct : Int) (Wd.hasB_no (by omega))).mono ?_
          rintro e w5 ⟨rfl, hB5⟩
          have hw5 := hw4.below hB5
          have T5 := T4.trans (WS.Turns.of_below hB5)
          clear hB5 hw4 T4
          go_wp2_with fail
          refine (WS.from_any _ _ _ _ _ _ hw5).mono ?_
          rintro e w' ⟨rfl, rfl⟩
          go_wp2_with fail
          refine (WS.put_not hw5 (by unfold WS.Fit; omega) (ct : Int) Wa.z (.inl (by omega))).mono ?_
          rintro e w6 ⟨rfl, hw6, t6⟩
          have T6 := T5.trans t6
          clear hw5 T5 t6
          go_wp2_with fail
          refine (WS.whole_any _ _ _ _ _ _ hw6).mono ?_
          rintro e w' ⟨rfl, rfl⟩
          go_wp2_with fail
          refine (awake_any _).mono ?_
          rintro e w7 ⟨rfl, hB7⟩
          have hB := (T6.below (Nat.le_refl _)).trans (hB7.mono T6.size)
          clear hw6 T6 hB7
          go_wp2
          go_ret
          exact ⟨rfl, hB⟩
        · -- 20 < ct
          have hd7 : decide ((7 : Int) < (ct : Int)) = true := by simp; omega
          have hd8 : decide ((ct : Int) ≤ 20) = false := by simp; omega
          have HQ := Lib.hid (WS.cut_no w3 _ p 7 20 _ HS3.out (ct : Int) (by omega))
          clear hB
          go_wp2_with fail
          refine HQ.out.mono ?_
          rintro e w' ⟨rfl, rfl⟩
          have hw4 := HS3.out
          have T4 := HT3.out
          go_wp2_with fail
          refine (WS.cut_no w3 _ p 7 20 _ hw4 6 (.inl (by omega))).mono ?_
          rintro e w' ⟨rfl, rfl⟩
          go_wp2_with fail
          refine (WS.get_no w3 _ p 7 20 _ hw4 7 (Wd.hasB_no (by omega))).mono ?_
          rintro e w5 ⟨rfl, hB5⟩
          have hw5 := hw4.below hB5
          have T5 := T4.trans (WS.Turns.of_below hB5)
          clear hB5 hw4 T4
          go_wp2_with fail
          refine (WS.from_any _ _ _ _ _ _ hw5).mono ?_
          rintro e w' ⟨rfl, rfl⟩
          go_wp2_with fail
          refine (WS.put_not hw5 (by unfold WS.Fit; omega) 7 Wa.z (.inl (by omega))).mono ?_
          rintro e w6 ⟨rfl, hw6, t6⟩
          have T6 := T5.trans t6
          clear hw5 T5 t6
          go_wp2_with fail
          refine (WS.whole_any _ _ _ _ _ _ hw6).mono ?_
          rintro e w' ⟨rfl, rfl⟩
          go_wp2_with fail
          refine (awake_any _).mono ?_
          rintro e w7 ⟨rfl, hB7⟩
          have hB := (T6.below (Nat.le_refl _)).trans (hB7.mono T6.size)
          clear hw6 T6 hB7
          go_wp2
          go_ret
          exact ⟨rfl, hB⟩
      · -- 20 < k ∧ k ≤ 84 ∧ k ≠ 21
        have hk2 : decide ((20 : Int) < k) = true := by simp; omega
        have hk3 : decide (k ≤ 84) = true := by simp; omega
        have hk4 : (k == 21) = false := by simp; omega
        have HP := Lib.hid (Wa.far_yes HW.out HT.out.size k (by omega) (by omega) 20 (.inr ⟨hA.2.2, rfl⟩))
        clear hA
        go_wp2_with fail
        refine HP.out.mono ?_
        rintro e w3 ⟨rfl, ⟨ss, hw3, hl3⟩, t3⟩
        have HS3 := Lib.hid hw3
        have HL3 := Lib.hid hl3
        have HT3 := Lib.hid (HT.out.trans t3)
        clear hw3 hl3 t3
        rcases (by omega : ct ≤ 7 ∨ (7 < ct ∧ ct ≤ 20) ∨ 20 < ct) with hB | hB | hB
        · -- ct ≤ 7
          have hd7 : decide ((7 : Int) < (ct : Int)) = false := by simp; omega
          have HQ := Lib.hid (WS.cut_no w3 _ p 7 20 _ HS3.out (ct : Int) (by omega))
          clear hB
          go_wp2_with fail
          refine HQ.out.mono ?_
          rintro e w' ⟨rfl, rfl⟩
          have hw4 := HS3.out
          have T4 := HT3.out
          go_wp2_with fail
          refine (WS.cut_no w3 _ p 7 20 _ hw4 6 (.inl (by omega))).mono ?_
          rintro e w' ⟨rfl, rfl⟩
          go_wp2_with fail
          refine (WS.get_no w3 _ p 7 20 _ hw4 7 (Wd.hasB_no (by omega))).mono ?_
          rintro e w5 ⟨rfl, hB5⟩
          have hw5 := hw4.below hB5
          have T5 := T4.trans (WS.Turns.of_below hB5)
          clear hB5 hw4 T4
          go_wp2_with fail
          refine (WS.from_any _ _ _ _ _ _ hw5).mono ?_
          rintro e w' ⟨rfl, rfl⟩
          go_wp2_with fail
          refine (WS.put_not hw5 (by unfold WS.Fit; omega) 7 Wa.z (.inl (by omega))).mono ?_
          rintro e w6 ⟨rfl, hw6, t6⟩
          have T6 := T5.trans t6
          clear hw5 T5 t6
          go_wp2_with fail
          refine (WS.whole_any _ _ _ _ _ _ hw6).mono ?_
          rintro e w' ⟨rfl, rfl⟩
          go_wp2_with fail
          refine (awake_any _).mono ?_
          rintro e w7 ⟨rfl, hB7⟩
          have hB := (T6.below (Nat.le_refl _)).trans (hB7.mono T6.size)
          clear hw6 T6 hB7
          go_wp2
          go_ret
          exact ⟨rfl, hB⟩
        · -- 7 < ct ∧ ct ≤ 20
          have hd7 : decide ((7 : Int) < (ct : Int)) = true := by simp; omega
          have hd8 : decide ((ct : Int) ≤ 20) = true := by simp; omega
          have hw : IntKind.i64.wrap ((ct : Int) - 1) = (ct : Int) - 1 := IntWalk.i64_in _ (by omega)
          have HQ := Lib.hid (WS.cut_is HS3.out HL3.out (ct : Int) (ct - 7) ct _ (by omega) (by have := HL3.out; omega) (by omega) (by omega) rfl)
          clear hB
          go_wp2_with fail
          refine HQ.out.mono ?_
          rintro e w4 ⟨rfl, hw4, t4⟩
          have T4 := HT3.out.trans t4
          clear t4
          go_wp2_with fail
          refine (WS.cut_no w4 _ p ct 20 _ hw4 ((ct : Int) - 1) (.inl (by omega))).mono ?_
          rintro e w' ⟨rfl, rfl⟩
          go_wp2_with fail
          refine (WS.get_no w4 _ p ct 20 _ hw4 (ct : Int) (Wd.hasB_no (by omega))).mono ?_
          rintro e w5 ⟨rfl, hB5⟩
          have hw5 := hw4.below hB5
          have T5 := T4.trans (WS.Turns.of_below hB5)
          clear hB5 hw4 T4
          go_wp2_with fail
          refine (WS.from_any _ _ _ _ _ _ hw5).mono ?_
          rintro e w' ⟨rfl, rfl⟩
          go_wp2_with fail
          refine (WS.put_not hw5 (by unfold WS.Fit; omega) (ct : Int) Wa.z (.inl (by omega))).mono ?_
          rintro e w6 ⟨rfl, hw6, t6⟩
          have T6 := T5.trans t6
          clear hw5 T5 t6
          go_wp2_with fail
          refine (WS.whole_any _ _ _ _ _ _ hw6).mono ?_
          rintro e w' ⟨rfl, rfl⟩
          go_wp2_with fail
          refine (awake_any _).mono ?_
          rintro e w7 ⟨rfl, hB7⟩
          have hB := (T6.below (Nat.le_refl _)).trans (hB7.mono T6.size)
          clear hw6 T6 hB7
          go_wp2
          go_ret
          exact ⟨rfl, hB⟩
        · -- 20 < ct
          have hd7 : decide ((7 : Int) < (ct : Int)) = true := by simp; omega
          have hd8 : decide ((ct : Int) ≤ 20) = false := by simp; omega
          have HQ := Lib.hid (WS.cut_no w3 _ p 7 20 _ HS3.out (ct : Int) (by omega))
          clear hB
          go_wp2_with fail
          refine HQ.out.mono ?_
          rintro e w' ⟨rfl, rfl⟩
          have hw4 := HS3.out
          have T4 := HT3.out
          go_wp2_with fail
          refine (WS.cut_no w3 _ p 7 20 _ hw4 6 (.inl (by omega))).mono ?_
          rintro e w' ⟨rfl, rfl⟩
          go_wp2_with fail
          refine (WS.get_no w3 _ p 7 20 _ hw4 7 (Wd.hasB_no (by omega))).mono ?_
          rintro e w5 ⟨rfl, hB5⟩
          have hw5 := hw4.below hB5
          have T5 := T4.trans (WS.Turns.of_below hB5)
          clear hB5 hw4 T4
          go_wp2_with fail
          refine (WS.from_any _ _ _ _ _ _ hw5).mono ?_
          rintro e w' ⟨rfl, rfl⟩
          go_wp2_with fail
          refine (WS.put_not hw5 (by unfold WS.Fit; omega) 7 Wa.z (.inl (by omega))).mono ?_
          rintro e w6 ⟨rfl, hw6, t6⟩
          have T6 := T5.trans t6
          clear hw5 T5 t6
          go_wp2_with fail
          refine (WS.whole_any _ _ _ _ _ _ hw6).mono ?_
          rintro e w' ⟨rfl, rfl⟩
          go_wp2_with fail
          refine (awake_any _).mono ?_
          rintro e w7 ⟨rfl, hB7⟩
          have hB := (T6.below (Nat.le_refl _)).trans (hB7.mono T6.size)
          clear hw6 T6 hB7
          go_wp2
          go_ret
          exact ⟨rfl, hB⟩
      · -- k = 21
        have hk2 : decide ((20 : Int) < k) = true := by simp; omega
        have hk3 : decide (k ≤ 84) = true := by simp; omega
        have hk4 : (k == 21) = true := by simp; omega
        have HP := Lib.hid (Wa.far_yes HW.out HT.out.size k (by omega) (by omega) 21 (.inl ⟨hA, rfl⟩))
        clear hA
        go_wp2_with fail
        refine HP.out.mono ?_
        rintro e w3 ⟨rfl, ⟨ss, hw3, hl3⟩, t3⟩
        have HS3 := Lib.hid hw3
        have HL3 := Lib.hid hl3
        have HT3 := Lib.hid (HT.out.trans t3)
        clear hw3 hl3 t3
        rcases (by omega : ct ≤ 7 ∨ (7 < ct ∧ ct ≤ 21) ∨ 21 < ct) with hB | hB | hB
        · -- ct ≤ 7
          have hd7 : decide ((7 : Int) < (ct : Int)) = false := by simp; omega
          have HQ := Lib.hid (WS.cut_no w3 _ p 7 21 _ HS3.out (ct : Int) (by omega))
          clear hB
          go_wp2_with fail
          refine HQ.out.mono ?_
          rintro e w' ⟨rfl, rfl⟩
          have hw4 := HS3.out
          have T4 := HT3.out
          go_wp2_with fail
          refine (WS.cut_no w3 _ p 7 21 _ hw4 6 (.inl (by omega))).mono ?_
          rintro e w' ⟨rfl, rfl⟩
          go_wp2_with fail
          refine (WS.get_no w3 _ p 7 21 _ hw4 7 (Wd.hasB_no (by omega))).mono ?_
          rintro e w5 ⟨rfl, hB5⟩
          have hw5 := hw4.below hB5
          have T5 := T4.trans (WS.Turns.of_below hB5)
          clear hB5 hw4 T4
          go_wp2_with fail
          refine (WS.from_any _ _ _ _ _ _ hw5).mono ?_
          rintro e w' ⟨rfl, rfl⟩
          go_wp2_with fail
          refine (WS.put_not hw5 (by unfold WS.Fit; omega) 7 Wa.z (.inl (by omega))).mono ?_
          rintro e w6 ⟨rfl, hw6, t6⟩
          have T6 := T5.trans t6
          clear hw5 T5 t6
          go_wp2_with fail
          refine (WS.whole_any _ _ _ _ _ _ hw6).mono ?_
          rintro e w' ⟨rfl, rfl⟩
          go_wp2_with fail
          refine (awake_any _).mono ?_
          rintro e w7 ⟨rfl, hB7⟩
          have hB := (T6.below (Nat.le_refl _)).trans (hB7.mono T6.size)
          clear hw6 T6 hB7
          go_wp2
          go_ret
          exact ⟨rfl, hB⟩
        · -- 7 < ct ∧ ct ≤ 21
          have hd7 : decide ((7 : Int) < (ct : Int)) = true := by simp; omega
          have hd8 : decide ((ct : Int) ≤ 21) = true := by simp; omega
          have hw : IntKind.i64.wrap ((ct : Int) - 1) = (ct : Int) - 1 := IntWalk.i64_in _ (by omega)
          have HQ := Lib.hid (WS.cut_is HS3.out HL3.out (ct : Int) (ct - 7) ct _ (by omega) (by have := HL3.out; omega) (by omega) (by omega) rfl)
          clear hB
          go_wp2_with fail
          refine HQ.out.mono ?_
          rintro e w4 ⟨rfl, hw4, t4⟩
          have T4 := HT3.out.trans t4
          clear t4
          go_wp2_with fail
          refine (WS.cut_no w4 _ p ct 21 _ hw4 ((ct : Int) - 1) (.inl (by omega))).mono ?_
          rintro e w' ⟨rfl, rfl⟩
          go_wp2_with fail
          refine (WS.get_no w4 _ p ct 21 _ hw4 (ct : Int) (Wd.hasB_no (by omega))).mono ?_
          rintro e w5 ⟨rfl, hB5⟩
          have hw5 := hw4.below hB5
          have T5 := T4.trans (WS.Turns.of_below hB5)
          clear hB5 hw4 T4
          go_wp2_with fail
          refine (WS.from_any _ _ _ _ _ _ hw5).mono ?_
          rintro e w' ⟨rfl, rfl⟩
          go_wp2_with fail
          refine (WS.put_not hw5 (by unfold WS.Fit; omega) (ct : Int) Wa.z (.inl (by omega))).mono ?_
          rintro e w6 ⟨rfl, hw6, t6⟩
          have T6 := T5.trans t6
          clear hw5 T5 t6
          go_wp2_with fail
          refine (WS.whole_any _ _ _ _ _ _ hw6).mono ?_
          rintro e w' ⟨rfl, rfl⟩
          go_wp2_with fail
          refine (awake_any _).mono ?_
          rintro e w7 ⟨rfl, hB7⟩
          have hB := (T6.below (Nat.le_refl _)).trans (hB7.mono T6.size)
          clear hw6 T6 hB7
          go_wp2
          go_ret
          exact ⟨rfl, hB⟩
        · -- 21 < ct
          have hd7 : decide ((7 : Int) < (ct : Int)) = true := by simp; omega
          have hd8 : decide ((ct : Int) ≤ 21) = false := by simp; omega
          have HQ := Lib.hid (WS.cut_no w3 _ p 7 21 _ HS3.out (ct : Int) (by omega))
          clear hB
          go_wp2_with fail
          refine HQ.out.mono ?_
          rintro e w' ⟨rfl, rfl⟩
          have hw4 := HS3.out
          have T4 := HT3.out
          go_wp2_with fail
          refine (WS.cut_no w3 _ p 7 21 _ hw4 6 (.inl (by omega))).mono ?_
          rintro e w' ⟨rfl, rfl⟩
          go_wp2_with fail
          refine (WS.get_no w3 _ p 7 21 _ hw4 7 (Wd.hasB_no (by omega))).mono ?_
          rintro e w5 ⟨rfl, hB5⟩
          have hw5 := hw4.below hB5
          have T5 := T4.trans (WS.Turns.of_below hB5)
          clear hB5 hw4 T4
          go_wp2_with fail
          refine (WS.from_any _ _ _ _ _ _ hw5).mono ?_
          rintro e w' ⟨rfl, rfl⟩
          go_wp2_with fail
          refine (WS.put_not hw5 (by unfold WS.Fit; omega) 7 Wa.z (.inl (by omega))).mono ?_
          rintro e w6 ⟨rfl, hw6, t6⟩
          have T6 := T5.trans t6
          clear hw5 T5 t6
          go_wp2_with fail
          refine (WS.whole_any _ _ _ _ _ _ hw6).mono ?_
          rintro e w' ⟨rfl, rfl⟩
          go_wp2_with fail
          refine (awake_any _).mono ?_
          rintro e w7 ⟨rfl, hB7⟩
          have hB := (T6.below (Nat.le_refl _)).trans (hB7.mono T6.size)
          clear hw6 T6 hB7
          go_wp2
          go_ret
          exact ⟨rfl, hB⟩
end Go.Proofs.Ytomiobnjllaalaa
