/- LockWalks -/
import Derived.Test.YtbgagmpifaakgaaTF04
import Derived.Test.YtbgagmpifaakgaaTF05
import Derived.Test.YtbgagmpifaakgaaTF15
import Derived.Deep.DeepCutAuto
import Derived.Deep.RegionLaw
import Derived.Deep.RegionWith
namespace Go.Proofs.Ytbgagmpifaakgaa
open Go.RowKit
set_option linter.unusedVariables false
/-- integers that a call made -/
def GotI (W w : World) (l : List Int) (en : Ending) (w' : World) : Prop :=
  ∃ A c, en = .returned (.slice A l.length c) ∧ OwnI W w' A l.length c l ∧ Below W.heap.size W w' ∧ Below w.heap.size w w'
theorem GotI.of {W w w' : World} {l : List Int} {en : Ending} (hB : Below W.heap.size W w) (h : GotI w w l en w') : GotI W w l en w' := by
  obtain ⟨A, c, h1, h2, h3, h4⟩ := h
  exact ⟨A, c, h1, own_of hB.size h2, hB.trans (h3.mono hB.size), h4⟩
set_option maxRecDepth 100000 in
theorem cloneI_raw {w : World} {zs : List Int} {A : Option Addr} {n c B : Nat} (hn : n ≤ 100000) (hr : Rd w B A n (iv zs)) :
    Calls Try.prog 24 #[.slice A n c] w (GotI w w zs) := by
  have H := Lib.hid hr.fit
  have hB0 : Below w.heap.size w w := Below.refl _ _
  obtain rfl : zs.length = n := by have := hr.1; rwa [iv_length] at this
  cases A with
  | none =>
    have h0 : zs.length = 0 := by
      rcases Nat.eq_zero_or_pos zs.length with h | h
      · exact h
      · obtain ⟨b, o, h1, _⟩ := hr.2 h
        cases h1
    have hl : zs = [] := List.eq_nil_of_length_eq_zero h0
    subst hl
    clear hr H h0
    have he : ∀ (w : World) (n : Nat), (binOp .eql 22 (.slice none n c) (.slice none 0 0)).run Try.prog w = .ok (.bool true) w := fun _ _ => rfl
    go_enter Try.func24, Try.ntmps24
    go_wp2
    go_ret
    exact ⟨none, 0, rfl, ownI_nil _ _, hB0, hB0⟩
  | some a =>
    clear hr
    have he : ∀ (w : World) (n : Nat), (binOp .eql 22 (.slice (some a) n c) (.slice none 0 0)).run Try.prog w = .ok (.bool false) w := fun _ _ => rfl
    go_enter Try.func24, Try.ntmps24
    go_wp2_with (first
      | (at_builtin
         refine wpList_append_cells (W := w) cellI (.tmp 5) (.tmp 6) rfl (by rfl) rfl (ownI_empty hB0) rfl (H.out.below (hB0.alloc (Nat.le_refl _) _)) (iv_one _) (by omega) (by omega) (hB0.alloc (Nat.le_refl _) _) ?_
         intro A1 c1 w1 hown1 hB1 hg1
         simp only [Nat.zero_add] at hown1)
      | fail)
    go_ret
    exact ⟨A1, c1, rfl, hown1, hB1, hB1⟩
theorem cloneI_any {W w : World} {zs : List Int} {A : Option Addr} {n c B : Nat} (hn : n ≤ 100000) (hr : Rd w B A n (iv zs)) (hB : Below W.heap.size W w) :
    Calls Try.prog 24 #[.slice A n c] w (GotI W w zs) :=
  (cloneI_raw hn hr).mono fun e w' h => GotI.of hB h
theorem index_any (w : World) {A : Option Addr} {n c B : Nat} {zs : List Int} (x : Int) (h : Rd w B A n (iv zs)) (hn : n ≤ maxLen) :
    Calls Try.prog 37 #[.slice A n c, .int .i64 x] w fun e w' => e = .returned (.int .i64 (placeI zs x)) ∧ w = w' := by
  have hl : zs.length = n := by have := h.1; rwa [iv_length] at this
  unfold maxLen at hn
  have HN : Hid (n ≤ 9223372036854775807) := Lib.hid (by omega)
  have HL := Lib.hid hl
  have H := Lib.hid h
  clear h hl hn
  go_enter Try.func37, Try.ntmps37
  go_wp2
  go_loopw [8] (fun i wr => ∃ k : Nat, k ≤ n ∧ i = .int .i64 k ∧ Hid (∀ j, j < k → zs[j]? ≠ some x) ∧ w = wr) (fun i _ => n - (intOf i).toNat)
  case atStart => exact ⟨0, Nat.zero_le _, rfl, Lib.hid (fun j hj => absurd hj (by omega)), rfl⟩
  case round =>
    obtain ⟨k, hk, rfl, HS, rfl⟩ := hrel
    by_cases hlt : k < n
    · obtain ⟨z, hz⟩ : ∃ z, zs[k]? = some z := ⟨_, List.getElem?_eq_getElem (by have := HL.out; omega)⟩
      obtain ⟨b, o, rfl, _⟩ := H.out.int_at hlt
      have hc := H.out.int_cell hlt hz
      have hv : IntKind.i64.wrap ((k : Int) + 1) = (k : Int) + 1 := IntWalk.i64_in _ (by have := HN.out; omega)
      have HZ := Lib.hid hz
      clear hz
      by_cases he : z = x
      · subst he
        have HP := Lib.hid (place_first HZ.out HS.out)
        go_wp2
        go_ret
        exact ⟨ret_int HP.out.symm, rfl⟩
      · have he' : (x == z) = false := by simpa using fun h => he h.symm
        have HE := Lib.hid he
        clear he
        go_wp2
        go_roundw
        case rel =>
          refine ⟨k + 1, by omega, by go_num, Lib.hid (fun j hj => ?_), trivial⟩
          rcases Nat.lt_or_ge j k with h1 | h1
          · exact HS.out j h1
          · obtain rfl : j = k := by omega
            rw [HZ.out]
            intro h; injection h with h; exact HE.out h
        case measure => simp [intOf]; omega
    · obtain rfl : k = n := by omega
      have HP := Lib.hid (place_none (s := zs) (x := x) (by rw [HL.out]; exact HS.out))
      go_wp2
      go_ret
      exact ⟨ret_int HP.out.symm, rfl⟩
theorem contains_any (w : World) {A : Option Addr} {n c B : Nat} {zs : List Int} (x : Int) (h : Rd w B A n (iv zs)) (hn : n ≤ maxLen) :
    Calls Try.prog 29 #[.slice A n c, .int .i64 x] w fun e w' => e = .returned (.bool (decide (x ∈ zs))) ∧ w = w' := by
  have H := Lib.hid h
  clear h
  by_cases hx : x ∈ zs
  · obtain ⟨k, hk, hk1, _⟩ := place_lt hx
    have h0 : (0 : Int) ≤ (k : Int) := by omega
    have HP := Lib.hid hk
    rw [decide_eq_true hx]
    clear hk hx
    go_enter Try.func29, Try.ntmps29
    go_wp2_with (first
      | (go_at_call 37; refine (index_any _ x H.out hn).mono ?_; rintro e w2 ⟨rfl, rfl⟩; rw [HP.out])
      | fail)
    go_ret
    exact ⟨rfl, rfl⟩
  · have HP := Lib.hid (place_no hx)
    rw [decide_eq_false hx]
    clear hx
    go_enter Try.func29, Try.ntmps29
    go_wp2_with (first
      | (go_at_call 37; refine (index_any _ x H.out hn).mono ?_; rintro e w2 ⟨rfl, rfl⟩; rw [HP.out])
      | fail)
    go_ret
    exact ⟨rfl, rfl⟩
end Go.Proofs.Ytbgagmpifaakgaa

