/- CloneKit -/
import Derived.Test.YtbgagmpifaakgaaTF03
namespace Go.Proofs.Ytbgagmpifaakgaa
open Go.RowKit
set_option linter.unusedVariables false

set_option maxRecDepth 100000 in
theorem clone_raw (l : List Nat) (A : Option Addr) (n c B : Nat) (hn : Lim 0 n) (w : World) (hr : Rd w B A n (bv l)) :
    Calls Try.prog 23 #[.slice A n c] w (GotB w l) := by
  have hn := hn.out
  have H := Lib.hid hr.fit
  have hB0 : Below w.heap.size w w := Below.refl _ _
  cases A with
  | none =>
    have h0 : n = 0 := by
      rcases Nat.eq_zero_or_pos n with h | h
      · exact h
      · obtain ⟨b, o, h1, _⟩ := hr.2 h
        cases h1
    subst h0
    have hl : l = [] := List.eq_nil_of_length_eq_zero hr.length
    subst hl
    clear hr H
    have he : ∀ w : World, (binOp .eql 23 (.slice none 0 c) (.slice none 0 0)).run Try.prog w = .ok (.bool true) w := fun _ => rfl
    go_enter Try.func23, Try.ntmps23
    go_wp2
    go_ret
    exact ⟨none, 0, 0, rfl, ⟨rfl, .inl ⟨rfl, rfl⟩⟩, hB0⟩
  | some a =>
    clear hr
    have he : ∀ w : World, (binOp .eql 23 (.slice (some a) n c) (.slice none 0 0)).run Try.prog w = .ok (.bool false) w := fun _ => rfl
    go_enter Try.func23, Try.ntmps23
    go_wp2_with (first
      | (at_builtin
         refine wpList_append_bytes (W := w) byteT (.tmp 5) (.tmp 6) rfl (by rfl) rfl (own_empty hB0 5) rfl ((H.out).alloc (Nat.le_refl _) _) (by omega) (hB0.alloc (Nat.le_refl _) _) ?_
         intro A1 c1 w1 hown1 hr1 hB1
         simp only [Nat.zero_add, List.nil_append] at hown1 hr1)
      | fail)
    go_ret
    exact ⟨_, _, _, rfl, hown1, hB1⟩
theorem clone_any {W w : World} {l : List Nat} {A : Option Addr} {n c B : Nat} (hn : Lim 0 n) (hr : Rd w B A n (bv l)) (hB : Below W.heap.size W w) :
    Calls Try.prog 23 #[.slice A n c] w (GotIn W w l) :=
  (clone_raw l A n c B hn w hr).mono fun e w' h => GotIn.of hB h
end Go.Proofs.Ytbgagmpifaakgaa

