/- hocketref4.own: bytes of one's own. -/
import Derived.Test.YtcmjpjhaaookfaaResKit
namespace Go.Proofs.Ytcmjpjhaaookfaa
open Go.RowKit
set_option linter.unusedVariables false
set_option maxRecDepth 100000 in
theorem ownref_raw (l : List Nat) (A : Option Addr) (n c B : Nat) (hn : Lim 0 n) (w : World) (hr : Rd w B A n (bv l)) :
    Calls Try.prog 46 #[.slice A n c] w (GotB w l) := by
  have hn := hn.out
  have H := Lib.hid hr.fit
  have hB0 : Below w.heap.size w w := Below.refl _ _
  clear hr
  go_enter Try.func46, Try.ntmps46
  go_wp2_with (first
    | (at_builtin
       refine wpList_append_bytes (W := w) byteT (.tmp 3) (.tmp 4) rfl (by rfl) rfl (own_empty hB0 5) rfl ((H.out).alloc (Nat.le_refl _) _) (by omega) (hB0.alloc (Nat.le_refl _) _) ?_
       intro A1 c1 w1 hown1 hr1 hB1
       simp only [Nat.zero_add, List.nil_append] at hown1 hr1)
    | fail)
  go_ret
  exact ⟨_, _, _, rfl, hown1, hB1⟩
theorem ownref_any {W w : World} {l : List Nat} {A : Option Addr} {n c B : Nat} (hn : Lim 0 n) (hr : Rd w B A n (bv l)) (hB : Below W.heap.size W w) :
    Calls Try.prog 46 #[.slice A n c] w (GotIn W w l) :=
  (ownref_raw l A n c B hn w hr).mono fun e w' h => GotIn.of hB h
end Go.Proofs.Ytcmjpjhaaookfaa
