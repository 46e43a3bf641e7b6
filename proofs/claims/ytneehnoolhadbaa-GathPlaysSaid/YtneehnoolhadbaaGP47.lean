/- SetKit -/
import Derived.Test.YtneehnoolhadbaaGP03
namespace Go.Proofs.Ytneehnoolhadbaa
open Go.RowKit
set_option linter.unusedVariables false
theorem grown_set (W : World) (g i : Nat) (u : Value) : W.grownBy (W.setCell ⟨g, i, none⟩ u) (some g) :=
  ⟨rfl, rfl, rfl, by simp [World.setCell], fun k hk hn => Below.heap_setCell W ⟨g, i, none⟩ u k (by rintro rfl; exact hn rfl)⟩
end Go.Proofs.Ytneehnoolhadbaa

