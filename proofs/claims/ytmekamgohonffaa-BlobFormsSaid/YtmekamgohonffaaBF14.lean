/- MapsRef MapsRef2 -/
import Derived.Test.YtmekamgohonffaaBF02
import Derived.Test.YtmekamgohonffaaBF03
import Derived.Test.YtmekamgohonffaaBF05
import Derived.Test.YtmekamgohonffaaBF06
import Derived.BigQuiet
import Derived.Deep.QuietTactic
import Derived.Deep.RegionLaw
import Derived.Deep.RegionWith
namespace Go.Proofs.Ytmekamgohonffaa
open Go.RowKit
set_option linter.unusedVariables false
theorem belowN_ {B : Nat} {a w : World} (h : Below B a w) (k : Nat) : Below B a (w.drewN k) := h.trans ⟨rfl, rfl, rfl, Nat.le_refl _, fun _ _ => rfl⟩
end Go.Proofs.Ytmekamgohonffaa

namespace Go.Proofs.Ytmekamgohonffaa
open Go.RowKit
set_option linter.unusedVariables false
theorem belowN_d {w : World} (m : Nat) : Below w.heap.size w (w.drewN m) := belowN_ (Below.refl _ _) m
end Go.Proofs.Ytmekamgohonffaa

