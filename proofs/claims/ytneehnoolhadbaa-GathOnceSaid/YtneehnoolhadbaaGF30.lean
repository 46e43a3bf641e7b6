/- BoxKit -/
import Derived.Test.YtneehnoolhadbaaGF29
import Derived.Deep.MidRow
import Derived.Deep.RegionWith
import Derived.OwnWalk
import Derived.WalkLawsBesides
import Derived.WalkSpells
namespace Go.Proofs.Ytneehnoolhadbaa
open Go.RowKit
set_option linter.unusedVariables false
theorem boxed (w : World) (Z R : Array Value) (T : TypeId) : ∃ g w2, w.heap.size = g ∧ (w.alloc (.cells Z T)).setRow g R = w2 ∧ Below w.heap.size w w2 ∧ Blk w2 g T R :=
  ⟨_, _, rfl, rfl, below_setRow ((Below.refl _ _).alloc (Nat.le_refl _) _) (Nat.le_refl _) _, (Blk.new _ _ _).row _⟩
theorem alloced (w : World) (R : Array Value) (T : TypeId) : ∃ g w2, w.heap.size = g ∧ w.alloc (.cells R T) = w2 ∧ Below w.heap.size w w2 ∧ Blk w2 g T R :=
  ⟨_, _, rfl, rfl, (Below.refl _ _).alloc (Nat.le_refl _) _, Blk.new _ _ _⟩
end Go.Proofs.Ytneehnoolhadbaa

