/- MachSameC -/
import Derived.Test.YtlfkgpllleogoaaMT01
import Derived.Test.YtlfkgpllleogoaaMT03
import Derived.Test.YtlfkgpllleogoaaMT04
import Derived.Test.YtlfkgpllleogoaaMT05
import Derived.Test.YtlfkgpllleogoaaMT08
import Derived.Test.YtlfkgpllleogoaaMT09
import Derived.Test.YtlfkgpllleogoaaMT10
import Derived.Test.YtlfkgpllleogoaaMT11
import Derived.Test.YtlfkgpllleogoaaMT12
import Derived.BigQuiet
import Derived.Deep.CutBlock
import Derived.Deep.DeepCutAuto
import Derived.Deep.DrawnRows
import Derived.Deep.QuietTactic
import Derived.Deep.RegionHeld3
import Derived.Deep.RegionLaw
import Derived.Deep.RegionWith
import Derived.WalkSmall
namespace Go.Proofs.Ytlfkgpllleogoaa
open Go.RowKit
set_option linter.unusedVariables false
theorem Cm.eq_iff (a b : Cm) : a = b ↔ a.kind = b.kind ∧ a.who = b.who ∧ a.key = b.key ∧ a.val = b.val ∧ a.old = b.old := by
  constructor
  · rintro rfl; exact ⟨rfl, rfl, rfl, rfl, rfl⟩
  · rintro ⟨h1, h2, h3, h4, h5⟩; cases a; cases b; simp at h1 h2 h3 h4 h5; subst h1 h2 h3 h4 h5; rfl
instance : DecidableEq Cm := fun a b => decidable_of_iff _ (Cm.eq_iff a b).symm
end Go.Proofs.Ytlfkgpllleogoaa

