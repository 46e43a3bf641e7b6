/- MachSameC -/
import Derived.Test.YtmdkbmafkglhdaaFT03
import Derived.Test.YtmdkbmafkglhdaaFT04
import Derived.Test.YtmdkbmafkglhdaaFT05
import Derived.Test.YtmdkbmafkglhdaaFT07
import Derived.Test.YtmdkbmafkglhdaaFT09
import Derived.Test.YtmdkbmafkglhdaaFT10
import Derived.Test.YtmdkbmafkglhdaaFT12
import Derived.Test.YtmdkbmafkglhdaaFT13
import Derived.Test.YtmdkbmafkglhdaaFT19
import Derived.Test.YtmdkbmafkglhdaaFT20
import Derived.Test.YtmdkbmafkglhdaaFT22
import Derived.Test.YtmdkbmafkglhdaaFT24
import Derived.BigQuiet
import Derived.Deep.CutBlock
import Derived.Deep.DeepCutAuto
import Derived.Deep.DrawnRows
import Derived.Deep.QuietTactic
import Derived.Deep.RegionHeld3
import Derived.Deep.RegionLaw
import Derived.Deep.RegionWith
import Derived.WalkSmall
namespace Go.Proofs.Ytmdkbmafkglhdaa
open Go.RowKit
set_option linter.unusedVariables false
theorem Cm.eq_iff (a b : Cm) : a = b ↔ a.kind = b.kind ∧ a.who = b.who ∧ a.key = b.key ∧ a.val = b.val ∧ a.old = b.old := by
  constructor
  · rintro rfl; exact ⟨rfl, rfl, rfl, rfl, rfl⟩
  · rintro ⟨h1, h2, h3, h4, h5⟩; cases a; cases b; simp at h1 h2 h3 h4 h5; subst h1 h2 h3 h4 h5; rfl
instance : DecidableEq Cm := fun a b => decidable_of_iff _ (Cm.eq_iff a b).symm
end Go.Proofs.Ytmdkbmafkglhdaa

