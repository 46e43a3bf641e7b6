/- MachSameC -/
import Derived.Test.YtmdkbmafkglhdaaK02
import Derived.Test.YtmdkbmafkglhdaaK03
import Derived.Test.YtmdkbmafkglhdaaK04
import Derived.Test.YtmdkbmafkglhdaaK06
import Derived.Test.YtmdkbmafkglhdaaK07
import Derived.Test.YtmdkbmafkglhdaaK11
import Derived.Test.YtmdkbmafkglhdaaK12
import Derived.Test.YtmdkbmafkglhdaaK23
import Derived.Test.YtmdkbmafkglhdaaK25
import Derived.Test.YtmdkbmafkglhdaaK27
import Derived.BigQuiet
import Derived.Deep.CutBlock
import Derived.Deep.DeepCutAuto
import Derived.Deep.DrawnRows
import Derived.Deep.QuietTactic
import Derived.Deep.RegionHeld3
import Derived.Deep.RegionLaw
import Derived.Deep.RegionWith
import Derived.IntWalk
import Derived.OwnWalk
import Derived.ProofKit
import Derived.Test.YtmdkbmafkglhdaaRows
import Derived.WalkKit
import Derived.WalkLawsBesides
import Derived.WalkSmall
import Derived.WalkSpells
namespace Go.Proofs.Ytmdkbmafkglhdaa
open Go.RowKit
set_option linter.unusedVariables false
theorem Cm.eq_iff (a b : Cm) : a = b ↔ a.kind = b.kind ∧ a.who = b.who ∧ a.key = b.key ∧ a.val = b.val ∧ a.old = b.old := by
  constructor
  · rintro rfl; exact ⟨rfl, rfl, rfl, rfl, rfl⟩
  · rintro ⟨h1, h2, h3, h4, h5⟩; cases a; cases b; simp at h1 h2 h3 h4 h5; subst h1 h2 h3 h4 h5; rfl
instance : DecidableEq Cm := fun a b => decidable_of_iff _ (Cm.eq_iff a b).symm
end Go.Proofs.Ytmdkbmafkglhdaa

