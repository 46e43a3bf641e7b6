/- PackRdr -/
import Derived.Test.YtneehnoolhadbaaGP02
import Derived.Below
import Derived.Deep.RegionWith
import Derived.IntWalk
import Derived.Laws.BitsAllLaws
import Derived.Outline
import Derived.OwnWalk
import Derived.ProofKit
import Derived.RegionTactic
import Derived.WalkKit
import Derived.WalkLawsBesides
import Derived.WalkSpells
namespace Go.Proofs.Ytneehnoolhadbaa
open Go.RowKit
set_option linter.unusedVariables false

/-- only block b has turned; what is new stands behind -/
abbrev Only (b : Nat) (w w' : World) : Prop := w.grownBy w' (some b)
end Go.Proofs.Ytneehnoolhadbaa

