/- MachMath -/
import Derived.Test.YtneehnoolhadbaaGP03
import Derived.Test.YtneehnoolhadbaaGP11
import Derived.Test.YtneehnoolhadbaaGP14
import Derived.Test.YtneehnoolhadbaaGP15
import Derived.BigQuiet
import Derived.Deep.CutBlock
import Derived.Deep.DeepCutAuto
import Derived.Deep.DrawnRows
import Derived.Deep.QuietTactic
import Derived.Deep.RegionHeld3
import Derived.Deep.RegionLaw
import Derived.Deep.RegionWith
namespace Go.Proofs.Ytneehnoolhadbaa
open Go.RowKit
set_option linter.unusedVariables false
/-- an entry: session, number, command -/
structure En where
  s : Int
  q : Int
  c : Cm
end Go.Proofs.Ytneehnoolhadbaa

