/- MachMath -/
import Derived.Test.YtbgagmpifaakgaaTF04
import Derived.Test.YtbgagmpifaakgaaTF07
import Derived.Test.YtbgagmpifaakgaaTF08
import Derived.BigQuiet
import Derived.Deep.CutBlock
import Derived.Deep.DeepCutAuto
import Derived.Deep.DrawnRows
import Derived.Deep.QuietTactic
import Derived.Deep.RegionHeld3
import Derived.Deep.RegionLaw
import Derived.Deep.RegionWith
namespace Go.Proofs.Ytbgagmpifaakgaa
open Go.RowKit
set_option linter.unusedVariables false
/-- an entry: session, number, command -/
structure En where
  s : Int
  q : Int
  c : Cm
end Go.Proofs.Ytbgagmpifaakgaa

