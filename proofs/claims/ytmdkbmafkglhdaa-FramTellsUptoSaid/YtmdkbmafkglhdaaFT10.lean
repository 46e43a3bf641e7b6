/- SessRef3 MachMath -/
import Derived.Test.YtmdkbmafkglhdaaFT03
import Derived.Test.YtmdkbmafkglhdaaFT06
import Derived.Test.YtmdkbmafkglhdaaFT07
import Derived.Test.YtmdkbmafkglhdaaFT08
import Derived.Test.YtmdkbmafkglhdaaFT09
import Derived.BigQuiet
import Derived.Deep.CutBlock
import Derived.Deep.DeepCutAuto
import Derived.Deep.DrawnRows
import Derived.Deep.QuietTactic
import Derived.Deep.RegionHeld3
import Derived.Deep.RegionLaw
import Derived.Deep.RegionWith
namespace Go.Proofs.Ytmdkbmafkglhdaa
open Go.RowKit
set_option linter.unusedVariables false
theorem Blk.newAt (w : World) (t : TypeId) (cs : Array Value) {g : Nat} (hg : w.heap.size = g) : Blk (w.alloc (.cells cs t)) g t cs := by subst hg; exact Blk.new w t cs
end Go.Proofs.Ytmdkbmafkglhdaa

namespace Go.Proofs.Ytmdkbmafkglhdaa
open Go.RowKit
set_option linter.unusedVariables false
/-- an entry: session, number, command -/
structure En where
  s : Int
  q : Int
  c : Cm
end Go.Proofs.Ytmdkbmafkglhdaa

