/- MachRefE -/
import Derived.Test.YtlfkgpllleogoaaDP07
import Derived.Test.YtlfkgpllleogoaaDP12
import Derived.Test.YtlfkgpllleogoaaDP14
import Derived.Test.YtlfkgpllleogoaaDP19
import Derived.Test.YtlfkgpllleogoaaDP20
import Derived.BigQuiet
import Derived.Deep.CutBlock
import Derived.Deep.DeepCutAuto
import Derived.Deep.DrawnRows
import Derived.Deep.Matrix
import Derived.Deep.QuietTactic
import Derived.Deep.RegionHeld3
import Derived.Deep.RegionLaw
import Derived.Deep.RegionWith
namespace Go.Proofs.Ytlfkgpllleogoaa
open Go.RowKit
set_option linter.unusedVariables false
theorem refput_in {W w : World} {l : List Nat} {A : Option Addr} {n c B : Nat} {N : Int} {l' : List Nat} (he : l ++ Pk.enc (Pk.held N) = l') (hn : Lim 20 n) (hr : Rd w B A n (bv l)) (hB : Below W.heap.size W w) :
    Calls Try.prog 66 #[.slice A n c, .int .i64 N] w (GotIn W w l') := by
  subst he
  exact (refnum_any l A n c B N hn w hr).mono fun e w' h => GotIn.of hB h
end Go.Proofs.Ytlfkgpllleogoaa

