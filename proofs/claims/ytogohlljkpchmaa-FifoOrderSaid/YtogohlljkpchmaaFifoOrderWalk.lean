/- FifoOrder: the walk, at the landed code. -/
import Derived.Test.YtogohlljkpchmaaFifoOrderCore
import Derived.Test.YtogohlljkpchmaaFifoAwake
namespace Go.Proofs.Ytogohlljkpchmaa
open Go.RowKit
theorem fifoOrder_walk (a1 : Option Addr) (len1 cap1 : Nat) (z1 : List (List Nat)) (w : World) (w1 : IsRowQ w a1 len1 cap1 z1) :
    Calls Try.prog 6 #[.slice a1 len1 cap1] w fun e w' => e = .returned (.bool true) ∧ Below w.heap.size w w' :=
  fifoOrder_core push_any pop_any fifoAwake a1 len1 cap1 z1 w w1
end Go.Proofs.Ytogohlljkpchmaa
