/- MapsPlays: the walk, at the landed code. -/
import Derived.Test.YtmnfjobeaklokaaMapsPlaysCore
import Derived.Test.YtmnfjobeaklokaaMapsAwake
import Derived.Test.YtmnfjobeaklokaaMapsCode5
namespace Go.Proofs.Ytmnfjobeaklokaa
open Go.RowKit
set_option linter.unusedVariables false
theorem mapsPlays_walk (a0 : Option Addr) (len0 cap0 : Nat) (z0 : List Int) (a1 : Option Addr) (len1 cap1 : Nat) (z1 : List (List Nat)) (w : World) (w0 : IsRow .i64 w a0 len0 cap0 z0) (w1 : IsRowQ w a1 len1 cap1 z1) :
    Calls Try.prog 4 #[.slice a0 len0 cap0, .slice a1 len1 cap1] w fun e w' => e = .returned (.bool true) ∧ Below w.heap.size w w' :=
  mapsPlays_core putC7 getC7 delC7 (mapsAwake putC7 getC7 delC7) a0 len0 cap0 z0 a1 len1 cap1 z1 w w0 w1
end Go.Proofs.Ytmnfjobeaklokaa
