/- MapsLast: the walk, at the landed code. -/
import Derived.Test.YtmnfjobeaklokaaMapsLastCore
namespace Go.Proofs.Ytmnfjobeaklokaa
open Go.RowKit
set_option linter.unusedVariables false
theorem mapsLast_walk (a0 : Option Addr) (len0 cap0 : Nat) (z0 : List Int) (w : World) (w0 : IsRow .i64 w a0 len0 cap0 z0) :
    Calls Try.prog 5 #[.slice a0 len0 cap0] w fun e w' => e = .returned (.bool true) ∧ Below w.heap.size w w' :=
  mapsLast_core putC7 getC7 delC7 (mapsAwake putC7 getC7 delC7) a0 len0 cap0 z0 w w0
end Go.Proofs.Ytmnfjobeaklokaa
