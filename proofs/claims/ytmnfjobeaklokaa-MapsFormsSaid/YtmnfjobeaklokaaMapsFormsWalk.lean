/- MapsForms: the walk, at the landed code. -/
import Derived.Test.YtmnfjobeaklokaaMapsFormsCore
import Derived.Test.YtmnfjobeaklokaaMapsCode5
namespace Go.Proofs.Ytmnfjobeaklokaa
open Go.RowKit
set_option linter.unusedVariables false
theorem mapsForms_walk (a0 a1 a2 : Int) (w : World) (w0 : (Lit.int .i64 a0).wf = true) (w1 : (Lit.int .i64 a1).wf = true) (w2 : (Lit.int .i64 a2).wf = true) :
    Calls Try.prog 3 #[.int .i64 a0, .int .i64 a1, .int .i64 a2] w fun e w' => e = .returned (.bool true) ∧ Below w.heap.size w w' :=
  mapsForms_core putC7 getC7 delC7 (mapsAwake putC7 getC7 delC7) a0 a1 a2 w
end Go.Proofs.Ytmnfjobeaklokaa
