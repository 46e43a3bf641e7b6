/- ObjsForms: the walk, at the landed code. -/
import Derived.Test.YtclbhcbeocapgaaObjsFormsCore
import Derived.Test.YtclbhcbeocapgaaObjsApartWalk
namespace Go.Proofs.Ytclbhcbeocapgaa
open Go.RowKit
set_option linter.unusedVariables false
theorem objsForms_walk (a0 : Int) (w : World) (w0 : (Lit.int .i64 a0).wf = true) :
    Calls Try.prog 3 #[.int .i64 a0] w fun e w' => e = .returned (.bool true) ∧ Below w.heap.size w w' :=
  objsForms_core apply8 ok8 awake8 a0 w
end Go.Proofs.Ytclbhcbeocapgaa
