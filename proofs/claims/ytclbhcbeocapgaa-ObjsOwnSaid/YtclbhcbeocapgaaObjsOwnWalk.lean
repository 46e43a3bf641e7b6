/- ObjsOwn: the walk, at the landed code. -/
import Derived.Test.YtclbhcbeocapgaaObjsOwnCore
import Derived.Test.YtclbhcbeocapgaaObjsApartWalk
namespace Go.Proofs.Ytclbhcbeocapgaa
open Go.RowKit
set_option linter.unusedVariables false
theorem objsOwn_walk (a0 : Option Addr) (len0 cap0 : Nat) (z0 : List Int) (a1 : Int) (w : World) (w0 : IsRow .i64 w a0 len0 cap0 z0) (w1 : (Lit.int .i64 a1).wf = true) :
    Calls Try.prog 4 #[.slice a0 len0 cap0, .int .i64 a1] w fun e w' => e = .returned (.bool true) ∧ Below w.heap.size w w' :=
  objsOwn_core apply8 awake8 a0 len0 cap0 z0 a1 w w0
end Go.Proofs.Ytclbhcbeocapgaa
