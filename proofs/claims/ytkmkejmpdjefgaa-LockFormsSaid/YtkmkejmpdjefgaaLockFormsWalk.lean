/- LockForms: the walk, at the landed code. -/
import Derived.Test.YtkmkejmpdjefgaaLockFormsCore
import Derived.Test.YtkmkejmpdjefgaaLockWalks2
namespace Go.Proofs.Ytkmkejmpdjefgaa
open Go.RowKit
set_option linter.unusedVariables false
theorem lockForms_walk (a0 : Int) (w : World) (w0 : (Lit.int .i64 a0).wf = true) :
    Calls Try.prog 3 #[.int .i64 a0] w fun e w' => e = .returned (.bool true) ∧ Below w.heap.size w w' :=
  lockForms_core take_any free_any owner_any (lockAwake take_any free_any owner_any) a0 w
end Go.Proofs.Ytkmkejmpdjefgaa
