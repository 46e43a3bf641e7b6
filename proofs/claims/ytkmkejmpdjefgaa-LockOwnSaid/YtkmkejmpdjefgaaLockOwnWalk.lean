/- LockOwn: the walk, at the landed code. -/
import Derived.Test.YtkmkejmpdjefgaaLockOwnCore
import Derived.Test.YtkmkejmpdjefgaaLockWalks2
namespace Go.Proofs.Ytkmkejmpdjefgaa
open Go.RowKit
set_option linter.unusedVariables false
theorem lockOwn_walk (a0 : Option Addr) (len0 cap0 : Nat) (z0 : List Int) (a1 a2 : Int) (w : World) (w0 : IsRow .i64 w a0 len0 cap0 z0) (w1 : (Lit.int .i64 a1).wf = true) (w2 : (Lit.int .i64 a2).wf = true) :
    Calls Try.prog 5 #[.slice a0 len0 cap0, .int .i64 a1, .int .i64 a2] w fun e w' => e = .returned (.bool true) ∧ Below w.heap.size w w' :=
  lockOwn_core take_any free_any owner_any (lockAwake take_any free_any owner_any) a0 len0 cap0 z0 a1 a2 w w0
end Go.Proofs.Ytkmkejmpdjefgaa
