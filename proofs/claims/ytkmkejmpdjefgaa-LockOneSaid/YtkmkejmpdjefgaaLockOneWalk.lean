/- LockOne: the walk, at the landed code. -/
import Derived.Test.YtkmkejmpdjefgaaLockOneCore
import Derived.Test.YtkmkejmpdjefgaaLockWalks2
namespace Go.Proofs.Ytkmkejmpdjefgaa
open Go.RowKit
set_option linter.unusedVariables false
theorem lockOne_walk (a0 : Option Addr) (len0 cap0 : Nat) (z0 : List Int) (w : World) (w0 : IsRow .i64 w a0 len0 cap0 z0) :
    Calls Try.prog 7 #[.slice a0 len0 cap0] w fun e w' => e = .returned (.bool true) ∧ Below w.heap.size w w' :=
  lockOne_core take_any free_any owner_any (lockAwake take_any free_any owner_any) a0 len0 cap0 z0 w w0
end Go.Proofs.Ytkmkejmpdjefgaa
