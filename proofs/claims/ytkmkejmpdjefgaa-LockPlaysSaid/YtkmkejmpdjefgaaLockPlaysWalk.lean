/- LockPlays: the walk, at the landed code. -/
import Derived.Test.YtkmkejmpdjefgaaLockPlaysCore
import Derived.Test.YtkmkejmpdjefgaaLockWalks2
namespace Go.Proofs.Ytkmkejmpdjefgaa
open Go.RowKit
set_option linter.unusedVariables false
theorem lockPlays_walk (a0 : Option Addr) (len0 cap0 : Nat) (z0 : List Int) (a1 : Option Addr) (len1 cap1 : Nat) (z1 : List Int) (a2 : Bool) (w : World) (w0 : IsRow .i64 w a0 len0 cap0 z0) (w1 : IsRow .i64 w a1 len1 cap1 z1) :
    Calls Try.prog 6 #[.slice a0 len0 cap0, .slice a1 len1 cap1, .bool a2] w fun e w' => e = .returned (.bool true) ∧ Below w.heap.size w w' :=
  lockPlays_core take_any free_any owner_any (lockAwake take_any free_any owner_any) a0 len0 cap0 z0 a1 len1 cap1 z1 a2 w w0 w1
end Go.Proofs.Ytkmkejmpdjefgaa
