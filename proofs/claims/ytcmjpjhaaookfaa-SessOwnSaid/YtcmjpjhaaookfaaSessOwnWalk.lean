/- SessOwn: the walk, at the landed code. -/
import Derived.Test.YtcmjpjhaaookfaaSessOwnCore
import Derived.Test.YtcmjpjhaaookfaaSessCodeA
namespace Go.Proofs.Ytcmjpjhaaookfaa
open Go.RowKit
set_option linter.unusedVariables false
theorem sessOwn_walk (a0 : Option Addr) (len0 cap0 : Nat) (z0 : List Int) (a1 : Int) (w : World) (w0 : IsRow .i64 w a0 len0 cap0 z0) (w1 : (Lit.int .i64 a1).wf = true) :
    Calls Try.prog 9 #[.slice a0 len0 cap0, .int .i64 a1] w fun e w' => e = .returned (.bool true) ∧ Below w.heap.size w w' :=
  sessOwn_core look9 put9 awake9 a0 len0 cap0 z0 a1 w w0
end Go.Proofs.Ytcmjpjhaaookfaa
