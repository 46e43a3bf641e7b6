/- SessPlays: the walk, at the landed code. -/
import Derived.Test.YtcmjpjhaaookfaaSessPlaysCore
import Derived.Test.YtcmjpjhaaookfaaSessCodeA
namespace Go.Proofs.Ytcmjpjhaaookfaa
open Go.RowKit
set_option linter.unusedVariables false
theorem sessPlays_walk (a0 : Option Addr) (len0 cap0 : Nat) (z0 : List Int) (a1 : Bool) (w : World) (w0 : IsRow .i64 w a0 len0 cap0 z0) :
    Calls Try.prog 10 #[.slice a0 len0 cap0, .bool a1] w fun e w' => e = .returned (.bool true) ∧ Below w.heap.size w w' :=
  sessPlays_core look9 put9 awake9 a0 len0 cap0 z0 a1 w w0
end Go.Proofs.Ytcmjpjhaaookfaa
