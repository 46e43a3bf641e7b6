/- SessOnce: the walk, at the landed code. -/
import Derived.Test.YtcmjpjhaaookfaaSessOnceCore
import Derived.Test.YtcmjpjhaaookfaaSessCodeA
namespace Go.Proofs.Ytcmjpjhaaookfaa
open Go.RowKit
set_option linter.unusedVariables false
theorem sessOnce_walk (a0 : Option Addr) (len0 cap0 : Nat) (z0 : List Int) (a1 : Option Addr) (len1 cap1 : Nat) (z1 : List Int) (w : World) (w0 : IsRow .i64 w a0 len0 cap0 z0) (w1 : IsRow .i64 w a1 len1 cap1 z1) :
    Calls Try.prog 11 #[.slice a0 len0 cap0, .slice a1 len1 cap1] w fun e w' => e = .returned (.bool true) ∧ Below w.heap.size w w' :=
  sessOnce_core look9 put9 awake9 a0 len0 cap0 z0 a1 len1 cap1 z1 w w0 w1
end Go.Proofs.Ytcmjpjhaaookfaa
