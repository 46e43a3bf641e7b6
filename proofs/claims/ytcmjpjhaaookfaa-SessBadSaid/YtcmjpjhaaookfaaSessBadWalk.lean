/- SessBad: the walk, at the landed code. -/
import Derived.Test.YtcmjpjhaaookfaaSessBadCore
import Derived.Test.YtcmjpjhaaookfaaSessCodeA
namespace Go.Proofs.Ytcmjpjhaaookfaa
open Go.RowKit
set_option linter.unusedVariables false
theorem sessBad_walk (a0 : Int) (w : World) (w0 : (Lit.int .i64 a0).wf = true) :
    Calls Try.prog 8 #[.int .i64 a0] w fun e w' => e = .returned (.bool true) ∧ Below w.heap.size w w' :=
  sessBad_core look9 awake9 a0 w
end Go.Proofs.Ytcmjpjhaaookfaa
