/- SessFull: the walk, at the landed code. -/
import Derived.Test.YtcmjpjhaaookfaaSessFullCore
import Derived.Test.YtcmjpjhaaookfaaSessCodeA
namespace Go.Proofs.Ytcmjpjhaaookfaa
open Go.RowKit
set_option linter.unusedVariables false
theorem sessFull_walk (a0 a1 : Int) (w : World) (w0 : (Lit.int .i64 a0).wf = true) (w1 : (Lit.int .i64 a1).wf = true) :
    Calls Try.prog 7 #[.int .i64 a0, .int .i64 a1] w fun e w' => e = .returned (.bool true) ∧ Below w.heap.size w w' :=
  sessFull_core look9 put9 awake9 a0 a1 w
end Go.Proofs.Ytcmjpjhaaookfaa
