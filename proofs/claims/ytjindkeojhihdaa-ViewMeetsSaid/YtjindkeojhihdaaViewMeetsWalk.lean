/- ViewMeets: the walk, at the landed code. -/
import Derived.Test.YtjindkeojhihdaaViewMeetsCore
import Derived.Test.YtjindkeojhihdaaViewAwake
namespace Go.Proofs.Ytjindkeojhihdaa
open Go.RowKit
set_option linter.unusedVariables false
theorem viewMeets_walk (a0 a1 a2 a3 a4 a5 : Int) (w : World) (w0 : (Lit.int .i64 a0).wf = true) (w1 : (Lit.int .i64 a1).wf = true) (w2 : (Lit.int .i64 a2).wf = true) (w3 : (Lit.int .i64 a3).wf = true) (w4 : (Lit.int .i64 a4).wf = true) (w5 : (Lit.int .i64 a5).wf = true) :
    Calls Try.prog 6 #[.int .i64 a0, .int .i64 a1, .int .i64 a2, .int .i64 a3, .int .i64 a4, .int .i64 a5] w fun e w' => e = .returned (.bool true) ∧ Below w.heap.size w w' :=
  viewMeets_core next14 who14 most14' after14 members14 awake14 w a0 a1 a2 a3 a4 a5
end Go.Proofs.Ytjindkeojhihdaa
