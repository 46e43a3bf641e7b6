/- ViewCounts: the walk, at the landed code. -/
import Derived.Test.YtjindkeojhihdaaViewCountsCore
import Derived.Test.YtjindkeojhihdaaViewAwake
namespace Go.Proofs.Ytjindkeojhihdaa
open Go.RowKit
set_option linter.unusedVariables false
theorem viewCounts_walk (a0 a1 : Int) (w : World) (w0 : (Lit.int .i64 a0).wf = true) (w1 : (Lit.int .i64 a1).wf = true) :
    Calls Try.prog 4 #[.int .i64 a0, .int .i64 a1] w fun e w' => e = .returned (.bool true) ∧ Below w.heap.size w w' :=
  viewCounts_core limit14 most14' members14 awake14 w a0 a1
end Go.Proofs.Ytjindkeojhihdaa
