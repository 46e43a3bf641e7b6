/- MachBackWalk -/
import Derived.Test.YthfnnieklkaefaaGreatQ14
import Derived.Test.YthfnnieklkaefaaGreatQ16
namespace Go.Proofs.YthfnnieklkaefaaGreat
open Go.RowKit
set_option linter.unusedVariables false
theorem machBack_walk (a0 : Option Addr) (len0 cap0 : Nat) (z0 : List Int) (a1 : Int) (w : World) (w0 : IsRow .i64 w a0 len0 cap0 z0) (w1 : (Lit.int .i64 a1).wf = true) :
    Calls Tryz.prog 7 #[.slice a0 len0 cap0, .int .i64 a1] w fun e w' => e = .returned (.bool true) ∧ Below w.heap.size w w' := by
  have h := w0.ints
  exact machBack_core step10 encode10 decode10 sameM10 awake10 a1 (Nat.le_trans h.2.2.1 h.2.2.2) w h.1
end Go.Proofs.YthfnnieklkaefaaGreat

