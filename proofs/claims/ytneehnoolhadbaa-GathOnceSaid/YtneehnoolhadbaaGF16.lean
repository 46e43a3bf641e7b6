/- ViewLit -/
import Derived.Test.YtneehnoolhadbaaGF15
import Derived.Great.BuildSlice
namespace Go.Proofs.Ytneehnoolhadbaa
open Go.RowKit
set_option linter.unusedVariables false
/-- a message's cells, with nothing but what counts -/
def stC (k f i l : Int) (h : Bool) : List Value := [.int .i64 k, .int .i64 f, .int .i64 0, .int .i64 0, .int .i64 i, .int .i64 l, .bool h, .int .i64 0, .int .i64 0, .int .i64 0, .int .i64 0, .slice none 0 0, .int .i64 0, .int .i64 0, .slice none 0 0, .slice none 0 0, .int .i64 0, .int .i64 0, .int .i64 0, .int .i64 0, .int .i64 0, .slice none 0 0, .slice none 0 0, .slice none 0 0]
theorem stC_ms {k f i l : Int} {h : Bool} (hi : Vw.lo ≤ i) : Ms (stC k f i l h) := by
  refine ⟨rfl, ?_, rfl, rfl, rfl, rfl, rfl, hi⟩
  intro u hu
  unfold stC at hu
  simp only [List.mem_cons, List.not_mem_nil, or_false] at hu
  rcases hu with rfl | rfl | rfl | rfl | rfl | rfl | rfl | rfl | rfl | rfl | rfl | rfl | rfl | rfl | rfl | rfl | rfl | rfl | rfl | rfl | rfl | rfl | rfl | rfl <;> rfl
end Go.Proofs.Ytneehnoolhadbaa

