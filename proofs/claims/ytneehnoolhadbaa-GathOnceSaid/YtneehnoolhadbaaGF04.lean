/- ResKit -/
import Derived.Test.YtneehnoolhadbaaGF03
namespace Go.Proofs.Ytneehnoolhadbaa
open Go.RowKit
set_option linter.unusedVariables false

/-- two strings alike, as the walk asks it -/
theorem strL_eq {l m : List Nat} (hl : ∀ x ∈ l, x < 256) (hm : ∀ x ∈ m, x < 256) : ((strB l).toList == (strB m).toList) = decide (l = m) := by
  rw [← strB_eq hl hm, ba_beq, Bool.eq_iff_iff, beq_iff_eq, decide_eq_true_iff]
  constructor
  · intro h
    rw [ByteArray.toList_eq, ByteArray.toList_eq] at h
    have h1 := Array.toList_inj.1 h
    generalize strB l = a at h1 ⊢
    generalize strB m = b at h1 ⊢
    cases a; cases b; simp at h1; rw [h1]
  · intro h; rw [h]
end Go.Proofs.Ytneehnoolhadbaa

