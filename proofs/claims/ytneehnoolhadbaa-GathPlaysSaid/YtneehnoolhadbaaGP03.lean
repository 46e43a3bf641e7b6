/- ResKit StepKit -/
import Derived.Test.YtneehnoolhadbaaGP02
import Derived.Deep.RegionLaw
namespace Go.Proofs.Ytneehnoolhadbaa
open Go.RowKit
set_option linter.unusedVariables false

/-- two strings alike, as the walk asks it -/
theorem strL_eq {l m : List Nat} (hl : ∀ x ∈ l, x < 256) (hm : ∀ x ∈ m, x < 256) : ((strB l).toList == (strB m).toList) = decide (l = m) := by
  rw [← strB_eq hl hm, ba_beq, Bool.eq_iff_iff, beq_iff_eq, decide_eq_true_iff]
  constructor
  · intro h
    rw [ByteArray.toList_eq, ByteArray.toList_eq] at h
    have h1 := Array.toList_inj.1 h
    generalize strB l = a at h1 ⊢
    generalize strB m = b at h1 ⊢
    cases a; cases b; simp at h1; rw [h1]
  · intro h; rw [h]
theorem own_nil (W w : World) : OwnB W w none 0 0 [] := ⟨rfl, .inl ⟨rfl, rfl⟩⟩
end Go.Proofs.Ytneehnoolhadbaa

namespace Go.Proofs.Ytneehnoolhadbaa
open Go.RowKit
set_option linter.unusedVariables false
theorem Blk.apart_own {w w' : World} {g n c base' size' : Nat} {t e' : TypeId} {cs : Array Value} {A' : Option Addr} {xs' : List Value} (h : Blk w g t cs) (ho : w.ownsRow base' e' size' (.slice A' n c) n xs') (hne : t ≠ e') (hg : w.grownBy w' (Value.slice A' n c).ownBlock) : Blk w' g t cs := by
  refine h.grown hg ?_
  rcases own_blk ho with ⟨q1, _, _⟩ | ⟨g', cur', q1, _, hk'⟩
  · rw [q1]; intro h0; cases h0
  · rw [q1]; intro h0
    have h3 : g = g' := by simpa [Value.ownBlock] using h0
    exact Blk.apart h hk' hne h3
end Go.Proofs.Ytneehnoolhadbaa

