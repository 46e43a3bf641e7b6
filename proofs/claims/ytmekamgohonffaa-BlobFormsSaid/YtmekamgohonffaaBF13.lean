/- SealKit -/
import Derived.Test.YtmekamgohonffaaBF01
import Derived.Test.YtmekamgohonffaaBF12
namespace Go.Proofs.Ytmekamgohonffaa
open Go.RowKit
set_option linter.unusedVariables false
/-- bytes, and ahead of them their sum -/
def Fr.lay (l : List Nat) : List Nat := Fr.four (Crc.sum l) ++ l
/-- what stands behind a right sum -/
def Fr.unf (l : List Nat) : Option (List Nat) := if l.length < 4 then none else if l.take 4 = Fr.four (Crc.sum (l.drop 4)) then some (l.drop 4) else none
theorem Fr.unf_app (f l : List Nat) (hf : f.length = 4) : Fr.unf (f ++ l) = if f = Fr.four (Crc.sum l) then some l else none := by
  unfold Fr.unf
  rw [if_neg (by simp; omega), ← hf, List.take_left, List.drop_left]
theorem Fr.unf_lay (l : List Nat) : Fr.unf (Fr.lay l) = some l := by
  unfold Fr.lay
  rw [Fr.unf_app _ _ (Fr.four_len _), if_pos rfl]
theorem Fr.unf_is {l x : List Nat} (h : Fr.unf l = some x) : x = l.drop 4 ∧ 4 ≤ l.length := by
  unfold Fr.unf at h
  split at h
  · cases h
  · split at h
    · injection h with h; exact ⟨h.symm, by omega⟩
    · cases h
theorem Fr.lay_len (l : List Nat) : (Fr.lay l).length = 4 + l.length := by unfold Fr.lay; rw [List.length_append, Fr.four_len]
/-- a row, or none -/
def GotU (W w : World) (r : Option (List Nat)) (en : Ending) (w' : World) : Prop :=
  ∃ A c, en = .returned (.tuple #[.slice A (r.getD []).length c, .bool r.isSome]) ∧ OwnB W w' A (r.getD []).length c (r.getD []) ∧ Below W.heap.size W w' ∧ Below w.heap.size w w'
end Go.Proofs.Ytmekamgohonffaa

