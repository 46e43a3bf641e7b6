/- WindMath RegsMath -/
import Derived.Laws.CopyRow
namespace Go.Proofs.YtaknfmionkkdjaaGreat
set_option linter.unusedVariables false
namespace Wd
variable {V : Type}

/-- the filled ones at the beginning -/
def lead : List (Option V) → Nat
  | some _ :: r => lead r + 1
  | _ => 0
/-- is something at i? -/
def hasB (fr : Nat) (ss : List (Option V)) (i : Int) : Bool := decide ((fr : Int) < i) && (decide (i ≤ ((fr + ss.length : Nat) : Int)) && (ss.getD (i - fr - 1).toNat none).isSome)

theorem lead_le (ss : List (Option V)) : lead ss ≤ ss.length := by
  induction ss with
  | nil => simp [lead]
  | cons s r ih => cases s <;> simp [lead, ih]
theorem lead_drop {ss : List (Option V)} {k : Nat} (h : k ≤ lead ss) : lead (ss.drop k) = lead ss - k := by
  induction k generalizing ss with
  | zero => simp
  | succ k ih =>
    cases ss with
    | nil => simp [lead] at h
    | cons s r =>
      cases s with
      | none => simp [lead] at h
      | some v =>
        simp only [lead] at h ⊢
        rw [List.drop_succ_cons, ih (by omega)]
        omega
theorem lead_at {ss : List (Option V)} {k : Nat} (h : k < lead ss) : ∃ v, ss[k]? = some (some v) := by
  induction ss generalizing k with
  | nil => simp [lead] at h
  | cons s r ih =>
    cases s with
    | none => simp [lead] at h
    | some v =>
      cases k with
      | zero => exact ⟨v, rfl⟩
      | succ k => simp [lead] at h; simpa using ih h
theorem lead_stop {ss : List (Option V)} {v : V} : ss[lead ss]? ≠ some (some v) := by
  induction ss with
  | nil => simp
  | cons s r ih =>
    cases s with
    | none => simp [lead]
    | some u => simpa [lead] using ih
theorem lead_ge {ss : List (Option V)} {k : Nat} (h : ∀ j, j < k → ∃ v, ss[j]? = some (some v)) : k ≤ lead ss := by
  rcases Nat.lt_or_ge (lead ss) k with h1 | h1
  · obtain ⟨v, hv⟩ := h _ h1
    exact absurd hv lead_stop
  · exact h1
/-- is the next one behind k there, where all up to k are? -/
theorem lead_next {ss : List (Option V)} {k : Nat} (h : k ≤ lead ss) : (ss.getD k none).isSome = decide (k < lead ss) := by
  rw [List.getD_eq_getElem?_getD]
  by_cases h1 : k < lead ss
  · obtain ⟨v, hv⟩ := lead_at h1
    simp [hv, h1]
  · have : k = lead ss := by omega
    subst this
    cases hs : ss[lead ss]? with
    | none => simp
    | some o => cases o with
      | none => simp
      | some v => exact absurd hs lead_stop
theorem lead_mono {ss tt : List (Option V)} (h : ∀ (k : Nat) v, ss[k]? = some (some v) → ∃ u, tt[k]? = some (some u)) : lead ss ≤ lead tt :=
  lead_ge fun j hj => by obtain ⟨v, hv⟩ := lead_at hj; exact h j v hv

variable (enc : V → Value) (z : Value)
theorem hasB_no {fr : Nat} {ss : List (Option V)} {i : Int} (h : i ≤ fr) : hasB fr ss i = false := by
  have : ¬ (fr : Int) < i := by omega
  simp [hasB, this]
theorem hasB_far {fr : Nat} {ss : List (Option V)} {i : Int} (h : ((fr + ss.length : Nat) : Int) < i) : hasB fr ss i = false := by
  have : ¬ i ≤ ((fr + ss.length : Nat) : Int) := by omega
  simp only [hasB, this, decide_false, Bool.false_and, Bool.and_false]
theorem hasB_at {fr : Nat} {ss : List (Option V)} {k : Nat} (h : k < ss.length) : hasB fr ss ((fr + 1 + k : Nat) : Int) = ss[k].isSome := by
  have h1 : (fr : Int) < ((fr + 1 + k : Nat) : Int) := by omega
  have h2 : ((fr + 1 + k : Nat) : Int) ≤ ((fr + ss.length : Nat) : Int) := by omega
  have h3 : (((fr + 1 + k : Nat) : Int) - fr - 1).toNat = k := by omega
  simp only [hasB, h1, h2, h3, decide_true, Bool.true_and]
  rw [List.getD_eq_getElem?_getD, List.getElem?_eq_getElem h]; rfl
theorem hasB_next {fr : Nat} {ss : List (Option V)} {k : Nat} (h : k ≤ lead ss) : hasB fr ss ((fr + k : Nat) + 1 : Int) = decide (k < lead ss) := by
  have h1 := lead_le ss
  by_cases hk : k < ss.length
  · have e : ((fr + k : Nat) : Int) + 1 = ((fr + 1 + k : Nat) : Int) := by omega
    rw [e, hasB_at hk, ← lead_next h, List.getD_eq_getElem?_getD, List.getElem?_eq_getElem hk]; rfl
  · have e : ¬ k < lead ss := by omega
    rw [hasB_far (by omega)]; simp [e]
/-- the slots with v at place k -/
def laid (ss : List (Option V)) (k : Nat) (v : V) : List (Option V) := (ss ++ List.replicate (k + 1 - ss.length) none).set k (some v)
theorem laid_length (ss : List (Option V)) (k : Nat) (v : V) : (laid ss k v).length = max ss.length (k + 1) := by
  simp [laid]; omega
theorem laid_get (ss : List (Option V)) (k : Nat) (v : V) (j : Nat) : (laid ss k v)[j]?.join = if j = k then some v else ss[j]?.join := by
  unfold laid
  by_cases h : j = k
  · subst h
    rw [if_pos rfl, List.getElem?_set_self (by simp; omega)]; rfl
  · rw [if_neg h, List.getElem?_set_ne (Ne.symm h)]
    rcases Nat.lt_or_ge j ss.length with h1 | h1
    · rw [List.getElem?_append_left h1]
    · rw [List.getElem?_append_right h1, List.getElem?_eq_none h1]
      cases hh : (List.replicate (k + 1 - ss.length) (none : Option V))[j - ss.length]? with
      | none => rfl
      | some o =>
        have := List.getElem?_eq_some_iff.1 hh
        obtain ⟨h2, h3⟩ := this
        simp at h3
        subst h3; rfl
theorem join_some {ss : List (Option V)} {j : Nat} {v : V} : ss[j]?.join = some v ↔ ss[j]? = some (some v) := by
  cases h : ss[j]? with
  | none => simp
  | some o => cases o <;> simp
theorem lead_laid (ss : List (Option V)) (k : Nat) (v : V) : lead ss ≤ lead (laid ss k v) :=
  lead_mono fun j u h => by
    by_cases e : j = k
    · exact ⟨v, by rw [← join_some, laid_get, if_pos e]⟩
    · exact ⟨u, by rw [← join_some, laid_get, if_neg e, join_some]; exact h⟩
end Wd
end Go.Proofs.YtaknfmionkkdjaaGreat

namespace Go.Proofs.YtaknfmionkkdjaaGreat
/-- what Cas leaves, and answers -/
def casS (s old v : List Nat) : List Nat := if 16 < v.length then s else if s = old then v else s
def casE (s old v : List Nat) : Int := if 16 < v.length then 1 else if s = old then 0 else 2
def casV (s old v : List Nat) : List Nat := if 16 < v.length then [] else if s = old then [] else s
theorem casS_lt {s v : List Nat} (old : List Nat) (hs : ∀ x ∈ s, x < 256) (hv : ∀ x ∈ v, x < 256) : ∀ x ∈ casS s old v, x < 256 := by
  unfold casS; split
  · exact hs
  · split
    · exact hv
    · exact hs
theorem casV_lt {s : List Nat} (v old : List Nat) (hs : ∀ x ∈ s, x < 256) : ∀ x ∈ casV s old v, x < 256 := by
  unfold casV; split
  · intro x hx; cases hx
  · split
    · intro x hx; cases hx
    · exact hs
end Go.Proofs.YtaknfmionkkdjaaGreat

