/- A window, as plain mathematics: slots from one number on, some of them filled. -/
import Derived.Laws.CopyRow
namespace Go.Proofs.Ytomiobnjllaalaa
namespace Wd
variable {V : Type}

/-- the filled ones at the beginning -/
def lead : List (Option V) → Nat
  | some _ :: r => lead r + 1
  | _ => 0
/-- the slots' cells -/
def cells (enc : V → Value) (z : Value) : List (Option V) → List Value
  | [] => []
  | none :: r => z :: .bool false :: cells enc z r
  | some v :: r => enc v :: .bool true :: cells enc z r
/-- what is there, by number -/
def pairs (first : Int) : List (Option V) → List (Int × V)
  | [] => []
  | none :: r => pairs (first + 1) r
  | some v :: r => (first, v) :: pairs (first + 1) r
/-- is something at i? -/
def hasB (fr : Nat) (ss : List (Option V)) (i : Int) : Bool := decide ((fr : Int) < i) && (decide (i ≤ ((fr + ss.length : Nat) : Int)) && (ss.getD (i - fr - 1).toNat none).isSome)

theorem lead_le (ss : List (Option V)) : lead ss ≤ ss.length := by
  induction ss with
  | nil => simp [lead]
  | cons s r ih => cases s <;> simp [lead, ih]
theorem lead_drop {ss : List (Option V)} {k : Nat} (h : k ≤ lead ss) : lead (ss.drop k) = lead ss - k := by
  induction k generalizing ss with
  | zero => simp
  | succ k ih =>
    cases ss with
    | nil => simp [lead] at h
    | cons s r =>
      cases s with
      | none => simp [lead] at h
      | some v =>
        simp only [lead] at h ⊢
        rw [List.drop_succ_cons, ih (by omega)]
        omega
theorem lead_at {ss : List (Option V)} {k : Nat} (h : k < lead ss) : ∃ v, ss[k]? = some (some v) := by
  induction ss generalizing k with
  | nil => simp [lead] at h
  | cons s r ih =>
    cases s with
    | none => simp [lead] at h
    | some v =>
      cases k with
      | zero => exact ⟨v, rfl⟩
      | succ k => simp [lead] at h; simpa using ih h
theorem lead_stop {ss : List (Option V)} {v : V} : ss[lead ss]? ≠ some (some v) := by
  induction ss with
  | nil => simp
  | cons s r ih =>
    cases s with
    | none => simp [lead]
    | some u => simpa [lead] using ih
theorem lead_ge {ss : List (Option V)} {k : Nat} (h : ∀ j, j < k → ∃ v, ss[j]? = some (some v)) : k ≤ lead ss := by
  rcases Nat.lt_or_ge (lead ss) k with h1 | h1
  · obtain ⟨v, hv⟩ := h _ h1
    exact absurd hv lead_stop
  · exact h1
/-- is the next one behind k there, where all up to k are? -/
theorem lead_next {ss : List (Option V)} {k : Nat} (h : k ≤ lead ss) : (ss.getD k none).isSome = decide (k < lead ss) := by
  rw [List.getD_eq_getElem?_getD]
  by_cases h1 : k < lead ss
  · obtain ⟨v, hv⟩ := lead_at h1
    simp [hv, h1]
  · have : k = lead ss := by omega
    subst this
    cases hs : ss[lead ss]? with
    | none => simp
    | some o => cases o with
      | none => simp
      | some v => exact absurd hs lead_stop
theorem lead_mono {ss tt : List (Option V)} (h : ∀ (k : Nat) v, ss[k]? = some (some v) → ∃ u, tt[k]? = some (some u)) : lead ss ≤ lead tt :=
  lead_ge fun j hj => by obtain ⟨v, hv⟩ := lead_at hj; exact h j v hv

variable (enc : V → Value) (z : Value)
theorem cells_length (ss : List (Option V)) : (cells enc z ss).length = ss.length * 2 := by
  induction ss with
  | nil => rfl
  | cons s r ih => cases s <;> simp [cells, ih] <;> omega
theorem cells_append (ss tt : List (Option V)) : cells enc z (ss ++ tt) = cells enc z ss ++ cells enc z tt := by
  induction ss with
  | nil => rfl
  | cons s r ih => cases s <;> simp [cells, ih]
theorem cells_drop (ss : List (Option V)) (k : Nat) : (cells enc z ss).drop (k * 2) = cells enc z (ss.drop k) := by
  induction k generalizing ss with
  | zero => simp
  | succ k ih =>
    cases ss with
    | nil => simp [cells]
    | cons s r =>
      have e : (k + 1) * 2 = k * 2 + 1 + 1 := by omega
      rw [e]
      cases s <;> simp [cells, ih]
theorem cells_there {ss : List (Option V)} {k : Nat} {o : Option V} (h : ss[k]? = some o) : (cells enc z ss)[k * 2 + 1]? = some (.bool o.isSome) := by
  induction ss generalizing k with
  | nil => simp at h
  | cons s r ih =>
    cases k with
    | zero => simp at h; subst h; cases s <;> simp [cells]
    | succ k =>
      have e : (k + 1) * 2 + 1 = k * 2 + 1 + 1 + 1 := by omega
      rw [e]
      simp at h
      cases s <;> simpa [cells] using ih h
theorem cells_x {ss : List (Option V)} {k : Nat} {v : V} (h : ss[k]? = some (some v)) : (cells enc z ss)[k * 2]? = some (enc v) := by
  induction ss generalizing k with
  | nil => simp at h
  | cons s r ih =>
    cases k with
    | zero => simp at h; subst h; simp [cells]
    | succ k =>
      have e : (k + 1) * 2 = k * 2 + 1 + 1 := by omega
      rw [e]
      simp at h
      cases s <;> simpa [cells] using ih h
theorem cells_any {ss : List (Option V)} {k : Nat} (h : k < ss.length) : (cells enc z ss)[k * 2]? = some (match ss[k] with | some v => enc v | none => z) := by
  induction ss generalizing k with
  | nil => simp at h
  | cons s r ih =>
    cases k with
    | zero => cases s <;> simp [cells]
    | succ k =>
      have e : (k + 1) * 2 = k * 2 + 1 + 1 := by omega
      rw [e]
      have h' : k < r.length := by simpa using h
      cases s <;> simpa [cells] using ih h'
theorem cells_set (ss : List (Option V)) (k : Nat) (v : V) : ((cells enc z ss).set (k * 2) (enc v)).set (k * 2 + 1) (.bool true) = cells enc z (ss.set k (some v)) := by
  induction ss generalizing k with
  | nil => simp [cells]
  | cons s r ih =>
    cases k with
    | zero => cases s <;> simp [cells]
    | succ k =>
      have e : (k + 1) * 2 = k * 2 + 1 + 1 := by omega
      rw [e]
      cases s <;> simp [cells, ih]
theorem cells_one (hz : z.oneCell' = true) (he : ∀ v, (enc v).oneCell' = true) (ss : List (Option V)) : ∀ u ∈ cells enc z ss, u.oneCell' = true := by
  induction ss with
  | nil => simp [cells]
  | cons s r ih =>
    intro u hu
    cases s with
    | none =>
      simp only [cells, List.mem_cons] at hu
      rcases hu with rfl | rfl | hu
      · exact hz
      · rfl
      · exact ih u hu
    | some v =>
      simp only [cells, List.mem_cons] at hu
      rcases hu with rfl | rfl | hu
      · exact he v
      · rfl
      · exact ih u hu

theorem hasB_no {fr : Nat} {ss : List (Option V)} {i : Int} (h : i ≤ fr) : hasB fr ss i = false := by
  have : ¬ (fr : Int) < i := by omega
  simp [hasB, this]
theorem hasB_far {fr : Nat} {ss : List (Option V)} {i : Int} (h : ((fr + ss.length : Nat) : Int) < i) : hasB fr ss i = false := by
  have : ¬ i ≤ ((fr + ss.length : Nat) : Int) := by omega
  simp only [hasB, this, decide_false, Bool.false_and, Bool.and_false]
theorem hasB_at {fr : Nat} {ss : List (Option V)} {k : Nat} (h : k < ss.length) : hasB fr ss ((fr + 1 + k : Nat) : Int) = ss[k].isSome := by
  have h1 : (fr : Int) < ((fr + 1 + k : Nat) : Int) := by omega
  have h2 : ((fr + 1 + k : Nat) : Int) ≤ ((fr + ss.length : Nat) : Int) := by omega
  have h3 : (((fr + 1 + k : Nat) : Int) - fr - 1).toNat = k := by omega
  simp only [hasB, h1, h2, h3, decide_true, Bool.true_and]
  rw [List.getD_eq_getElem?_getD, List.getElem?_eq_getElem h]; rfl
theorem hasB_next {fr : Nat} {ss : List (Option V)} {k : Nat} (h : k ≤ lead ss) : hasB fr ss ((fr + k : Nat) + 1 : Int) = decide (k < lead ss) := by
  have h1 := lead_le ss
  by_cases hk : k < ss.length
  · have e : ((fr + k : Nat) : Int) + 1 = ((fr + 1 + k : Nat) : Int) := by omega
    rw [e, hasB_at hk, ← lead_next h, List.getD_eq_getElem?_getD, List.getElem?_eq_getElem hk]; rfl
  · have e : ¬ k < lead ss := by omega
    rw [hasB_far (by omega)]; simp [e]
/-- the slots with v at place k -/
def laid (ss : List (Option V)) (k : Nat) (v : V) : List (Option V) := (ss ++ List.replicate (k + 1 - ss.length) none).set k (some v)
theorem laid_length (ss : List (Option V)) (k : Nat) (v : V) : (laid ss k v).length = max ss.length (k + 1) := by
  simp [laid]; omega
theorem laid_get (ss : List (Option V)) (k : Nat) (v : V) (j : Nat) : (laid ss k v)[j]?.join = if j = k then some v else ss[j]?.join := by
  unfold laid
  by_cases h : j = k
  · subst h
    rw [if_pos rfl, List.getElem?_set_self (by simp; omega)]; rfl
  · rw [if_neg h, List.getElem?_set_ne (Ne.symm h)]
    rcases Nat.lt_or_ge j ss.length with h1 | h1
    · rw [List.getElem?_append_left h1]
    · rw [List.getElem?_append_right h1, List.getElem?_eq_none h1]
      cases hh : (List.replicate (k + 1 - ss.length) (none : Option V))[j - ss.length]? with
      | none => rfl
      | some o =>
        have := List.getElem?_eq_some_iff.1 hh
        obtain ⟨h2, h3⟩ := this
        simp at h3
        subst h3; rfl
theorem join_some {ss : List (Option V)} {j : Nat} {v : V} : ss[j]?.join = some v ↔ ss[j]? = some (some v) := by
  cases h : ss[j]? with
  | none => simp
  | some o => cases o <;> simp
theorem lead_laid (ss : List (Option V)) (k : Nat) (v : V) : lead ss ≤ lead (laid ss k v) :=
  lead_mono fun j u h => by
    by_cases e : j = k
    · exact ⟨v, by rw [← join_some, laid_get, if_pos e]⟩
    · exact ⟨u, by rw [← join_some, laid_get, if_neg e, join_some]; exact h⟩
theorem lead_full (n : Nat) (v : V) : lead (List.replicate n (some v)) = n := by
  induction n with
  | zero => rfl
  | succ n ih => rw [List.replicate_succ]; simp [lead, ih]
theorem laid_end (ss : List (Option V)) (v : V) : laid ss ss.length v = ss ++ [some v] := by
  unfold laid
  rw [show ss.length + 1 - ss.length = 1 by omega]
  simp
theorem laid_full (n : Nat) (v : V) : laid (List.replicate n (some v)) n v = List.replicate (n + 1) (some v) := by
  have := laid_end (List.replicate n (some v)) v
  rw [List.length_replicate] at this
  rw [this, List.replicate_succ']
/-- what is laid behind the first hole, or not in it, leaves what is whole as it was -/
theorem lead_laid_far (ss : List (Option V)) (k : Nat) (v : V) (h : lead ss ≠ k) : lead (laid ss k v) = lead ss := by
  rcases Nat.lt_or_ge (lead ss) (lead (laid ss k v)) with h1 | h1
  · obtain ⟨u, hu⟩ := lead_at h1
    rw [← join_some, laid_get, if_neg h, join_some] at hu
    exact absurd hu lead_stop
  · exact Nat.le_antisymm h1 (lead_laid ss k v)
theorem pairs_append (f : Int) (ss tt : List (Option V)) : pairs f (ss ++ tt) = pairs f ss ++ pairs (f + ss.length) tt := by
  induction ss generalizing f with
  | nil => simp [pairs]
  | cons s r ih =>
    cases s <;> simp [pairs, ih] <;> (congr 1; omega)
theorem pairs_length (f : Int) (ss : List (Option V)) : (pairs f ss).length ≤ ss.length := by
  induction ss generalizing f with
  | nil => simp [pairs]
  | cons s r ih => cases s <;> simp [pairs] <;> have := ih (f + 1) <;> omega
theorem mem_pairs {f : Int} {ss : List (Option V)} {x : Int × V} : x ∈ pairs f ss ↔ ∃ k : Nat, ss[k]? = some (some x.2) ∧ x.1 = f + k := by
  induction ss generalizing f with
  | nil => simp [pairs]
  | cons s r ih =>
    have h1 : (∃ k : Nat, (s :: r)[k]? = some (some x.2) ∧ x.1 = f + k) ↔ (s = some x.2 ∧ x.1 = f) ∨ ∃ k : Nat, r[k]? = some (some x.2) ∧ x.1 = f + 1 + k := by
      constructor
      · rintro ⟨k, h1, h2⟩
        cases k with
        | zero => left; simp at h1; exact ⟨h1, by simpa using h2⟩
        | succ k => right; exact ⟨k, by simpa using h1, by rw [h2]; push_cast; omega⟩
      · rintro (⟨rfl, h⟩ | ⟨k, h1, h2⟩)
        · exact ⟨0, rfl, by simpa using h⟩
        · exact ⟨k + 1, by simpa using h1, by rw [h2]; push_cast; omega⟩
    rw [h1]
    cases s with
    | none => simp [pairs, ih]
    | some v =>
      simp only [pairs, List.mem_cons, ih, Option.some.injEq]
      constructor
      · rintro (rfl | h)
        · exact .inl ⟨rfl, rfl⟩
        · exact .inr h
      · rintro (⟨h1, h2⟩ | h)
        · left; cases x; simp at h1 h2; rw [h1, h2]
        · exact .inr h
/-- n numbers from a on -/
def nums (a : Int) (n : Nat) : List Int := (List.range n).map fun (j : Nat) => a + (j : Int)
theorem nums_length (a : Int) (n : Nat) : (nums a n).length = n := by simp [nums]
theorem nums_succ (a : Int) (n : Nat) : nums a (n + 1) = nums a n ++ [a + (n : Int)] := by simp [nums, List.range_succ]
/-- what a thing at i adds to the holes that are told, and where the next one may be -/
def gap (most : Nat) (st : List Int × Int) (i : Int) : List Int × Int := (st.1 ++ nums st.2 (min (most - st.1.length) (i - st.2).toNat), i + 1)
def gaps (most : Nat) (first : Int) (l : List Int) : List Int × Int := l.foldl (gap most) ([], first)
/-- what Missing tells -/
def missing (most : Nat) (fr : Nat) (ss : List (Option V)) : List Int :=
  (gaps most ((fr + lead ss : Nat) + 1 : Int) ((pairs ((fr + lead ss : Nat) + 1 : Int) (ss.drop (lead ss))).map Prod.fst)).1
theorem gaps_snoc (most : Nat) (first : Int) (l : List Int) (i : Int) : gaps most first (l ++ [i]) = gap most (gaps most first l) i := by simp [gaps]
theorem gaps_bd (most : Nat) (first : Int) (l : List Int) (h0 : 0 ≤ first) (h1 : first ≤ 4000000000001) (hl : ∀ i ∈ l, 0 ≤ i ∧ i ≤ 4000000000000) : 0 ≤ (gaps most first l).2 ∧ (gaps most first l).2 ≤ 4000000000001 := by
  rcases List.eq_nil_or_concat l with rfl | ⟨l', i, rfl⟩
  · exact ⟨h0, h1⟩
  · have := hl i (by simp)
    rw [List.concat_eq_append, gaps_snoc]
    simp only [gap]
    omega
theorem gap_len (most : Nat) (st : List Int × Int) (i : Int) (h : st.1.length ≤ most) : (gap most st i).1.length ≤ most := by
  simp only [gap, List.length_append, nums_length]
  omega
end Wd
end Go.Proofs.Ytomiobnjllaalaa
