/- A window, as plain mathematics: slots from one number on, some of them filled. -/
import Derived.Laws.CopyRow
namespace Go.Proofs.Yteafbljdlcbckaa
set_option linter.unusedVariables false
namespace Wd
variable {V : Type}

/-- the filled ones at the beginning -/
def lead : List (Option V) → Nat
  | some _ :: r => lead r + 1
  | _ => 0
/-- the slots' cells -/
def cells (enc : V → Value) (z : Value) : List (Option V) → List Value
  | [] => []
  | none :: r => z :: .bool false :: cells enc z r
  | some v :: r => enc v :: .bool true :: cells enc z r
/-- what is there, by number -/
def pairs (first : Int) : List (Option V) → List (Int × V)
  | [] => []
  | none :: r => pairs (first + 1) r
  | some v :: r => (first, v) :: pairs (first + 1) r
/-- is something at i? -/
def hasB (fr : Nat) (ss : List (Option V)) (i : Int) : Bool := decide ((fr : Int) < i) && (decide (i ≤ ((fr + ss.length : Nat) : Int)) && (ss.getD (i - fr - 1).toNat none).isSome)

theorem lead_le (ss : List (Option V)) : lead ss ≤ ss.length := by
  induction ss with
  | nil => simp [lead]
  | cons s r ih => cases s <;> simp [lead, ih]
theorem lead_drop {ss : List (Option V)} {k : Nat} (h : k ≤ lead ss) : lead (ss.drop k) = lead ss - k := by
  induction k generalizing ss with
  | zero => simp
  | succ k ih =>
    cases ss with
    | nil => simp [lead] at h
    | cons s r =>
      cases s with
      | none => simp [lead] at h
      | some v =>
        simp only [lead] at h ⊢
        rw [List.drop_succ_cons, ih (by omega)]
        omega
theorem lead_at {ss : List (Option V)} {k : Nat} (h : k < lead ss) : ∃ v, ss[k]? = some (some v) := by
  induction ss generalizing k with
  | nil => simp [lead] at h
  | cons s r ih =>
    cases s with
    | none => simp [lead] at h
    | some v =>
      cases k with
      | zero => exact ⟨v, rfl⟩
      | succ k => simp [lead] at h; simpa using ih h
theorem lead_stop {ss : List (Option V)} {v : V} : ss[lead ss]? ≠ some (some v) := by
  induction ss with
  | nil => simp
  | cons s r ih =>
    cases s with
    | none => simp [lead]
    | some u => simpa [lead] using ih
theorem lead_ge {ss : List (Option V)} {k : Nat} (h : ∀ j, j < k → ∃ v, ss[j]? = some (some v)) : k ≤ lead ss := by
  rcases Nat.lt_or_ge (lead ss) k with h1 | h1
  · obtain ⟨v, hv⟩ := h _ h1
    exact absurd hv lead_stop
  · exact h1
/-- is the next one behind k there, where all up to k are? -/
theorem lead_next {ss : List (Option V)} {k : Nat} (h : k ≤ lead ss) : (ss.getD k none).isSome = decide (k < lead ss) := by
  rw [List.getD_eq_getElem?_getD]
  by_cases h1 : k < lead ss
  · obtain ⟨v, hv⟩ := lead_at h1
    simp [hv, h1]
  · have : k = lead ss := by omega
    subst this
    cases hs : ss[lead ss]? with
    | none => simp
    | some o => cases o with
      | none => simp
      | some v => exact absurd hs lead_stop
theorem lead_mono {ss tt : List (Option V)} (h : ∀ (k : Nat) v, ss[k]? = some (some v) → ∃ u, tt[k]? = some (some u)) : lead ss ≤ lead tt :=
  lead_ge fun j hj => by obtain ⟨v, hv⟩ := lead_at hj; exact h j v hv

variable (enc : V → Value) (z : Value)
theorem cells_length (ss : List (Option V)) : (cells enc z ss).length = ss.length * 2 := by
  induction ss with
  | nil => rfl
  | cons s r ih => cases s <;> simp [cells, ih] <;> omega
theorem cells_append (ss tt : List (Option V)) : cells enc z (ss ++ tt) = cells enc z ss ++ cells enc z tt := by
  induction ss with
  | nil => rfl
  | cons s r ih => cases s <;> simp [cells, ih]
theorem cells_drop (ss : List (Option V)) (k : Nat) : (cells enc z ss).drop (k * 2) = cells enc z (ss.drop k) := by
  induction k generalizing ss with
  | zero => simp
  | succ k ih =>
    cases ss with
    | nil => simp [cells]
    | cons s r =>
      have e : (k + 1) * 2 = k * 2 + 1 + 1 := by omega
      rw [e]
      cases s <;> simp [cells, ih]
theorem cells_there {ss : List (Option V)} {k : Nat} {o : Option V} (h : ss[k]? = some o) : (cells enc z ss)[k * 2 + 1]? = some (.bool o.isSome) := by
  induction ss generalizing k with
  | nil => simp at h
  | cons s r ih =>
    cases k with
    | zero => simp at h; subst h; cases s <;> simp [cells]
    | succ k =>
      have e : (k + 1) * 2 + 1 = k * 2 + 1 + 1 + 1 := by omega
      rw [e]
      simp at h
      cases s <;> simpa [cells] using ih h
theorem cells_x {ss : List (Option V)} {k : Nat} {v : V} (h : ss[k]? = some (some v)) : (cells enc z ss)[k * 2]? = some (enc v) := by
  induction ss generalizing k with
  | nil => simp at h
  | cons s r ih =>
    cases k with
    | zero => simp at h; subst h; simp [cells]
    | succ k =>
      have e : (k + 1) * 2 = k * 2 + 1 + 1 := by omega
      rw [e]
      simp at h
      cases s <;> simpa [cells] using ih h
theorem cells_any {ss : List (Option V)} {k : Nat} (h : k < ss.length) : (cells enc z ss)[k * 2]? = some (match ss[k] with | some v => enc v | none => z) := by
  induction ss generalizing k with
  | nil => simp at h
  | cons s r ih =>
    cases k with
    | zero => cases s <;> simp [cells]
    | succ k =>
      have e : (k + 1) * 2 = k * 2 + 1 + 1 := by omega
      rw [e]
      have h' : k < r.length := by simpa using h
      cases s <;> simpa [cells] using ih h'
theorem cells_set (ss : List (Option V)) (k : Nat) (v : V) : ((cells enc z ss).set (k * 2) (enc v)).set (k * 2 + 1) (.bool true) = cells enc z (ss.set k (some v)) := by
  induction ss generalizing k with
  | nil => simp [cells]
  | cons s r ih =>
    cases k with
    | zero => cases s <;> simp [cells]
    | succ k =>
      have e : (k + 1) * 2 = k * 2 + 1 + 1 := by omega
      rw [e]
      cases s <;> simp [cells, ih]
theorem cells_one (hz : z.oneCell' = true) (he : ∀ v, (enc v).oneCell' = true) (ss : List (Option V)) : ∀ u ∈ cells enc z ss, u.oneCell' = true := by
  induction ss with
  | nil => simp [cells]
  | cons s r ih =>
    intro u hu
    cases s with
    | none =>
      simp only [cells, List.mem_cons] at hu
      rcases hu with rfl | rfl | hu
      · exact hz
      · rfl
      · exact ih u hu
    | some v =>
      simp only [cells, List.mem_cons] at hu
      rcases hu with rfl | rfl | hu
      · exact he v
      · rfl
      · exact ih u hu

theorem hasB_no {fr : Nat} {ss : List (Option V)} {i : Int} (h : i ≤ fr) : hasB fr ss i = false := by
  have : ¬ (fr : Int) < i := by omega
  simp [hasB, this]
theorem hasB_far {fr : Nat} {ss : List (Option V)} {i : Int} (h : ((fr + ss.length : Nat) : Int) < i) : hasB fr ss i = false := by
  have : ¬ i ≤ ((fr + ss.length : Nat) : Int) := by omega
  simp only [hasB, this, decide_false, Bool.false_and, Bool.and_false]
theorem hasB_at {fr : Nat} {ss : List (Option V)} {k : Nat} (h : k < ss.length) : hasB fr ss ((fr + 1 + k : Nat) : Int) = ss[k].isSome := by
  have h1 : (fr : Int) < ((fr + 1 + k : Nat) : Int) := by omega
  have h2 : ((fr + 1 + k : Nat) : Int) ≤ ((fr + ss.length : Nat) : Int) := by omega
  have h3 : (((fr + 1 + k : Nat) : Int) - fr - 1).toNat = k := by omega
  simp only [hasB, h1, h2, h3, decide_true, Bool.true_and]
  rw [List.getD_eq_getElem?_getD, List.getElem?_eq_getElem h]; rfl
theorem hasB_next {fr : Nat} {ss : List (Option V)} {k : Nat} (h : k ≤ lead ss) : hasB fr ss ((fr + k : Nat) + 1 : Int) = decide (k < lead ss) := by
  have h1 := lead_le ss
  by_cases hk : k < ss.length
  · have e : ((fr + k : Nat) : Int) + 1 = ((fr + 1 + k : Nat) : Int) := by omega
    rw [e, hasB_at hk, ← lead_next h, List.getD_eq_getElem?_getD, List.getElem?_eq_getElem hk]; rfl
  · have e : ¬ k < lead ss := by omega
    rw [hasB_far (by omega)]; simp [e]
/-- the slots with v at place k -/
def laid (ss : List (Option V)) (k : Nat) (v : V) : List (Option V) := (ss ++ List.replicate (k + 1 - ss.length) none).set k (some v)
theorem laid_length (ss : List (Option V)) (k : Nat) (v : V) : (laid ss k v).length = max ss.length (k + 1) := by
  simp [laid]; omega
theorem laid_get (ss : List (Option V)) (k : Nat) (v : V) (j : Nat) : (laid ss k v)[j]?.join = if j = k then some v else ss[j]?.join := by
  unfold laid
  by_cases h : j = k
  · subst h
    rw [if_pos rfl, List.getElem?_set_self (by simp; omega)]; rfl
  · rw [if_neg h, List.getElem?_set_ne (Ne.symm h)]
    rcases Nat.lt_or_ge j ss.length with h1 | h1
    · rw [List.getElem?_append_left h1]
    · rw [List.getElem?_append_right h1, List.getElem?_eq_none h1]
      cases hh : (List.replicate (k + 1 - ss.length) (none : Option V))[j - ss.length]? with
      | none => rfl
      | some o =>
        have := List.getElem?_eq_some_iff.1 hh
        obtain ⟨h2, h3⟩ := this
        simp at h3
        subst h3; rfl
theorem join_some {ss : List (Option V)} {j : Nat} {v : V} : ss[j]?.join = some v ↔ ss[j]? = some (some v) := by
  cases h : ss[j]? with
  | none => simp
  | some o => cases o <;> simp
theorem lead_laid (ss : List (Option V)) (k : Nat) (v : V) : lead ss ≤ lead (laid ss k v) :=
  lead_mono fun j u h => by
    by_cases e : j = k
    · exact ⟨v, by rw [← join_some, laid_get, if_pos e]⟩
    · exact ⟨u, by rw [← join_some, laid_get, if_neg e, join_some]; exact h⟩
theorem lead_full (n : Nat) (v : V) : lead (List.replicate n (some v)) = n := by
  induction n with
  | zero => rfl
  | succ n ih => rw [List.replicate_succ]; simp [lead, ih]
theorem laid_end (ss : List (Option V)) (v : V) : laid ss ss.length v = ss ++ [some v] := by
  unfold laid
  rw [show ss.length + 1 - ss.length = 1 by omega]
  simp
theorem laid_full (n : Nat) (v : V) : laid (List.replicate n (some v)) n v = List.replicate (n + 1) (some v) := by
  have := laid_end (List.replicate n (some v)) v
  rw [List.length_replicate] at this
  rw [this, List.replicate_succ']
/-- what is laid behind the first hole, or not in it, leaves what is whole as it was -/
theorem lead_laid_far (ss : List (Option V)) (k : Nat) (v : V) (h : lead ss ≠ k) : lead (laid ss k v) = lead ss := by
  rcases Nat.lt_or_ge (lead ss) (lead (laid ss k v)) with h1 | h1
  · obtain ⟨u, hu⟩ := lead_at h1
    rw [← join_some, laid_get, if_neg h, join_some] at hu
    exact absurd hu lead_stop
  · exact Nat.le_antisymm h1 (lead_laid ss k v)
theorem pairs_append (f : Int) (ss tt : List (Option V)) : pairs f (ss ++ tt) = pairs f ss ++ pairs (f + ss.length) tt := by
  induction ss generalizing f with
  | nil => simp [pairs]
  | cons s r ih =>
    cases s <;> simp [pairs, ih] <;> (congr 1; omega)
theorem pairs_length (f : Int) (ss : List (Option V)) : (pairs f ss).length ≤ ss.length := by
  induction ss generalizing f with
  | nil => simp [pairs]
  | cons s r ih => cases s <;> simp [pairs] <;> have := ih (f + 1) <;> omega
theorem mem_pairs {f : Int} {ss : List (Option V)} {x : Int × V} : x ∈ pairs f ss ↔ ∃ k : Nat, ss[k]? = some (some x.2) ∧ x.1 = f + k := by
  induction ss generalizing f with
  | nil => simp [pairs]
  | cons s r ih =>
    have h1 : (∃ k : Nat, (s :: r)[k]? = some (some x.2) ∧ x.1 = f + k) ↔ (s = some x.2 ∧ x.1 = f) ∨ ∃ k : Nat, r[k]? = some (some x.2) ∧ x.1 = f + 1 + k := by
      constructor
      · rintro ⟨k, h1, h2⟩
        cases k with
        | zero => left; simp at h1; exact ⟨h1, by simpa using h2⟩
        | succ k => right; exact ⟨k, by simpa using h1, by rw [h2]; push_cast; omega⟩
      · rintro (⟨rfl, h⟩ | ⟨k, h1, h2⟩)
        · exact ⟨0, rfl, by simpa using h⟩
        · exact ⟨k + 1, by simpa using h1, by rw [h2]; push_cast; omega⟩
    rw [h1]
    cases s with
    | none => simp [pairs, ih]
    | some v =>
      simp only [pairs, List.mem_cons, ih, Option.some.injEq]
      constructor
      · rintro (rfl | h)
        · exact .inl ⟨rfl, rfl⟩
        · exact .inr h
      · rintro (⟨h1, h2⟩ | h)
        · left; cases x; simp at h1 h2; rw [h1, h2]
        · exact .inr h
/-- n numbers from a on -/
def nums (a : Int) (n : Nat) : List Int := (List.range n).map fun (j : Nat) => a + (j : Int)
theorem nums_length (a : Int) (n : Nat) : (nums a n).length = n := by simp [nums]
theorem nums_succ (a : Int) (n : Nat) : nums a (n + 1) = nums a n ++ [a + (n : Int)] := by simp [nums, List.range_succ]
/-- what a thing at i adds to the holes that are told, and where the next one may be -/
def gap (most : Nat) (st : List Int × Int) (i : Int) : List Int × Int := (st.1 ++ nums st.2 (min (most - st.1.length) (i - st.2).toNat), i + 1)
def gaps (most : Nat) (first : Int) (l : List Int) : List Int × Int := l.foldl (gap most) ([], first)
/-- what Missing tells -/
def missing (most : Nat) (fr : Nat) (ss : List (Option V)) : List Int :=
  (gaps most ((fr + lead ss : Nat) + 1 : Int) ((pairs ((fr + lead ss : Nat) + 1 : Int) (ss.drop (lead ss))).map Prod.fst)).1
theorem gaps_snoc (most : Nat) (first : Int) (l : List Int) (i : Int) : gaps most first (l ++ [i]) = gap most (gaps most first l) i := by simp [gaps]
theorem gaps_bd (most : Nat) (first : Int) (l : List Int) (h0 : 0 ≤ first) (h1 : first ≤ 4000000000001) (hl : ∀ i ∈ l, 0 ≤ i ∧ i ≤ 4000000000000) : 0 ≤ (gaps most first l).2 ∧ (gaps most first l).2 ≤ 4000000000001 := by
  rcases List.eq_nil_or_concat l with rfl | ⟨l', i, rfl⟩
  · exact ⟨h0, h1⟩
  · have := hl i (by simp)
    rw [List.concat_eq_append, gaps_snoc]
    simp only [gap]
    omega
theorem gap_len (most : Nat) (st : List Int × Int) (i : Int) (h : st.1.length ≤ most) : (gap most st i).1.length ≤ most := by
  simp only [gap, List.length_append, nums_length]
  omega
/-- the numbers that are not there -/
def holes (f : Int) : List (Option V) → List Int
  | [] => []
  | none :: r => f :: holes (f + 1) r
  | some _ :: r => holes (f + 1) r
/-- the last one is there, or there is none -/
def Ends (ss : List (Option V)) : Prop := ∀ n, ss.length = n + 1 → ∃ v, ss[n]? = some (some v)
theorem holes_append (f : Int) (ss tt : List (Option V)) : holes f (ss ++ tt) = holes f ss ++ holes (f + ss.length) tt := by
  induction ss generalizing f with
  | nil => simp [holes]
  | cons s r ih =>
    have e : f + 1 + (r.length : Int) = f + ((r.length : Int) + 1) := by omega
    cases s <;> simp [holes, ih, e]
theorem holes_full {f : Int} {ss : List (Option V)} (h : ∀ j, j < ss.length → ∃ v, ss[j]? = some (some v)) : holes f ss = [] := by
  induction ss generalizing f with
  | nil => rfl
  | cons s r ih =>
    obtain ⟨v, hv⟩ := h 0 (by simp)
    simp at hv
    subst hv
    simp only [holes]
    refine ih fun j hj => ?_
    have := h (j + 1) (by simpa using hj)
    simpa using this
theorem nums_take (a : Int) (n k : Nat) : (nums a n).take k = nums a (min k n) := by
  unfold nums
  rw [← List.map_take, List.take_range]
theorem gaps_fold (m : Nat) (tt : List (Option V)) : ∀ (f : Int) (l : List Int) (nx : Int), tt ≠ [] → Ends tt → nx ≤ f → l.length ≤ m →
    (((pairs f tt).map Prod.fst).foldl (gap m) (l, nx)).1 = l ++ (nums nx (f - nx).toNat ++ holes f tt).take (m - l.length) := by
  induction tt with
  | nil => intro f l nx h; exact absurd rfl h
  | cons s r ih =>
    intro f l nx _ he hnx hl
    have her : Ends r := by
      intro n hn
      obtain ⟨v, hv⟩ := he (n + 1) (by simp [hn])
      exact ⟨v, by simpa using hv⟩
    cases s with
    | none =>
      have hr : r ≠ [] := by
        rintro rfl
        obtain ⟨v, hv⟩ := he 0 rfl
        simp at hv
      have e1 : (f + 1 - nx).toNat = (f - nx).toNat + 1 := by omega
      have e2 : nx + (((f - nx).toNat : Nat) : Int) = f := by omega
      have := ih (f + 1) l nx hr her (by omega) hl
      rw [e1, nums_succ, e2] at this
      simpa [pairs, holes] using this
    | some v =>
      simp only [pairs, List.map_cons, List.foldl_cons, holes, gap]
      by_cases hr : r = []
      · subst hr
        simp only [pairs, List.map_nil, List.foldl_nil, holes, List.append_nil]
        rw [nums_take]
      · have hlen : (l ++ nums nx (min (m - l.length) (f - nx).toNat)).length ≤ m := by
          rw [List.length_append, nums_length]; omega
        rw [ih (f + 1) _ (f + 1) hr her (Int.le_refl _) hlen]
        have e0 : (f + 1 - (f + 1)).toNat = 0 := by omega
        rw [e0, show nums (f + 1) 0 = [] from rfl, List.nil_append, List.append_assoc, List.take_append, nums_take, nums_length, List.length_append, nums_length]
        rw [show m - (l.length + min (m - l.length) (f - nx).toNat) = m - l.length - (f - nx).toNat by omega]
theorem missing_eq (m fr : Nat) (ss : List (Option V)) (h : Ends ss) : missing m fr ss = (holes ((fr : Int) + 1) ss).take m := by
  have hl := lead_le ss
  have e0 : ss = ss.take (lead ss) ++ ss.drop (lead ss) := (List.take_append_drop _ _).symm
  have e1 : holes ((fr : Int) + 1) ss = holes (((fr + lead ss : Nat) : Int) + 1) (ss.drop (lead ss)) := by
    rw [e0, holes_append, holes_full, List.nil_append, List.length_take, Nat.min_eq_left hl, ← e0]
    · congr 1; omega
    · intro j hj
      rw [List.length_take] at hj
      obtain ⟨v, hv⟩ := lead_at (ss := ss) (k := j) (by omega)
      exact ⟨v, by rw [List.getElem?_take_of_lt (by omega)]; exact hv⟩
  rw [e1]
  unfold missing gaps
  by_cases hd : ss.drop (lead ss) = []
  · rw [hd]; simp [pairs, holes]
  · have he : Ends (ss.drop (lead ss)) := by
      intro n hn
      rw [List.length_drop] at hn
      obtain ⟨v, hv⟩ := h (lead ss + n) (by omega)
      exact ⟨v, by rw [List.getElem?_drop]; exact hv⟩
    rw [gaps_fold m _ _ [] _ hd he (Int.le_refl _) (Nat.zero_le _)]
    have e2 : ((((fr + lead ss : Nat) : Int) + 1) - (((fr + lead ss : Nat) : Int) + 1)).toNat = 0 := by omega
    rw [e2]
    simp [nums]
theorem ends_laid (ss : List (Option V)) (k : Nat) (v : V) (h : Ends ss) : Ends (laid ss k v) := by
  intro n hn
  rw [laid_length] at hn
  by_cases e : n = k
  · subst e
    exact ⟨v, by rw [← join_some, laid_get, if_pos rfl]⟩
  · obtain ⟨u, hu⟩ := h n (by omega)
    exact ⟨u, by rw [← join_some, laid_get, if_neg e, join_some]; exact hu⟩
theorem ends_nil : Ends ([] : List (Option V)) := fun n hn => by simp at hn
theorem holes_take (f : Int) (ss : List (Option V)) (j : Nat) (o : Option V) (h : ss[j]? = some o) : holes f (ss.take (j + 1)) = holes f (ss.take j) ++ (if o.isSome then [] else [f + (j : Int)]) := by
  have hj := (List.getElem?_eq_some_iff.1 h).1
  rw [List.take_add_one, h, Option.toList, holes_append, List.length_take, Nat.min_eq_left (by omega)]
  cases o <;> simp [holes]
theorem holes_end {f : Int} {ss : List (Option V)} (hE : Ends ss) (j m : Nat) (hj : j + 1 ≤ max 1 ss.length) (hl : (holes f (ss.take j)).length ≤ m) (hx : ss.length ≤ j + 1 ∨ m ≤ (holes f (ss.take j)).length) : (holes f ss).take m = holes f (ss.take j) := by
  have e0 : holes f ss = holes f (ss.take j) ++ holes (f + (ss.take j).length) (ss.drop j) := by rw [← holes_append, List.take_append_drop]
  rw [e0, List.take_append]
  rcases hx with hx | hx
  · have e1 : holes (f + (ss.take j).length) (ss.drop j) = [] := by
      refine holes_full fun i hi => ?_
      rw [List.length_drop] at hi
      obtain ⟨v, hv⟩ := hE j (by omega)
      have : i = 0 := by omega
      subst this
      exact ⟨v, by rw [List.getElem?_drop]; exact hv⟩
    rw [e1, List.take_nil, List.append_nil, List.take_of_length_le hl]
  · have e1 : m - (holes f (ss.take j)).length = 0 := by omega
    rw [e1, List.take_zero, List.append_nil, List.take_of_length_le hl]
/-- a row of flags tells which numbers are there -/
structure Rel (N : Nat) (hs : List Bool) (ss : List (Option V)) : Prop where
  len : hs.length = N
  zero : hs[0]? = some false
  flag : ∀ j, j + 1 < N → hs[j + 1]? = some ss[j]?.join.isSome
  fits : ss.length + 2 ≤ N
  ends : Ends ss
theorem Rel.start (n : Nat) : Rel (V := V) (n + 2) (List.replicate (n + 2) false) [] := by
  refine ⟨by simp, by simp, fun j hj => ?_, by simp, ends_nil⟩
  rw [List.getElem?_replicate, if_pos (by omega)]
  simp
theorem Rel.put {N : Nat} {hs : List Bool} {ss : List (Option V)} (h : Rel N hs ss) (q : Nat) (v : V) (hq : q + 2 < N) : Rel N (hs.set (q + 1) true) (laid ss q v) := by
  refine ⟨by simpa using h.len, ?_, fun j hj => ?_, ?_, ends_laid ss q v h.ends⟩
  · rw [List.getElem?_set_ne (by omega)]; exact h.zero
  · rw [laid_get]
    by_cases e : j = q
    · subst e
      rw [if_pos rfl, List.getElem?_set_self (by rw [h.len]; omega)]; rfl
    · rw [if_neg e, List.getElem?_set_ne (by omega)]
      exact h.flag j hj
  · rw [laid_length]; have := h.fits; omega
theorem Rel.same {N : Nat} {hs : List Bool} {ss : List (Option V)} (h : Rel N hs ss) (q : Nat) (hq : hs[q]? = some true) : hs.set q true = hs := by
  apply List.ext_getElem?
  intro i
  by_cases e : q = i
  · subst e
    rw [List.getElem?_set_self (List.getElem?_eq_some_iff.1 hq).1, hq]
  · rw [List.getElem?_set_ne e]
theorem Rel.top {N t : Nat} {hs : List Bool} {ss : List (Option V)} (h : Rel N hs ss) (h1 : ∀ i, i < N → hs[i]? = some true → i ≤ t) (h2 : t = 0 ∨ hs[t]? = some true) : t = ss.length := by
  have hf := h.fits
  have up : t ≤ ss.length := by
    rcases h2 with h2 | h2
    · omega
    · have hlt : t < N := by rw [← h.len]; exact (List.getElem?_eq_some_iff.1 h2).1
      cases t with
      | zero => omega
      | succ j =>
        rw [h.flag j hlt] at h2
        injection h2 with h2
        rcases Nat.lt_or_ge j ss.length with h3 | h3
        · omega
        · rw [List.getElem?_eq_none h3] at h2; simp at h2
  have lo : ss.length ≤ t := by
    cases hl : ss.length with
    | zero => omega
    | succ m =>
      obtain ⟨v, hv⟩ := h.ends m hl
      exact h1 (m + 1) (by omega) (by rw [h.flag m (by omega), hv]; rfl)
  omega
theorem Rel.next {N q : Nat} {hs : List Bool} {ss : List (Option V)} (h : Rel N hs ss) (hq : q ≤ lead ss) : hs[q + 1]? = some (decide (q < lead ss)) := by
  have h1 := lead_le ss
  have h2 := h.fits
  rw [h.flag q (by omega), ← lead_next hq, List.getD_eq_getElem?_getD]
  cases hh : ss[q]? with
  | none => rfl
  | some o => rfl
theorem pairs_none (f : Int) (n : Nat) : pairs f (List.replicate n (none : Option V)) = [] := by
  induction n generalizing f with
  | zero => rfl
  | succ n ih => rw [List.replicate_succ]; simp [pairs, ih]
theorem pairs_laid (f : Int) (ss : List (Option V)) (k : Nat) (v : V) (h : ss.length ≤ k) : pairs f (laid ss k v) = pairs f ss ++ [(f + (k : Int), v)] := by
  have e : laid ss k v = ss ++ (List.replicate (k - ss.length) none ++ [some v]) := by
    unfold laid
    apply List.ext_getElem?
    intro j
    rw [show k + 1 - ss.length = (k - ss.length) + 1 by omega, List.replicate_succ', ← List.append_assoc, List.set_append_right _ _ (by simp; omega), List.append_assoc]
    have e2 : k - (ss ++ List.replicate (k - ss.length) (none : Option V)).length = 0 := by simp; omega
    rw [e2, List.set_cons_zero]
  rw [e, pairs_append, pairs_append, pairs_none, List.nil_append, List.length_replicate]
  simp only [pairs]
  congr 3
  omega
theorem pairs_ge {f : Int} {ss : List (Option V)} {x : Int × V} (h : x ∈ pairs f ss) : f ≤ x.1 := by
  obtain ⟨k, _, h2⟩ := mem_pairs.1 h
  omega
/-- the numbers rise -/
theorem pairs_rise (f : Int) (ss : List (Option V)) : ((pairs f ss).map Prod.fst).Pairwise (· < ·) := by
  induction ss generalizing f with
  | nil => simp [pairs]
  | cons s r ih =>
    cases s with
    | none => exact ih (f + 1)
    | some v =>
      simp only [pairs, List.map_cons, List.pairwise_cons]
      refine ⟨fun x hx => ?_, ih (f + 1)⟩
      obtain ⟨y, hy, rfl⟩ := List.mem_map.1 hx
      have := pairs_ge hy
      omega
theorem rise_at {l : List Int} (h : l.Pairwise (· < ·)) {i : Nat} {x y : Int} (hx : l[i]? = some x) (hy : l[i + 1]? = some y) : x < y := by
  obtain ⟨h1, rfl⟩ := List.getElem?_eq_some_iff.1 hx
  obtain ⟨h2, rfl⟩ := List.getElem?_eq_some_iff.1 hy
  exact List.pairwise_iff_getElem.1 h i (i + 1) h1 h2 (by omega)
end Wd
end Go.Proofs.Yteafbljdlcbckaa
