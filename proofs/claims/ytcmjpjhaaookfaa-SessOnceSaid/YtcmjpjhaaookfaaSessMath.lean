/- Tables of last calls: where a session stands, what is told of it, what is put. Plain. -/
import Derived.Test.YtcmjpjhaaookfaaLastKit
namespace Go.Proofs.Ytcmjpjhaaookfaa
set_option linter.unusedVariables false
namespace Tb
/-- a table rises by its sessions -/
def Rises (ls : List Ls) : Prop := ls.Pairwise fun a b => a.s < b.s
/-- a session and a number that are some -/
def named (s q : Int) : Prop := 1 ≤ s ∧ 1 ≤ q ∧ s ≤ 1073741824 ∧ q ≤ 1073741824
instance (s q : Int) : Decidable (named s q) := inferInstanceAs (Decidable (_ ∧ _))
/-- what stands for a session -/
def here (ls : List Ls) (s : Int) : Option Ls := ls.find? fun l => decide (l.s = s)
/-- an answer: error, bytes, number, what is to be done -/
structure Ans where
  e : Int
  v : List Nat
  n : Int
  k : Int
/-- what is to be done -/
def look (ls : List Ls) (s q : Int) : Ans :=
  if named s q then
    match here ls s with
    | some l => if q < l.q then ⟨8, [], 0, 2⟩ else if q = l.q then ⟨l.e, l.v, l.n, 1⟩ else ⟨0, [], 0, 0⟩
    | none => if 8 ≤ ls.length then ⟨9, [], 0, 2⟩ else ⟨0, [], 0, 0⟩
  else ⟨10, [], 0, 2⟩
/-- that is its last one then -/
def put (ls : List Ls) (l : Ls) : List Ls := ls.filter (fun m => decide (m.s < l.s)) ++ l :: ls.filter (fun m => decide (l.s < m.s))
/-- i is where a session stands, or would -/
structure At (ls : List Ls) (s : Int) (i : Nat) : Prop where
  le : i ≤ ls.length
  lo : ∀ (j : Nat) (l : Ls), j < i → ls[j]? = some l → l.s < s
  hi : ∀ l, ls[i]? = some l → s ≤ l.s
section
variable {ls : List Ls} {s : Int} {i : Nat} {l m : Ls}
theorem At.lows (h : At ls s i) : ∀ m ∈ ls.take i, m.s < s := by
  intro m hm
  obtain ⟨j, hj, e⟩ := List.getElem_of_mem hm
  have hj2 : j < i := by rw [List.length_take] at hj; omega
  refine h.lo j m hj2 ?_
  rw [← e, List.getElem_take, List.getElem?_eq_getElem]
theorem At.highs (hr : Rises ls) (h : At ls s i) : ∀ m ∈ ls.drop i, s ≤ m.s := by
  intro m hm
  have hp : (ls.drop i).Pairwise fun a b => a.s < b.s := hr.sublist (List.drop_sublist i ls)
  cases hd : ls.drop i with
  | nil => rw [hd] at hm; cases hm
  | cons x r =>
    have h0 : ls[i]? = some x := by
      have : (ls.drop i)[0]? = some x := by rw [hd]; rfl
      rwa [List.getElem?_drop, Nat.add_zero] at this
    rw [hd] at hm hp
    have hx := h.hi x h0
    rcases List.mem_cons.1 hm with rfl | hm
    · exact hx
    · have := (List.pairwise_cons.1 hp).1 m hm
      omega
theorem At.rest (hr : Rises ls) (h : At ls s i) (hl : ls[i]? = some l) (hs : l.s = s) : ls.drop i = l :: ls.drop (i + 1) ∧ ∀ m ∈ ls.drop (i + 1), s < m.s := by
  have hp : (ls.drop i).Pairwise fun a b => a.s < b.s := hr.sublist (List.drop_sublist i ls)
  have hd : ls.drop i = l :: ls.drop (i + 1) := by rw [List.drop_eq_getElem?_toList_append, hl]; rfl
  rw [hd] at hp
  refine ⟨hd, fun m hm => ?_⟩
  have := (List.pairwise_cons.1 hp).1 m hm
  omega
theorem At.highs2 (hr : Rises ls) (h : At ls s i) (hn : ∀ l, ls[i]? = some l → l.s ≠ s) : ∀ m ∈ ls.drop i, s < m.s := by
  intro m hm
  have hp : (ls.drop i).Pairwise fun a b => a.s < b.s := hr.sublist (List.drop_sublist i ls)
  cases hd : ls.drop i with
  | nil => rw [hd] at hm; cases hm
  | cons x r =>
    have h0 : ls[i]? = some x := by
      have : (ls.drop i)[0]? = some x := by rw [hd]; rfl
      rwa [List.getElem?_drop, Nat.add_zero] at this
    rw [hd] at hm hp
    have hx := h.hi x h0
    have hx2 := hn x h0
    rcases List.mem_cons.1 hm with rfl | hm
    · omega
    · have := (List.pairwise_cons.1 hp).1 m hm
      omega
theorem filter_all {p : Ls → Bool} {l : List Ls} (h : ∀ m ∈ l, p m = true) : l.filter p = l := List.filter_eq_self.2 h
theorem filter_none {p : Ls → Bool} {l : List Ls} (h : ∀ m ∈ l, p m = false) : l.filter p = [] := List.filter_eq_nil_iff.2 fun m hm => by rw [h m hm]; simp
theorem find_none {p : Ls → Bool} {l : List Ls} (h : ∀ m ∈ l, p m = false) : l.find? p = none := List.find?_eq_none.2 fun m hm => by rw [h m hm]; simp
theorem At.here_some (hr : Rises ls) (h : At ls s i) (hl : ls[i]? = some l) (hs : l.s = s) : here ls s = some l := by
  unfold here
  conv => lhs; rw [← List.take_append_drop i ls]
  rw [List.find?_append, find_none (fun m hm => by have := h.lows m hm; simp; omega), (h.rest hr hl hs).1]
  simp [hs]
theorem At.here_none (hr : Rises ls) (h : At ls s i) (hn : ∀ l, ls[i]? = some l → l.s ≠ s) : here ls s = none := by
  unfold here
  refine find_none fun m hm => ?_
  rw [← List.take_append_drop i ls] at hm
  rcases List.mem_append.1 hm with hm | hm
  · have := h.lows m hm; simp; omega
  · have := h.highs2 hr hn m hm; simp; omega
theorem At.put_some (hr : Rises ls) (h : At ls l.s i) (hm : ls[i]? = some m) (hs : m.s = l.s) : put ls l = ls.set i l := by
  have hlt : i < ls.length := by
    rcases Nat.lt_or_ge i ls.length with h' | h'
    · exact h'
    · rw [List.getElem?_eq_none h'] at hm; cases hm
  obtain ⟨hd, hgt⟩ := h.rest hr hm hs
  unfold put
  rw [List.set_eq_take_append_cons_drop, if_pos hlt]
  conv => lhs; rw [← List.take_append_drop i ls]
  rw [List.filter_append, List.filter_append, hd]
  rw [filter_all (fun m hm => by have := h.lows m hm; simpa using this), filter_none (l := ls.take i) (fun m hm => by have := h.lows m hm; simp; omega)]
  rw [List.filter_cons_of_neg (by simp [hs]), List.filter_cons_of_neg (by simp [hs]), filter_none (l := ls.drop (i + 1)) (fun m hm => by have := hgt m hm; simp; omega), filter_all (fun m hm => by have := hgt m hm; simpa using this)]
  simp
theorem At.put_none (hr : Rises ls) (h : At ls l.s i) (hn : ∀ m, ls[i]? = some m → m.s ≠ l.s) : put ls l = ls.take i ++ l :: ls.drop i := by
  have hgt := h.highs2 hr hn
  unfold put
  conv => lhs; rw [← List.take_append_drop i ls]
  rw [List.filter_append, List.filter_append]
  rw [filter_all (fun m hm => by have := h.lows m hm; simpa using this), filter_none (l := ls.take i) (fun m hm => by have := h.lows m hm; simp; omega)]
  rw [filter_none (l := ls.drop i) (fun m hm => by have := hgt m hm; simp; omega), filter_all (l := ls.drop i) (fun m hm => by have := hgt m hm; simpa using this)]
  simp
theorem At.none_eq (h : At ls s i) (hi : i = ls.length) : ∀ l, ls[i]? = some l → l.s ≠ s := by
  intro l hl
  rw [List.getElem?_eq_none (by omega)] at hl
  cases hl
theorem put_rises (hr : Rises ls) : Rises (put ls l) := by
  unfold Rises put
  rw [List.pairwise_append]
  refine ⟨hr.filter _, ?_, ?_⟩
  · rw [List.pairwise_cons]
    exact ⟨fun m hm => by have := (List.mem_filter.1 hm).2; simpa using this, hr.filter _⟩
  · intro a ha b hb
    have h1 := (List.mem_filter.1 ha).2
    simp at h1
    rcases List.mem_cons.1 hb with rfl | hb
    · exact h1
    · have h2 := (List.mem_filter.1 hb).2
      simp at h2
      omega
theorem mem_put (h : m ∈ put ls l) : m = l ∨ m ∈ ls := by
  unfold put at h
  rcases List.mem_append.1 h with h | h
  · exact .inr (List.mem_filter.1 h).1
  · rcases List.mem_cons.1 h with h | h
    · exact .inl h
    · exact .inr (List.mem_filter.1 h).1
theorem here_put : here (put ls l) l.s = some l := by
  unfold here put
  rw [List.find?_append, find_none (fun m hm => by have := (List.mem_filter.1 hm).2; simp at this; simp; omega)]
  simp
theorem find_filter {p q : Ls → Bool} (ls : List Ls) (h : ∀ m ∈ ls, q m = true → p m = true) : (ls.filter p).find? q = ls.find? q := by
  induction ls with
  | nil => rfl
  | cons a ls ih =>
    have ih := ih fun m hm => h m (List.mem_cons_of_mem _ hm)
    by_cases hp : p a = true
    · rw [List.filter_cons_of_pos hp, List.find?_cons, List.find?_cons, ih]
    · rw [List.filter_cons_of_neg hp, List.find?_cons, ih]
      cases hq : q a with
      | true => exact absurd (h a List.mem_cons_self hq) hp
      | false => rfl
theorem here_put_ne (hs : s ≠ l.s) : here (put ls l) s = here ls s := by
  unfold here put
  rw [List.find?_append]
  rcases Int.lt_or_gt_of_ne hs with h | h
  · rw [find_filter ls (fun m _ hm => by simp at hm ⊢; omega)]
    rw [find_none (l := l :: _) (fun m hm => by
      rcases List.mem_cons.1 hm with rfl | hm
      · simp; omega
      · have := (List.mem_filter.1 hm).2; simp at this; simp; omega)]
    simp
  · rw [find_none (l := ls.filter _) (fun m hm => by have := (List.mem_filter.1 hm).2; simp at this; simp; omega)]
    rw [List.find?_cons, find_filter ls (fun m _ hm => by simp at hm ⊢; omega)]
    simp
    rw [decide_eq_false (by omega)]
theorem split_len (ls : List Ls) (s : Int) : (ls.filter fun m => decide (m.s < s)).length + (ls.filter fun m => decide (m.s = s)).length + (ls.filter fun m => decide (s < m.s)).length = ls.length := by
  induction ls with
  | nil => rfl
  | cons a ls ih =>
    rcases Int.lt_trichotomy a.s s with h | h | h
    · rw [List.filter_cons_of_pos (by simpa using h), List.filter_cons_of_neg (by simp; omega), List.filter_cons_of_neg (by simp; omega)]
      simp; omega
    · rw [List.filter_cons_of_neg (by simp; omega), List.filter_cons_of_pos (by simpa using h), List.filter_cons_of_neg (by simp; omega)]
      simp; omega
    · rw [List.filter_cons_of_neg (by simp; omega), List.filter_cons_of_neg (by simp; omega), List.filter_cons_of_pos (by simpa using h)]
      simp; omega
theorem one_len (hr : Rises ls) (s : Int) : (ls.filter fun m => decide (m.s = s)).length = if (here ls s).isSome then 1 else 0 := by
  induction ls with
  | nil => rfl
  | cons a ls ih =>
    have hp := List.pairwise_cons.1 hr
    by_cases h : a.s = s
    · rw [List.filter_cons_of_pos (by simpa using h), filter_none (l := ls) (fun m hm => by have := hp.1 m hm; simp; omega)]
      simp [here, h]
    · rw [List.filter_cons_of_neg (by simpa using h), ih hp.2]
      unfold here
      rw [List.find?_cons, decide_eq_false h]
theorem length_put (hr : Rises ls) : (put ls l).length = if (here ls l.s).isSome then ls.length else ls.length + 1 := by
  have h1 := split_len ls l.s
  rw [one_len hr] at h1
  unfold put
  rw [List.length_append, List.length_cons]
  split
  · rw [if_pos (by assumption)] at h1; omega
  · rw [if_neg (by assumption)] at h1; omega
theorem length_put_le : (put ls l).length ≤ ls.length + 1 := by
  have h1 := split_len ls l.s
  unfold put
  rw [List.length_append, List.length_cons]
  omega
end
end Tb
end Go.Proofs.Ytcmjpjhaaookfaa
