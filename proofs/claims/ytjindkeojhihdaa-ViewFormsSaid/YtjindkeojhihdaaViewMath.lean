/- Views: plain mathematics. It names nothing of a program. -/
namespace Go.Proofs.Ytjindkeojhihdaa
namespace Vw
/-- is bit i of the mask set? -/
def bit (m : Int) (i : Nat) : Bool := decide (m / 2 ^ i % 2 = 1)
/-- who is in a mask, rising -/
def members (m : Int) : List Nat := (List.range 7).filter (bit m)
/-- the number of nodes, held to 1 to 7 -/
def size (n : Int) : Nat := (min (max n 1) 7).toNat
def most (m n : Int) : Bool := decide (m / 2 ^ size n = 0) && decide (size n < 2 * (members m).length)
/-- the first of l above id, else the first of them, else -1 -/
def above (l : List Nat) (id : Int) : Int := match l.find? (fun (i : Nat) => decide (id < (i : Int))) with
  | some i => (i : Int)
  | none => match l with
    | [] => -1
    | i :: _ => (i : Int)
def after (m id : Int) : Int := above (members m) id
def next (prom id : Int) : Int := 8 * (min (max prom 0) 549755813888 / 8 + 1) + min (max id 0) 6
def who (v : Int) : Int := max v 0 % 8
def limit (id : Int) : Int := 400 + 40 * min (max id 0) 6
theorem size_bound (n : Int) : 1 ≤ size n ∧ size n ≤ 7 := by unfold size; omega
theorem size_of {n : Nat} (h1 : 1 ≤ n) (h7 : n ≤ 7) : size (n : Int) = n := by unfold size; omega
theorem members_lt {m : Int} {i : Nat} (h : i ∈ members m) : i < 7 ∧ bit m i = true := by
  unfold members at h
  rw [List.mem_filter, List.mem_range] at h
  exact h
theorem mem_members {m : Int} {i : Nat} (h : i < 7) (hb : bit m i = true) : i ∈ members m := List.mem_filter.2 ⟨List.mem_range.2 h, hb⟩
theorem members_len (m : Int) : (members m).length ≤ 7 := by
  unfold members
  have := List.length_filter_le (bit m) (List.range 7)
  simpa using this
theorem members_rise (m : Int) : (members m).Pairwise (· < ·) := by
  unfold members
  exact List.Pairwise.filter _ List.pairwise_lt_range
/-- two that most are in have one in both -/
theorem meet {α : Type} (p q : α → Bool) (l : List α) (h : l.length < (l.filter p).length + (l.filter q).length) : ∃ x ∈ l, p x = true ∧ q x = true := by
  induction l with
  | nil => simp at h
  | cons x l ih =>
    by_cases hp : p x = true
    · by_cases hq : q x = true
      · exact ⟨x, List.mem_cons_self, hp, hq⟩
      · rw [List.filter_cons_of_pos hp, List.filter_cons_of_neg hq] at h
        simp only [List.length_cons] at h
        obtain ⟨y, hy, h1, h2⟩ := ih (by omega)
        exact ⟨y, List.mem_cons_of_mem _ hy, h1, h2⟩
    · rw [List.filter_cons_of_neg hp] at h
      by_cases hq : q x = true
      · rw [List.filter_cons_of_pos hq] at h
        simp only [List.length_cons] at h
        obtain ⟨y, hy, h1, h2⟩ := ih (by omega)
        exact ⟨y, List.mem_cons_of_mem _ hy, h1, h2⟩
      · rw [List.filter_cons_of_neg hq] at h
        simp only [List.length_cons] at h
        obtain ⟨y, hy, h1, h2⟩ := ih (by omega)
        exact ⟨y, List.mem_cons_of_mem _ hy, h1, h2⟩
/-- none stands at or above the number of nodes -/
theorem bit_high {m : Int} {n i : Nat} (h : m / 2 ^ n = 0) (hi : n ≤ i) : bit m i = false := by
  unfold bit
  have e : m / 2 ^ i = 0 := by
    obtain ⟨k, rfl⟩ : ∃ k, i = n + k := ⟨i - n, by omega⟩
    rw [Int.pow_add, ← Int.ediv_ediv_of_nonneg (Int.pow_nonneg (by decide)), h, Int.zero_ediv]
  rw [e]; rfl
theorem members_low {m : Int} {n : Nat} (h : m / 2 ^ n = 0) (hn : n ≤ 7) : members m = (List.range n).filter (bit m) := by
  unfold members
  obtain ⟨k, hk⟩ : ∃ k, 7 = n + k := ⟨7 - n, by omega⟩
  rw [hk, List.range_add, List.filter_append]
  have e : (List.map (fun x => n + x) (List.range k)).filter (bit m) = [] := by
    rw [List.filter_eq_nil_iff]
    intro x hx
    rw [List.mem_map] at hx
    obtain ⟨y, _, rfl⟩ := hx
    rw [bit_high h (by omega)]
    decide
  rw [e, List.append_nil]
theorem most_meet {a b n : Int} (ha : most a n = true) (hb : most b n = true) : ∃ i, i < 7 ∧ bit a i = true ∧ bit b i = true := by
  unfold most at ha hb
  rw [Bool.and_eq_true, decide_eq_true_eq, decide_eq_true_eq] at ha hb
  have hs := size_bound n
  have h1 := ha.2
  have h2 := hb.2
  rw [members_low ha.1 hs.2] at h1
  rw [members_low hb.1 hs.2] at h2
  obtain ⟨i, hi, e1, e2⟩ := meet (bit a) (bit b) (List.range (size n)) (by rw [List.length_range]; omega)
  rw [List.mem_range] at hi
  exact ⟨i, by omega, e1, e2⟩
/-- in a row that rises, the first above one is the next of it -/
theorem find_next : ∀ (l : List Nat) (j : Nat) (hj : j < l.length), l.Pairwise (· < ·) → l.find? (fun (i : Nat) => decide (((l[j] : Nat) : Int) < (i : Int))) = l[j + 1]? := by
  intro l
  induction l with
  | nil => intro j hj; simp at hj
  | cons x t ih =>
    intro j hj hp
    rw [List.pairwise_cons] at hp
    cases j with
    | zero =>
      cases t with
      | nil => simp
      | cons y t =>
        have hxy := hp.1 y List.mem_cons_self
        simp only [List.getElem_cons_zero]
        rw [List.find?_cons_of_neg (by simp), List.find?_cons_of_pos (by simp; omega)]
        rfl
    | succ j =>
      have hj' : j < t.length := by simpa using hj
      have hx := hp.1 _ (List.getElem_mem hj')
      simp only [List.getElem_cons_succ]
      rw [List.find?_cons_of_neg (by simp; omega)]
      exact ih j hj' hp.2
theorem above_next (l : List Nat) (j : Nat) (hj : j < l.length) (hp : l.Pairwise (· < ·)) : above l (((l[j] : Nat) : Int)) = (((l[j + 1]?).getD (l[0]'(by omega)) : Nat) : Int) := by
  unfold above
  rw [find_next l j hj hp]
  cases l with
  | nil => simp at hj
  | cons x t =>
    cases h : (x :: t)[j + 1]? with
    | some y => rfl
    | none => rfl
theorem after_next {m : Int} {l : List Nat} (hl : members m = l) {j : Nat} (hj : j < l.length) : after m (((l[j] : Nat) : Int)) = (((l[j + 1]?).getD (l[0]'(by omega)) : Nat) : Int) := by
  subst hl
  exact above_next _ j hj (members_rise m)
/-- a view's number rises with each promise, and tells who made it -/
theorem next_rises (prom id : Int) (h0 : 0 ≤ prom) (h1 : prom ≤ 549755813888) : prom < next prom id := by unfold next; omega
theorem who_next (prom id : Int) (h0 : 0 ≤ id) (h6 : id ≤ 6) : who (next prom id) = id := by unfold who next; omega
end Vw
end Go.Proofs.Ytjindkeojhihdaa
