/- ViewMath -/
namespace Go.Proofs.Ytneehnoolhadbaa
namespace Vw
/-- is bit i of the mask set? -/
def bit (m : Int) (i : Nat) : Bool := decide (m / 2 ^ i % 2 = 1)
/-- who is in a mask, rising -/
def members (m : Int) : List Nat := (List.range 7).filter (bit m)
/-- the number of nodes, held to 1 to 7 -/
def size (n : Int) : Nat := (min (max n 1) 7).toNat
def most (m n : Int) : Bool := decide (m / 2 ^ size n = 0) && decide (size n < 2 * (members m).length)
theorem size_bound (n : Int) : 1 ≤ size n ∧ size n ≤ 7 := by unfold size; omega
theorem size_of {n : Nat} (h1 : 1 ≤ n) (h7 : n ≤ 7) : size (n : Int) = n := by unfold size; omega
theorem mem_members {m : Int} {i : Nat} (h : i < 7) (hb : bit m i = true) : i ∈ members m := List.mem_filter.2 ⟨List.mem_range.2 h, hb⟩
theorem members_len (m : Int) : (members m).length ≤ 7 := by
  unfold members
  have := List.length_filter_le (bit m) (List.range 7)
  simpa using this
/-- none stands at or above the number of nodes -/
theorem bit_high {m : Int} {n i : Nat} (h : m / 2 ^ n = 0) (hi : n ≤ i) : bit m i = false := by
  unfold bit
  have e : m / 2 ^ i = 0 := by
    obtain ⟨k, rfl⟩ : ∃ k, i = n + k := ⟨i - n, by omega⟩
    rw [Int.pow_add, ← Int.ediv_ediv_of_nonneg (Int.pow_nonneg (by decide)), h, Int.zero_ediv]
  rw [e]; rfl
theorem members_low {m : Int} {n : Nat} (h : m / 2 ^ n = 0) (hn : n ≤ 7) : members m = (List.range n).filter (bit m) := by
  unfold members
  obtain ⟨k, hk⟩ : ∃ k, 7 = n + k := ⟨7 - n, by omega⟩
  rw [hk, List.range_add, List.filter_append]
  have e : (List.map (fun x => n + x) (List.range k)).filter (bit m) = [] := by
    rw [List.filter_eq_nil_iff]
    intro x hx
    rw [List.mem_map] at hx
    obtain ⟨y, _, rfl⟩ := hx
    rw [bit_high h (by omega)]
    decide
  rw [e, List.append_nil]
end Vw
end Go.Proofs.Ytneehnoolhadbaa

