/- ViewMath -/
namespace Go.Proofs.Ytneehnoolhadbaa
namespace Vw
/-- is bit i of the mask set? -/
def bit (m : Int) (i : Nat) : Bool := decide (m / 2 ^ i % 2 = 1)
/-- who is in a mask, rising -/
def members (m : Int) : List Nat := (List.range 7).filter (bit m)
/-- the number of nodes, held to 1 to 7 -/
def size (n : Int) : Nat := (min (max n 1) 7).toNat
def most (m n : Int) : Bool := decide (m / 2 ^ size n = 0) && decide (size n < 2 * (members m).length)
theorem size_bound (n : Int) : 1 ≤ size n ∧ size n ≤ 7 := by unfold size; omega
theorem size_of {n : Nat} (h1 : 1 ≤ n) (h7 : n ≤ 7) : size (n : Int) = n := by unfold size; omega
theorem members_len (m : Int) : (members m).length ≤ 7 := by
  unfold members
  have := List.length_filter_le (bit m) (List.range 7)
  simpa using this
end Vw
end Go.Proofs.Ytneehnoolhadbaa

