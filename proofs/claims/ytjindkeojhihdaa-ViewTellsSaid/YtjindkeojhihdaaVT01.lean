/- ViewMath -/
namespace Go.Proofs.Ytjindkeojhihdaa
namespace Vw
/-- is bit i of the mask set? -/
def bit (m : Int) (i : Nat) : Bool := decide (m / 2 ^ i % 2 = 1)
/-- who is in a mask, rising -/
def members (m : Int) : List Nat := (List.range 7).filter (bit m)
/-- the number of nodes, held to 1 to 7 -/
def size (n : Int) : Nat := (min (max n 1) 7).toNat
def most (m n : Int) : Bool := decide (m / 2 ^ size n = 0) && decide (size n < 2 * (members m).length)
/-- the first of l above id, else the first of them, else -1 -/
def above (l : List Nat) (id : Int) : Int := match l.find? (fun (i : Nat) => decide (id < (i : Int))) with
  | some i => (i : Int)
  | none => match l with
    | [] => -1
    | i :: _ => (i : Int)
def after (m id : Int) : Int := above (members m) id
def next (prom id : Int) : Int := 8 * (min (max prom 0) 549755813888 / 8 + 1) + min (max id 0) 6
def who (v : Int) : Int := max v 0 % 8
def limit (id : Int) : Int := 400 + 40 * min (max id 0) 6
theorem size_bound (n : Int) : 1 ≤ size n ∧ size n ≤ 7 := by unfold size; omega
theorem size_of {n : Nat} (h1 : 1 ≤ n) (h7 : n ≤ 7) : size (n : Int) = n := by unfold size; omega
theorem members_len (m : Int) : (members m).length ≤ 7 := by
  unfold members
  have := List.length_filter_le (bit m) (List.range 7)
  simpa using this
end Vw
end Go.Proofs.Ytjindkeojhihdaa

