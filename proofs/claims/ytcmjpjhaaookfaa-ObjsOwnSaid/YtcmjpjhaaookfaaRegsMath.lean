/- What a register's Cas leaves and answers: plain. -/
namespace Go.Proofs.Ytcmjpjhaaookfaa
/-- what Cas leaves, and answers -/
def casS (s old v : List Nat) : List Nat := if 16 < v.length then s else if s = old then v else s
def casE (s old v : List Nat) : Int := if 16 < v.length then 1 else if s = old then 0 else 2
def casV (s old v : List Nat) : List Nat := if 16 < v.length then [] else if s = old then [] else s
theorem casS_lt {s v : List Nat} (old : List Nat) (hs : ∀ x ∈ s, x < 256) (hv : ∀ x ∈ v, x < 256) : ∀ x ∈ casS s old v, x < 256 := by
  unfold casS; split
  · exact hs
  · split
    · exact hv
    · exact hs
theorem casV_lt {s : List Nat} (v old : List Nat) (hs : ∀ x ∈ s, x < 256) : ∀ x ∈ casV s old v, x < 256 := by
  unfold casV; split
  · intro x hx; cases hx
  · split
    · intro x hx; cases hx
    · exact hs
end Go.Proofs.Ytcmjpjhaaookfaa
