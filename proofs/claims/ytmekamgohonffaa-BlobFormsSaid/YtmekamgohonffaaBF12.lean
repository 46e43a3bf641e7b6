/- SumMath -/
import Derived.Test.YtmekamgohonffaaBF11
namespace Go.Proofs.Ytmekamgohonffaa
namespace Fr
def four (c : Nat) : List Nat := [c % 256, c / 256 % 256, c / 65536 % 256, c / 16777216 % 256]
theorem four_len (c : Nat) : (four c).length = 4 := rfl
theorem four_lt (c : Nat) : ∀ x ∈ four c, x < 256 := by
  intro x hx
  simp only [four, List.mem_cons, List.not_mem_nil, or_false] at hx
  omega
end Fr
end Go.Proofs.Ytmekamgohonffaa

