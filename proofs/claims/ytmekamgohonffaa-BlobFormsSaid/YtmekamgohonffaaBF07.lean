/- MapsInv -/
import Derived.Test.YtmekamgohonffaaBF06
namespace Go.Proofs.Ytmekamgohonffaa
namespace Mp
/-- what a map keeps -/
structure Inv (ps : List Pr) : Prop where
  rise : Rises ps
  few : ps.length ≤ 8
  len : ∀ p ∈ ps, p.1.length ≤ 8 ∧ p.2.length ≤ 16
  byt : ∀ p ∈ ps, (∀ x ∈ p.1, x < 256) ∧ ∀ x ∈ p.2, x < 256
theorem Inv.nil : Inv [] := ⟨List.Pairwise.nil, by simp, by simp, by simp⟩
end Mp
end Go.Proofs.Ytmekamgohonffaa

