/- IntKit -/
import Derived.Test.YtlfkgpllleogoaaDP12
import Derived.Deep.RegionLaw
namespace Go.Proofs.Ytlfkgpllleogoaa
open Go.RowKit
set_option linter.unusedVariables false
theorem own_of {W w w' : World} {e : TypeId} {size n : Nat} {v : Value} {xs : List Value} (hs : W.heap.size ≤ w.heap.size) (h : w'.ownsRow w.heap.size e size v n xs) : w'.ownsRow W.heap.size e size v n xs := by
  obtain ⟨h1, h2⟩ := h
  refine ⟨h1, ?_⟩
  rcases h2 with h2 | ⟨g, cap, cur, hv, hg, r⟩
  · exact .inl h2
  · exact .inr ⟨g, cap, cur, hv, Nat.le_trans hs hg, r⟩
end Go.Proofs.Ytlfkgpllleogoaa

