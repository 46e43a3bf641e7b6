/- A row of one's own, past a cell that is set in an older block. -/
import Derived.Test.YtcmjpjhaaookfaaResKit
namespace Go.Proofs.Ytcmjpjhaaookfaa
open Go.RowKit
set_option linter.unusedVariables false
theorem grown_set (W : World) (g i : Nat) (u : Value) : W.grownBy (W.setCell ⟨g, i, none⟩ u) (some g) :=
  ⟨rfl, rfl, rfl, by simp [World.setCell], fun k hk hn => Below.heap_setCell W ⟨g, i, none⟩ u k (by rintro rfl; exact hn rfl)⟩
theorem own_set_lt {w : World} {base : Nat} {e : TypeId} {s n g : Nat} {v : Value} {xs : List Value} (h : w.ownsRow base e s v n xs) (hg : g < base) (i : Nat) (u : Value) : (w.setCell ⟨g, i, none⟩ u).ownsRow base e s v n xs := by
  refine h.kept (grown_set w g i u) ?_
  rcases h.2 with ⟨h1, _⟩ | ⟨g', cap, cur, h1, h2, _⟩
  · rw [h1]; exact .inl rfl
  · rw [h1]; exact .inr (by simp [Value.ownBlock]; omega)
end Go.Proofs.Ytcmjpjhaaookfaa
