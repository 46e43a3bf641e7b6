/- IntKit -/
import Derived.Test.YtneehnoolhadbaaGP03
namespace Go.Proofs.Ytneehnoolhadbaa
open Go.RowKit
set_option linter.unusedVariables false
theorem cellI : CellT Try.prog 22 3 (.int .i64 0) 8 := ⟨Try.underlying22, by kernel_rfl, rfl⟩
/-- the call that began in W made a row that is the integers l -/
abbrev OwnI (W w : World) (A : Option Addr) (n c : Nat) (l : List Int) : Prop := w.ownsRow W.heap.size 3 1 (.slice A n c) n (iv l)
theorem ownI_len {W w : World} {A : Option Addr} {n c : Nat} {l : List Int} (h : OwnI W w A n c l) : l.length = n := by
  have := h.1; rw [iv_length] at this; omega
theorem ownI_nil (W w : World) : OwnI W w none 0 0 [] := ⟨rfl, .inl ⟨rfl, rfl⟩⟩
theorem Rd.oneAt (w : World) (v : Value) (t : TypeId) {g : Nat} (hg : w.heap.size = g) : Rd (w.alloc (.cells #[v] t)) (g + 1) (some ⟨g, 0, none⟩) 1 [v] := by
  subst hg; exact Rd.oneV w v t
theorem own_of {W w w' : World} {e : TypeId} {size n : Nat} {v : Value} {xs : List Value} (hs : W.heap.size ≤ w.heap.size) (h : w'.ownsRow w.heap.size e size v n xs) : w'.ownsRow W.heap.size e size v n xs := by
  obtain ⟨h1, h2⟩ := h
  refine ⟨h1, ?_⟩
  rcases h2 with h2 | ⟨g, cap, cur, hv, hg, r⟩
  · exact .inl h2
  · exact .inr ⟨g, cap, cur, hv, Nat.le_trans hs hg, r⟩
end Go.Proofs.Ytneehnoolhadbaa

