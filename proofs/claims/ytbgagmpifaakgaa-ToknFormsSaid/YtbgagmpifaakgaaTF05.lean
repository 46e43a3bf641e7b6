/- IntKit -/
import Derived.Test.YtbgagmpifaakgaaTF04
import Derived.Deep.RegionLaw
namespace Go.Proofs.Ytbgagmpifaakgaa
open Go.RowKit
set_option linter.unusedVariables false
theorem cellI : CellT Try.prog 22 3 (.int .i64 0) 8 := ⟨Try.underlying22, by kernel_rfl, rfl⟩
theorem iv_get {l : List Int} {k : Nat} {z : Int} (h : l[k]? = some z) : (iv l)[k]? = some (.int .i64 z) := by simp [iv, h]
/-- the call that began in W made a row that is the integers l -/
abbrev OwnI (W w : World) (A : Option Addr) (n c : Nat) (l : List Int) : Prop := w.ownsRow W.heap.size 3 1 (.slice A n c) n (iv l)
theorem ownI_len {W w : World} {A : Option Addr} {n c : Nat} {l : List Int} (h : OwnI W w A n c l) : l.length = n := by
  have := h.1; rw [iv_length] at this; omega
theorem ownI_nil (W w : World) : OwnI W w none 0 0 [] := ⟨rfl, .inl ⟨rfl, rfl⟩⟩
theorem ownI_empty {W w : World} (hB : Below W.heap.size W w) : OwnI W (w.alloc (.cells #[] 3)) (some ⟨w.heap.size, 0, none⟩) 0 0 [] :=
  World.ownsRow_made w #[] 0 hB.size (by decide) rfl
theorem own_of {W w w' : World} {e : TypeId} {size n : Nat} {v : Value} {xs : List Value} (hs : W.heap.size ≤ w.heap.size) (h : w'.ownsRow w.heap.size e size v n xs) : w'.ownsRow W.heap.size e size v n xs := by
  obtain ⟨h1, h2⟩ := h
  refine ⟨h1, ?_⟩
  rcases h2 with h2 | ⟨g, cap, cur, hv, hg, r⟩
  · exact .inl h2
  · exact .inr ⟨g, cap, cur, hv, Nat.le_trans hs hg, r⟩
/-- where x stands first; -1: nowhere -/
def placeI (s : List Int) (x : Int) : Int := if x ∈ s then (s.idxOf x : Int) else -1
theorem place_first {s : List Int} {x : Int} {k : Nat} (hk : s[k]? = some x) (hn : ∀ j, j < k → s[j]? ≠ some x) : placeI s x = (k : Int) := by
  have hm : x ∈ s := List.mem_of_getElem? hk
  unfold placeI
  rw [if_pos hm]
  congr 1
  induction s generalizing k with
  | nil => simp at hk
  | cons y t ih =>
    cases k with
    | zero => simp at hk; subst hk; simp
    | succ k =>
      have hy : y ≠ x := by have := hn 0 (by omega); simpa using this
      rw [List.idxOf_cons]
      have hb : (y == x) = false := by simpa using hy
      rw [hb]
      simp at hk
      have := ih hk (fun j hj => by have := hn (j + 1) (by omega); simpa using this) (by simpa [hy.symm] using hm)
      simp [this]
theorem place_none {s : List Int} {x : Int} (hn : ∀ j, j < s.length → s[j]? ≠ some x) : placeI s x = -1 := by
  unfold placeI
  rw [if_neg]
  intro h
  obtain ⟨i, hi, e⟩ := List.getElem_of_mem h
  exact hn i hi (by rw [List.getElem?_eq_getElem hi, e])
theorem place_lt {s : List Int} {x : Int} (h : x ∈ s) : ∃ k : Nat, placeI s x = (k : Int) ∧ k < s.length ∧ s.erase x = s.take k ++ s.drop (k + 1) := by
  refine ⟨s.idxOf x, by unfold placeI; rw [if_pos h], List.idxOf_lt_length_of_mem h, ?_⟩
  rw [List.erase_eq_eraseIdx_of_idxOf rfl, List.eraseIdx_eq_take_drop_succ]
theorem place_no {s : List Int} {x : Int} (h : x ∉ s) : placeI s x = -1 := by unfold placeI; rw [if_neg h]
end Go.Proofs.Ytbgagmpifaakgaa

