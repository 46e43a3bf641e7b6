/- SoftKit -/
import Derived.Test.YtlfkgpllleogoaaDK13
import Derived.Deep.Matrix
namespace Go.Proofs.Ytlfkgpllleogoaa
open Go.RowKit
set_option linter.unusedVariables false
/-- a byte and one more -/
theorem up8 (x : Int) (h0 : 0 ≤ x) (h1 : x < 256) : IntKind.u8.wrap (x + 1) = (x + 1) % 256 := by
  simp [IntKind.wrap, IntKind.bits, IntKind.signed]
/-- a block of bytes from base on, of at least m -/
def Bytes8 (w : World) (base g m : Nat) : Prop := base ≤ g ∧ ∃ cur, Blk w g 5 cur ∧ ∀ j, j < m → ∃ x : Int, 0 ≤ x ∧ x < 256 ∧ cur[j]? = some (.int .u8 x)
theorem Bytes8.set_ {w : World} {base g m g' i : Nat} {x : Int} (h : Bytes8 w base g m) (h0 : 0 ≤ x) (h1 : x < 256) : Bytes8 (w.setCell ⟨g', i, none⟩ (.int .u8 x)) base g m := by
  obtain ⟨hb, cur, hk, hc⟩ := h
  by_cases he : g' = g
  · subst he
    refine ⟨hb, _, hk.set_ i _, fun j hj => ?_⟩
    obtain ⟨y, y0, y1, hy⟩ := hc j hj
    rw [Array.getElem?_setIfInBounds]
    by_cases hij : i = j
    · subst hij
      have hlt : i < cur.size := by
        rcases Nat.lt_or_ge i cur.size with h | h
        · exact h
        · rw [Array.getElem?_eq_none h] at hy; cases hy
      exact ⟨x, h0, h1, by simp [hlt]⟩
    · exact ⟨y, y0, y1, by simp [hij, hy]⟩
  · exact ⟨hb, cur, hk.set_other (fun e => he e.symm), hc⟩
theorem soft_own {W w : World} {A : Option Addr} {m c : Nat} {l : List Nat} (h : OwnB W w A m c l) (hby : ∀ x ∈ l, x < 256) : 0 < m → ∃ g, A = some ⟨g, 0, none⟩ ∧ Bytes8 w W.heap.size g m := by
  intro hm
  have hl := own_len h
  obtain ⟨g, rfl, hg1, hg2⟩ := own_addr h hm
  rcases own_blk h with ⟨h1, _⟩ | ⟨g', cur, h1, _, hk⟩
  · cases h1
  · injection h1 with h1; injection h1 with h1; subst h1
    refine ⟨g, rfl, hg1, cur, hk, fun j hj => ?_⟩
    have hc := own_byte h hj
    rw [hk.cell] at hc
    refine ⟨_, by omega, ?_, hc⟩
    have h3 : l.getD j 0 < 256 := by
      rw [List.getD_eq_getElem?_getD, List.getElem?_eq_getElem (by omega)]
      exact hby _ (List.getElem_mem _)
    omega
/-- what a walk asks of one byte -/
theorem Bytes8.at {w : World} {base g m j : Nat} (h : Bytes8 w base g m) (hj : j < m) : base ≤ g ∧ w.frozen? ⟨g, j, none⟩ = false ∧ ∃ x : Int, 0 ≤ x ∧ x < 256 ∧ w.cell? ⟨g, j, none⟩ = some (.int .u8 x) := by
  obtain ⟨hb, cur, hk, hc⟩ := h
  obtain ⟨x, h0, h1, e⟩ := hc j hj
  exact ⟨hb, hk.frozen j, x, h0, h1, (hk.cell j).trans e⟩
theorem Bytes8.apart {w : World} {base g m b : Nat} {t : TypeId} {cs : Array Value} (h : Bytes8 w base g m) (hb : Blk w b t cs) (hne : 5 ≠ t) : g ≠ b := by
  obtain ⟨_, cur, hk, _⟩ := h
  exact hk.apart hb hne
end Go.Proofs.Ytlfkgpllleogoaa

