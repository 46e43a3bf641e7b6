/- Rows of bytes of which only the shape is told: any of their bytes may be turned. -/
import Derived.Test.YtclbhcbeocapgaaQKit
import Derived.Test.YtclbhcbeocapgaaSetKit
namespace Go.Proofs.Ytclbhcbeocapgaa
open Go.RowKit
set_option linter.unusedVariables false
/-- a byte and one more -/
theorem up8 (x : Int) (h0 : 0 ≤ x) (h1 : x < 256) : IntKind.u8.wrap (x + 1) = (x + 1) % 256 := by
  simp [IntKind.wrap, IntKind.bits, IntKind.signed]
theorem OwnQ.set_lt {W w : World} {A : Option Addr} {n c g : Nat} {qs : List (List Nat)} (h : OwnQ W w A n c qs) (hg : g < W.heap.size) (i : Nat) (u : Value) : OwnQ W (w.setCell ⟨g, i, none⟩ u) A n c qs := by
  obtain ⟨vs, h1, h2⟩ := h
  exact ⟨vs, own_set_lt h1 hg i u, h2.len, fun k l hl => by obtain ⟨A, c, e, ho⟩ := h2.cell k l hl; exact ⟨A, c, e, own_set_lt ho hg i u⟩⟩
/-- a block of bytes from base on, of at least m -/
def Bytes8 (w : World) (base g m : Nat) : Prop := base ≤ g ∧ ∃ cur, Blk w g 5 cur ∧ ∀ j, j < m → ∃ x : Int, 0 ≤ x ∧ x < 256 ∧ cur[j]? = some (.int .u8 x)
theorem Bytes8.set_ {w : World} {base g m g' i : Nat} {x : Int} (h : Bytes8 w base g m) (h0 : 0 ≤ x) (h1 : x < 256) : Bytes8 (w.setCell ⟨g', i, none⟩ (.int .u8 x)) base g m := by
  obtain ⟨hb, cur, hk, hc⟩ := h
  by_cases he : g' = g
  · subst he
    refine ⟨hb, _, hk.set_ i _, fun j hj => ?_⟩
    obtain ⟨y, y0, y1, hy⟩ := hc j hj
    rw [Array.getElem?_setIfInBounds]
    by_cases hij : i = j
    · subst hij
      have hlt : i < cur.size := by
        rcases Nat.lt_or_ge i cur.size with h | h
        · exact h
        · rw [Array.getElem?_eq_none h] at hy; cases hy
      exact ⟨x, h0, h1, by simp [hlt]⟩
    · exact ⟨y, y0, y1, by simp [hij, hy]⟩
  · exact ⟨hb, cur, hk.set_other (fun e => he e.symm), hc⟩
/-- the slices vs lie in blocks of bytes from base on -/
def Soft (w : World) (base : Nat) (vs : List Value) : Prop := ∀ v ∈ vs, ∃ A m c, v = .slice A m c ∧ (0 < m → ∃ g, A = some ⟨g, 0, none⟩ ∧ Bytes8 w base g m)
theorem Soft.set_ {w : World} {base g i : Nat} {vs : List Value} {x : Int} (h : Soft w base vs) (h0 : 0 ≤ x) (h1 : x < 256) : Soft (w.setCell ⟨g, i, none⟩ (.int .u8 x)) base vs := by
  intro v hv
  obtain ⟨A, m, c, e, hm⟩ := h v hv
  exact ⟨A, m, c, e, fun h => by obtain ⟨g', e', hb⟩ := hm h; exact ⟨g', e', hb.set_ h0 h1⟩⟩
theorem soft_own {W w : World} {A : Option Addr} {m c : Nat} {l : List Nat} (h : OwnB W w A m c l) (hby : ∀ x ∈ l, x < 256) : 0 < m → ∃ g, A = some ⟨g, 0, none⟩ ∧ Bytes8 w W.heap.size g m := by
  intro hm
  have hl := own_len h
  obtain ⟨g, rfl, hg1, hg2⟩ := own_addr h hm
  rcases own_blk h with ⟨h1, _⟩ | ⟨g', cur, h1, _, hk⟩
  · cases h1
  · injection h1 with h1; injection h1 with h1; subst h1
    refine ⟨g, rfl, hg1, cur, hk, fun j hj => ?_⟩
    have hc := own_byte h hj
    rw [hk.cell] at hc
    refine ⟨_, by omega, ?_, hc⟩
    have h3 : l.getD j 0 < 256 := by
      rw [List.getD_eq_getElem?_getD, List.getElem?_eq_getElem (by omega)]
      exact hby _ (List.getElem_mem _)
    omega
theorem Soft.nil (w : World) (base : Nat) : Soft w base [] := fun v h => by cases h
theorem Soft.cons {w : World} {base m c : Nat} {A : Option Addr} {vs : List Value} (h : Soft w base vs) (hm : 0 < m → ∃ g, A = some ⟨g, 0, none⟩ ∧ Bytes8 w base g m) : Soft w base (.slice A m c :: vs) := by
  intro v hv
  rcases List.mem_cons.1 hv with rfl | hv
  · exact ⟨A, m, c, rfl, hm⟩
  · exact h v hv
theorem Owns.soft {W w : World} {vs : List Value} {qs : List (List Nat)} (h : Owns W w vs qs) (hby : BytesL qs) : Soft w W.heap.size vs := by
  intro v hv
  obtain ⟨i, hi, e⟩ := List.getElem_of_mem hv
  have hi2 : i < qs.length := by rw [← h.len]; exact hi
  obtain ⟨A, c, e2, ho⟩ := h.cell i qs[i] (List.getElem?_eq_getElem hi2)
  rw [List.getElem?_eq_getElem hi] at e2
  injection e2 with e2
  exact ⟨A, _, c, by rw [← e, e2], soft_own ho (hby _ (List.getElem_mem _))⟩
/-- what a walk asks of one byte -/
theorem Bytes8.at {w : World} {base g m j : Nat} (h : Bytes8 w base g m) (hj : j < m) : base ≤ g ∧ w.frozen? ⟨g, j, none⟩ = false ∧ ∃ x : Int, 0 ≤ x ∧ x < 256 ∧ w.cell? ⟨g, j, none⟩ = some (.int .u8 x) := by
  obtain ⟨hb, cur, hk, hc⟩ := h
  obtain ⟨x, h0, h1, e⟩ := hc j hj
  exact ⟨hb, hk.frozen j, x, h0, h1, (hk.cell j).trans e⟩
theorem Bytes8.apart {w : World} {base g m b : Nat} {t : TypeId} {cs : Array Value} (h : Bytes8 w base g m) (hb : Blk w b t cs) (hne : 5 ≠ t) : g ≠ b := by
  obtain ⟨_, cur, hk, _⟩ := h
  exact hk.apart hb hne
theorem Bytes8.below {w w' : World} {base g m : Nat} (h : Bytes8 w base g m) (hb : Below w.heap.size w w') : Bytes8 w' base g m := by
  obtain ⟨h1, cur, hk, hc⟩ := h
  exact ⟨h1, cur, hk.below hb, hc⟩
theorem Soft.below {w w' : World} {base : Nat} {vs : List Value} (h : Soft w base vs) (hb : Below w.heap.size w w') : Soft w' base vs := by
  intro v hv
  obtain ⟨A, m, c, e, hm⟩ := h v hv
  exact ⟨A, m, c, e, fun h => by obtain ⟨g', e', hb'⟩ := hm h; exact ⟨g', e', hb'.below hb⟩⟩
/-- three stores into a block of a result -/
theorem Bytes8.set_t {w : World} {base g m b i : Nat} {t : TypeId} {cs : Array Value} {u : Value} (h : Bytes8 w base g m) (hb : Blk w b t cs) (hne : 5 ≠ t) : Bytes8 (w.setCell ⟨b, i, none⟩ u) base g m := by
  have := h.apart hb hne
  obtain ⟨h1, cur, hk, hc⟩ := h
  exact ⟨h1, cur, hk.set_other this, hc⟩
/-- the row of slices itself, over a byte that is turned -/
theorem own_set_b {w : World} {base size n base' g m i : Nat} {e : TypeId} {v u : Value} {xs : List Value} (h : w.ownsRow base e size v n xs) (hb : Bytes8 w base' g m) (hne : e ≠ 5) : (w.setCell ⟨g, i, none⟩ u).ownsRow base e size v n xs := by
  obtain ⟨_, cur, hk, _⟩ := hb
  exact own_set_t h hk hne
end Go.Proofs.Ytclbhcbeocapgaa
