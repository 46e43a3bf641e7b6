/- QKit Ref4Kit -/
import Derived.Test.YtmekamgohonffaaBF02
import Derived.Deep.Matrix
namespace Go.Proofs.Ytmekamgohonffaa
open Go.RowKit
set_option linter.unusedVariables false

/-- the slices vs read as the rows qs, in blocks below B -/
structure Cells (w : World) (B : Nat) (vs : List Value) (qs : List (List Nat)) : Prop where
  len : vs.length = qs.length
  cell : ∀ (i : Nat) (l : List Nat), qs[i]? = some l → ∃ A c, vs[i]? = some (.slice A l.length c) ∧ Rd w B A l.length (bv l)
/-- a row of rows of bytes -/
def RdQ (w : World) (B : Nat) (A : Option Addr) (n : Nat) (qs : List (List Nat)) : Prop := ∃ vs, Rd w B A n vs ∧ Cells w B vs qs
/-- bytes -/
def BytesL (qs : List (List Nat)) : Prop := ∀ l ∈ qs, ∀ x ∈ l, x < 256
section
variable {w w' : World} {B B' n : Nat} {A : Option Addr} {vs : List Value} {qs : List (List Nat)}
theorem Cells.keep (h : Cells w B vs qs) (hk : ∀ p : Addr, p.block < B → w'.cell? p = w.cell? p) (hB : B ≤ B') : Cells w' B' vs qs :=
  ⟨h.len, fun i l hl => by obtain ⟨A, c, e, hr⟩ := h.cell i l hl; exact ⟨A, c, e, hr.keep hk hB⟩⟩
theorem Cells.below (h : Cells w B vs qs) (hb : Below B w w') : Cells w' B vs qs := h.keep (fun _ hp => hb.cell hp) (Nat.le_refl _)
theorem Cells.fit (h : Cells w B vs qs) : Cells w w.heap.size vs qs :=
  ⟨h.len, fun i l hl => by obtain ⟨A, c, e, hr⟩ := h.cell i l hl; exact ⟨A, c, e, hr.fit⟩⟩
theorem RdQ.below (h : RdQ w B A n qs) (hb : Below B w w') : RdQ w' B A n qs := by obtain ⟨vs, h1, h2⟩ := h; exact ⟨vs, h1.below hb, h2.below hb⟩
theorem RdQ.fit (h : RdQ w B A n qs) : RdQ w w.heap.size A n qs := by obtain ⟨vs, h1, h2⟩ := h; exact ⟨vs, h1.fit, h2.fit⟩
theorem RdQ.length (h : RdQ w B A n qs) : qs.length = n := by obtain ⟨vs, h1, h2⟩ := h; rw [← h2.len]; exact h1.1
/-- one row of it -/
theorem RdQ.at {k : Nat} (h : RdQ w B A n qs) (hk : k < n) : ∃ b o l A' c, A = some ⟨b, o, none⟩ ∧ qs[k]? = some l ∧ w.cell? ⟨b, o + k, none⟩ = some (.slice A' l.length c) ∧ Rd w B A' l.length (bv l) := by
  obtain ⟨vs, h1, h2⟩ := h
  obtain ⟨b, o, e, _, hc⟩ := h1.2 (by omega)
  have hl : k < qs.length := by rw [← h2.len, h1.1]; exact hk
  obtain ⟨A', c, e2, hr⟩ := h2.cell k qs[k] (List.getElem?_eq_getElem hl)
  exact ⟨b, o, qs[k], A', c, e, List.getElem?_eq_getElem hl, by rw [hc k hk, e2], hr⟩
end
theorem cellQ : CellT Try.prog 28 22 (.slice none 0 0) 24 := ⟨Try.underlying28, by kernel_rfl, rfl⟩
/-- a row of the call's own over what grows a row of another type -/
theorem own_grown_t {w w' : World} {base base' size size' n n' c' : Nat} {e e' : TypeId} {v : Value} {A' : Option Addr} {xs xs' : List Value} (h : w.ownsRow base e size v n xs) (ho : w.ownsRow base' e' size' (.slice A' n' c') n' xs') (hne : e ≠ e')
    (hg : w.grownBy w' (Value.slice A' n' c').ownBlock) : w'.ownsRow base e size v n xs := by
  refine h.kept hg ?_
  rcases h.2 with ⟨h1, _⟩ | ⟨g, cap, cur, h1, _, hh, _⟩
  · rw [h1]; exact .inl rfl
  · rw [h1]
    refine .inr ?_
    rcases own_blk ho with ⟨h2, _, _⟩ | ⟨g', cur', h2, _, hk'⟩
    · rw [h2]; intro h0; cases h0
    · rw [h2]
      intro h0
      have h3 : g = g' := by simpa [Value.ownBlock] using h0
      exact Blk.apart hh hk' hne h3
/-- the slices vs are rows of W's own, which read as qs -/
structure Owns (W w : World) (vs : List Value) (qs : List (List Nat)) : Prop where
  len : vs.length = qs.length
  cell : ∀ (i : Nat) (l : List Nat), qs[i]? = some l → ∃ A c, vs[i]? = some (.slice A l.length c) ∧ OwnB W w A l.length c l
theorem Owns.cells {W w : World} {vs : List Value} {qs : List (List Nat)} (h : Owns W w vs qs) : Cells w w.heap.size vs qs :=
  ⟨h.len, fun i l hl => by obtain ⟨A, c, e, ho⟩ := h.cell i l hl; exact ⟨A, c, e, Rd.own_ ho⟩⟩
theorem Owns.below {W w w' : World} {vs : List Value} {qs : List (List Nat)} (h : Owns W w vs qs) (hb : Below w.heap.size w w') : Owns W w' vs qs :=
  ⟨h.len, fun i l hl => by obtain ⟨A, c, e, ho⟩ := h.cell i l hl; exact ⟨A, c, e, own_below ho hb⟩⟩
theorem Owns.nil (W w : World) : Owns W w [] [] := ⟨rfl, fun i l h => by simp at h⟩
theorem Owns.snoc {W w : World} {vs : List Value} {qs : List (List Nat)} {A' : Option Addr} {c : Nat} {l : List Nat} (h : Owns W w vs qs) (ho : OwnB W w A' l.length c l) : Owns W w (vs ++ [.slice A' l.length c]) (qs ++ [l]) := by
  refine ⟨by simp [h.len], fun i l' hl => ?_⟩
  by_cases hi : i < qs.length
  · rw [List.getElem?_append_left hi] at hl
    obtain ⟨A, c, e, hr'⟩ := h.cell i l' hl
    exact ⟨A, c, by rw [List.getElem?_append_left (by rw [h.len]; exact hi)]; exact e, hr'⟩
  · rw [List.getElem?_append_right (by omega)] at hl
    have h0 : i - qs.length = 0 := by
      rcases Nat.eq_zero_or_pos (i - qs.length) with h0 | h0
      · exact h0
      · rw [List.getElem?_eq_none (by simp; omega)] at hl; cases hl
    rw [h0] at hl
    simp at hl
    subst hl
    refine ⟨A', c, ?_, ho⟩
    rw [List.getElem?_append_right (by rw [h.len]; omega), h.len, h0]
    rfl
theorem Owns.grown {W w w' : World} {base' size' n' c' : Nat} {A' : Option Addr} {vs xs' : List Value} {qs : List (List Nat)} (h : Owns W w vs qs) (ho : w.ownsRow base' 22 size' (.slice A' n' c') n' xs') (hg : w.grownBy w' (Value.slice A' n' c').ownBlock) : Owns W w' vs qs :=
  ⟨h.len, fun i l hl => by obtain ⟨A, c, e, hq⟩ := h.cell i l hl; exact ⟨A, c, e, own_grown_t hq ho (by decide) hg⟩⟩
/-- .. over a store into a block of another type than theirs -/
theorem Owns.set_t {W w : World} {vs : List Value} {qs : List (List Nat)} {b i : Nat} {t : TypeId} {u : Value} {cs : Array Value} (h : Owns W w vs qs) (hb : Blk w b t cs) (hne : 5 ≠ t) : Owns W (w.setCell ⟨b, i, none⟩ u) vs qs :=
  ⟨h.len, fun i l hl => by obtain ⟨A, c, e, hq⟩ := h.cell i l hl; exact ⟨A, c, e, own_set_t hq hb hne⟩⟩
/-- a row of the call's own, whose rows are the call's own, too -/
def OwnQ (W w : World) (A : Option Addr) (n c : Nat) (qs : List (List Nat)) : Prop :=
  ∃ vs, w.ownsRow W.heap.size 22 1 (.slice A n c) n vs ∧ Owns W w vs qs
theorem OwnQ.rd {W w : World} {A : Option Addr} {n c : Nat} {qs : List (List Nat)} (h : OwnQ W w A n c qs) : RdQ w w.heap.size A n qs := by
  obtain ⟨vs, h1, h2⟩ := h
  exact ⟨vs, Rd.own_ h1, h2.cells⟩
theorem OwnQ.below {W w w' : World} {A : Option Addr} {n c : Nat} {qs : List (List Nat)} (h : OwnQ W w A n c qs) (hb : Below w.heap.size w w') : OwnQ W w' A n c qs := by
  obtain ⟨vs, h1, h2⟩ := h
  exact ⟨vs, ownsRow_below h1 hb, h2.below hb⟩
theorem OwnQ.length {W w : World} {A : Option Addr} {n c : Nat} {qs : List (List Nat)} (h : OwnQ W w A n c qs) : qs.length = n := h.rd.length
theorem OwnQ.nil (W w : World) : OwnQ W w none 0 0 [] := ⟨[], ⟨rfl, .inl ⟨rfl, rfl⟩⟩, Owns.nil _ _⟩
theorem OwnQ.set_t {W w : World} {A : Option Addr} {n c b i : Nat} {t : TypeId} {u : Value} {cs : Array Value} {qs : List (List Nat)} (h : OwnQ W w A n c qs) (hb : Blk w b t cs) (h1 : 5 ≠ t) (h2 : 22 ≠ t) : OwnQ W (w.setCell ⟨b, i, none⟩ u) A n c qs := by
  obtain ⟨vs, g1, g2⟩ := h
  exact ⟨vs, own_set_t g1 hb h2, g2.set_t hb h1⟩
/-- rows that the call which began in w made are W's own, if it began behind W -/
theorem OwnQ.of {W w w' : World} {A : Option Addr} {n c : Nat} {qs : List (List Nat)} (hs : W.heap.size ≤ w.heap.size) (h : OwnQ w w' A n c qs) : OwnQ W w' A n c qs := by
  have more : ∀ {e : TypeId} {size n : Nat} {v : Value} {xs : List Value}, w'.ownsRow w.heap.size e size v n xs → w'.ownsRow W.heap.size e size v n xs := by
    rintro e size n v xs ⟨h1, h2⟩
    refine ⟨h1, ?_⟩
    rcases h2 with h2 | ⟨g, cap, cur, hv, hg, r⟩
    · exact .inl h2
    · exact .inr ⟨g, cap, cur, hv, Nat.le_trans hs hg, r⟩
  obtain ⟨vs, h1, h2⟩ := h
  exact ⟨vs, more h1, h2.len, fun i l hl => by obtain ⟨A', c', e, ho⟩ := h2.cell i l hl; exact ⟨A', c', e, more ho⟩⟩
end Go.Proofs.Ytmekamgohonffaa

namespace Go.Proofs.Ytmekamgohonffaa
open Go.RowKit
set_option linter.unusedVariables false

set_option maxRecDepth 100000 in
/-- two results alike -/
theorem sameR_any (w : World) {A A' : Option Addr} {n c n' c' B B' : Nat} {l l' : List Nat} (e e' N N' : Int) (hl : ∀ x ∈ l, x < 256) (hl' : ∀ x ∈ l', x < 256) (h : Rd w B A n (bv l)) (h' : Rd w B' A' n' (bv l')) :
    Calls Try.prog 74 #[resV e A n c N, resV e' A' n' c' N'] w fun en w' => en = .returned (.bool (decide (e = e') && decide (l = l') && decide (N = N'))) ∧ Below w.heap.size w w' := by
  have b0 : Below w.heap.size w ((w.alloc (.cells #[.int .i64 e, .slice A n c, .int .i64 N] 73)).alloc (.cells #[.int .i64 e', .slice A' n' c', .int .i64 N'] 73)) := ((Below.refl _ _).alloc (Nat.le_refl _) _).alloc (by simp) _
  have q1 := str_of (c := c) (h.fit.below b0)
  have q2 := str_of (c := c') (h'.fit.below b0)
  have q3 := strL_eq hl hl'
  clear h h' hl hl'
  unfold resV
  by_cases he : e = e'
  · subst he
    by_cases hv : l = l'
    · subst hv
      rw [decide_eq_true rfl] at q3 ⊢
      by_cases hN : N = N'
      · subst hN
        rw [decide_eq_true rfl]
        go_enter Try.func74, Try.ntmps74
        go_wp2
        go_ret
        exact ⟨rfl, b0⟩
      · rw [decide_eq_false hN]
        have h3 : (N == N') = false := by simpa using hN
        go_enter Try.func74, Try.ntmps74
        go_wp2
        go_ret
        exact ⟨rfl, b0⟩
    · rw [decide_eq_false hv] at q3 ⊢
      go_enter Try.func74, Try.ntmps74
      go_wp2
      go_ret
      exact ⟨rfl, b0⟩
  · rw [decide_eq_false he]
    have h3 : (e == e') = false := by simpa using he
    go_enter Try.func74, Try.ntmps74
    go_wp2
    go_ret
    exact ⟨rfl, b0⟩
end Go.Proofs.Ytmekamgohonffaa

