/- QKit Ref4Kit -/
import Derived.Test.YtaknfmionkkdjaaGreatFO02
import Derived.Deep.Matrix
namespace Go.Proofs.YtaknfmionkkdjaaGreat
open Go.RowKit
set_option linter.unusedVariables false

/-- the slices vs read as the rows qs, in blocks below B -/
structure Cells (w : World) (B : Nat) (vs : List Value) (qs : List (List Nat)) : Prop where
  len : vs.length = qs.length
  cell : ∀ (i : Nat) (l : List Nat), qs[i]? = some l → ∃ A c, vs[i]? = some (.slice A l.length c) ∧ Rd w B A l.length (bv l)
/-- a row of rows of bytes -/
def RdQ (w : World) (B : Nat) (A : Option Addr) (n : Nat) (qs : List (List Nat)) : Prop := ∃ vs, Rd w B A n vs ∧ Cells w B vs qs
/-- bytes -/
def BytesL (qs : List (List Nat)) : Prop := ∀ l ∈ qs, ∀ x ∈ l, x < 256
section
variable {w w' : World} {B B' n : Nat} {A : Option Addr} {vs : List Value} {qs : List (List Nat)}
theorem Cells.keep (h : Cells w B vs qs) (hk : ∀ p : Addr, p.block < B → w'.cell? p = w.cell? p) (hB : B ≤ B') : Cells w' B' vs qs :=
  ⟨h.len, fun i l hl => by obtain ⟨A, c, e, hr⟩ := h.cell i l hl; exact ⟨A, c, e, hr.keep hk hB⟩⟩
theorem Cells.below (h : Cells w B vs qs) (hb : Below B w w') : Cells w' B vs qs := h.keep (fun _ hp => hb.cell hp) (Nat.le_refl _)
theorem Cells.fit (h : Cells w B vs qs) : Cells w w.heap.size vs qs :=
  ⟨h.len, fun i l hl => by obtain ⟨A, c, e, hr⟩ := h.cell i l hl; exact ⟨A, c, e, hr.fit⟩⟩
theorem Cells.nil (w : World) (B : Nat) : Cells w B [] [] := ⟨rfl, fun i l h => by simp at h⟩
theorem Cells.drop (h : Cells w B vs qs) (k : Nat) : Cells w B (vs.drop k) (qs.drop k) :=
  ⟨by simp [h.len], fun i l hl => by rw [List.getElem?_drop] at hl ⊢; exact h.cell _ l hl⟩
theorem Cells.one (h : Cells w B vs qs) : ∀ u ∈ vs, u.oneCell' = true := by
  intro u hu
  obtain ⟨i, hi, e⟩ := List.getElem_of_mem hu
  have hi2 : i < qs.length := by rw [← h.len]; exact hi
  obtain ⟨A, c, e2, _⟩ := h.cell i qs[i] (List.getElem?_eq_getElem hi2)
  rw [List.getElem?_eq_getElem hi] at e2
  injection e2 with e2
  rw [← e, e2]
  rfl
theorem RdQ.below (h : RdQ w B A n qs) (hb : Below B w w') : RdQ w' B A n qs := by obtain ⟨vs, h1, h2⟩ := h; exact ⟨vs, h1.below hb, h2.below hb⟩
theorem RdQ.fit (h : RdQ w B A n qs) : RdQ w w.heap.size A n qs := by obtain ⟨vs, h1, h2⟩ := h; exact ⟨vs, h1.fit, h2.fit⟩
theorem RdQ.length (h : RdQ w B A n qs) : qs.length = n := by obtain ⟨vs, h1, h2⟩ := h; rw [← h2.len]; exact h1.1
theorem RdQ.nil (w : World) (B : Nat) (A : Option Addr) : RdQ w B A 0 [] := ⟨[], Rd.none_ _ _ _, Cells.nil _ _⟩
/-- one row of it -/
theorem RdQ.at {k : Nat} (h : RdQ w B A n qs) (hk : k < n) : ∃ b o l A' c, A = some ⟨b, o, none⟩ ∧ qs[k]? = some l ∧ w.cell? ⟨b, o + k, none⟩ = some (.slice A' l.length c) ∧ Rd w B A' l.length (bv l) := by
  obtain ⟨vs, h1, h2⟩ := h
  obtain ⟨b, o, e, _, hc⟩ := h1.2 (by omega)
  have hl : k < qs.length := by rw [← h2.len, h1.1]; exact hk
  obtain ⟨A', c, e2, hr⟩ := h2.cell k qs[k] (List.getElem?_eq_getElem hl)
  exact ⟨b, o, qs[k], A', c, e, List.getElem?_eq_getElem hl, by rw [hc k hk, e2], hr⟩
theorem RdQ.drop {k c : Nat} (h : RdQ w B A n qs) (hk : k ≤ n) (hc : n ≤ c) : RdQ w B (cutAt A c k) (n - k) (qs.drop k) := by
  obtain ⟨vs, h1, h2⟩ := h
  exact ⟨vs.drop k, h1.drop hk hc, h2.drop k⟩
end
theorem cellQ : CellT Tryz.prog 27 26 (.slice none 0 0) 24 := ⟨Tryz.underlying27, by kernel_rfl, rfl⟩
/-- a row of the call's own over what grows a row of another type -/
theorem own_grown_t {w w' : World} {base base' size size' n n' c' : Nat} {e e' : TypeId} {v : Value} {A' : Option Addr} {xs xs' : List Value} (h : w.ownsRow base e size v n xs) (ho : w.ownsRow base' e' size' (.slice A' n' c') n' xs') (hne : e ≠ e')
    (hg : w.grownBy w' (Value.slice A' n' c').ownBlock) : w'.ownsRow base e size v n xs := by
  refine h.kept hg ?_
  rcases h.2 with ⟨h1, _⟩ | ⟨g, cap, cur, h1, _, hh, _⟩
  · rw [h1]; exact .inl rfl
  · rw [h1]
    refine .inr ?_
    rcases own_blk ho with ⟨h2, _, _⟩ | ⟨g', cur', h2, _, hk'⟩
    · rw [h2]; intro h0; cases h0
    · rw [h2]
      intro h0
      have h3 : g = g' := by simpa [Value.ownBlock] using h0
      exact Blk.apart hh hk' hne h3
/-- the slices vs are rows of W's own, which read as qs -/
structure Owns (W w : World) (vs : List Value) (qs : List (List Nat)) : Prop where
  len : vs.length = qs.length
  cell : ∀ (i : Nat) (l : List Nat), qs[i]? = some l → ∃ A c, vs[i]? = some (.slice A l.length c) ∧ OwnB W w A l.length c l
theorem Owns.cells {W w : World} {vs : List Value} {qs : List (List Nat)} (h : Owns W w vs qs) : Cells w w.heap.size vs qs :=
  ⟨h.len, fun i l hl => by obtain ⟨A, c, e, ho⟩ := h.cell i l hl; exact ⟨A, c, e, Rd.own_ ho⟩⟩
theorem Owns.below {W w w' : World} {vs : List Value} {qs : List (List Nat)} (h : Owns W w vs qs) (hb : Below w.heap.size w w') : Owns W w' vs qs :=
  ⟨h.len, fun i l hl => by obtain ⟨A, c, e, ho⟩ := h.cell i l hl; exact ⟨A, c, e, own_below ho hb⟩⟩
theorem Owns.nil (W w : World) : Owns W w [] [] := ⟨rfl, fun i l h => by simp at h⟩
theorem Owns.snoc {W w : World} {vs : List Value} {qs : List (List Nat)} {A' : Option Addr} {c : Nat} {l : List Nat} (h : Owns W w vs qs) (ho : OwnB W w A' l.length c l) : Owns W w (vs ++ [.slice A' l.length c]) (qs ++ [l]) := by
  refine ⟨by simp [h.len], fun i l' hl => ?_⟩
  by_cases hi : i < qs.length
  · rw [List.getElem?_append_left hi] at hl
    obtain ⟨A, c, e, hr'⟩ := h.cell i l' hl
    exact ⟨A, c, by rw [List.getElem?_append_left (by rw [h.len]; exact hi)]; exact e, hr'⟩
  · rw [List.getElem?_append_right (by omega)] at hl
    have h0 : i - qs.length = 0 := by
      rcases Nat.eq_zero_or_pos (i - qs.length) with h0 | h0
      · exact h0
      · rw [List.getElem?_eq_none (by simp; omega)] at hl; cases hl
    rw [h0] at hl
    simp at hl
    subst hl
    refine ⟨A', c, ?_, ho⟩
    rw [List.getElem?_append_right (by rw [h.len]; omega), h.len, h0]
    rfl
theorem Owns.grown {W w w' : World} {base' size' n' c' : Nat} {A' : Option Addr} {vs xs' : List Value} {qs : List (List Nat)} (h : Owns W w vs qs) (ho : w.ownsRow base' 26 size' (.slice A' n' c') n' xs') (hg : w.grownBy w' (Value.slice A' n' c').ownBlock) : Owns W w' vs qs :=
  ⟨h.len, fun i l hl => by obtain ⟨A, c, e, hq⟩ := h.cell i l hl; exact ⟨A, c, e, own_grown_t hq ho (by decide) hg⟩⟩
/-- .. over a store into a block of another type than theirs -/
theorem Owns.set_t {W w : World} {vs : List Value} {qs : List (List Nat)} {b i : Nat} {t : TypeId} {u : Value} {cs : Array Value} (h : Owns W w vs qs) (hb : Blk w b t cs) (hne : 5 ≠ t) : Owns W (w.setCell ⟨b, i, none⟩ u) vs qs :=
  ⟨h.len, fun i l hl => by obtain ⟨A, c, e, hq⟩ := h.cell i l hl; exact ⟨A, c, e, own_set_t hq hb hne⟩⟩
theorem Owns.one {W w : World} {vs : List Value} {qs : List (List Nat)} (h : Owns W w vs qs) : ∀ u ∈ vs, u.oneCell' = true := h.cells.one
/-- a row of the call's own, whose rows are the call's own, too -/
def OwnQ (W w : World) (A : Option Addr) (n c : Nat) (qs : List (List Nat)) : Prop :=
  ∃ vs, w.ownsRow W.heap.size 26 1 (.slice A n c) n vs ∧ Owns W w vs qs
theorem OwnQ.rd {W w : World} {A : Option Addr} {n c : Nat} {qs : List (List Nat)} (h : OwnQ W w A n c qs) : RdQ w w.heap.size A n qs := by
  obtain ⟨vs, h1, h2⟩ := h
  exact ⟨vs, Rd.own_ h1, h2.cells⟩
theorem OwnQ.below {W w w' : World} {A : Option Addr} {n c : Nat} {qs : List (List Nat)} (h : OwnQ W w A n c qs) (hb : Below w.heap.size w w') : OwnQ W w' A n c qs := by
  obtain ⟨vs, h1, h2⟩ := h
  exact ⟨vs, ownsRow_below h1 hb, h2.below hb⟩
theorem OwnQ.nil (W w : World) : OwnQ W w none 0 0 [] := ⟨[], ⟨rfl, .inl ⟨rfl, rfl⟩⟩, Owns.nil _ _⟩
theorem OwnQ.set_t {W w : World} {A : Option Addr} {n c b i : Nat} {t : TypeId} {u : Value} {cs : Array Value} {qs : List (List Nat)} (h : OwnQ W w A n c qs) (hb : Blk w b t cs) (h1 : 5 ≠ t) (h2 : 26 ≠ t) : OwnQ W (w.setCell ⟨b, i, none⟩ u) A n c qs := by
  obtain ⟨vs, g1, g2⟩ := h
  exact ⟨vs, own_set_t g1 hb h2, g2.set_t hb h1⟩
/-- three stores into a block of three cells -/
theorem OwnQ.put3 {W w : World} {A : Option Addr} {n c b : Nat} {t : TypeId} {x0 y0 z0 : Value} {qs : List (List Nat)} (h : OwnQ W w A n c qs) (hb : Blk w b t #[x0, y0, z0]) (h1 : 5 ≠ t) (h2 : 26 ≠ t) (x y z : Value) :
    OwnQ W (((w.setCell ⟨b, 0, none⟩ x).setCell ⟨b, 1, none⟩ y).setCell ⟨b, 2, none⟩ z) A n c qs :=
  ((h.set_t hb h1 h2).set_t (hb.set_ 0 x) h1 h2).set_t ((hb.set_ 0 x).set_ 1 y) h1 h2
/-- rows that the call which began in w made are W's own, if it began behind W -/
theorem OwnQ.of {W w w' : World} {A : Option Addr} {n c : Nat} {qs : List (List Nat)} (hs : W.heap.size ≤ w.heap.size) (h : OwnQ w w' A n c qs) : OwnQ W w' A n c qs := by
  have more : ∀ {e : TypeId} {size n : Nat} {v : Value} {xs : List Value}, w'.ownsRow w.heap.size e size v n xs → w'.ownsRow W.heap.size e size v n xs := by
    rintro e size n v xs ⟨h1, h2⟩
    refine ⟨h1, ?_⟩
    rcases h2 with h2 | ⟨g, cap, cur, hv, hg, r⟩
    · exact .inl h2
    · exact .inr ⟨g, cap, cur, hv, Nat.le_trans hs hg, r⟩
  obtain ⟨vs, h1, h2⟩ := h
  exact ⟨vs, more h1, h2.len, fun i l hl => by obtain ⟨A', c', e, ho⟩ := h2.cell i l hl; exact ⟨A', c', e, more ho⟩⟩
/-- the call began in W; from w on it answered rows in memory of W's own -/
def GotQ (W w : World) (qs : List (List Nat)) (e : Ending) (w' : World) : Prop := ∃ A c, e = .returned (.slice A qs.length c) ∧ OwnQ W w' A qs.length c qs ∧ Below W.heap.size W w' ∧ Below w.heap.size w w'
theorem GotQ.of {W w w' : World} {qs : List (List Nat)} {e : Ending} (hB : Below W.heap.size W w) (h : GotQ w w qs e w') : GotQ W w qs e w' := by
  obtain ⟨A, c, h1, h2, h3, h4⟩ := h
  exact ⟨A, c, h1, h2.of hB.size, hB.trans (h3.mono hB.size), h4⟩
/-- rows and a result, both W's own -/
def GotQR (W w : World) (qs : List (List Nat)) (e : Int) (l : List Nat) (N : Int) (en : Ending) (w' : World) : Prop :=
  ∃ A c A' c', en = .returned (.tuple #[.slice A qs.length c, resV e A' l.length c' N]) ∧ OwnQ W w' A qs.length c qs ∧ OwnB W w' A' l.length c' l ∧ Below W.heap.size W w' ∧ Below w.heap.size w w'
theorem GotQR.of {W w w' : World} {qs : List (List Nat)} {e : Int} {l : List Nat} {N : Int} {en : Ending} (hB : Below W.heap.size W w) (h : GotQR w w qs e l N en w') : GotQR W w qs e l N en w' := by
  obtain ⟨A, c, A', c', h1, h2, h3, h4, h5⟩ := h
  refine ⟨A, c, A', c', h1, h2.of hB.size, ?_, hB.trans (h4.mono hB.size), h5⟩
  obtain ⟨g1, g2⟩ := h3
  refine ⟨g1, ?_⟩
  rcases g2 with g2 | ⟨g, cap, cur, hv, hg, r⟩
  · exact .inl g2
  · exact .inr ⟨g, cap, cur, hv, Nat.le_trans hB.size hg, r⟩
end Go.Proofs.YtaknfmionkkdjaaGreat

namespace Go.Proofs.YtaknfmionkkdjaaGreat
open Go.RowKit
set_option linter.unusedVariables false

theorem bad_any (w : World) (e : Int) :
    Calls Tryz.prog 69 #[.int .i64 e] w fun en w' => en = .returned (resV e none 0 0 0) ∧ Below w.heap.size w w' := by
  go_enter Tryz.func69, Tryz.ntmps69
  go_wp2
  refine bodyPost_ret (results_cell_row rfl _ _ _ _ _ _ _ rfl (Blk.new w 47 #[.int .i64 e, .slice none 0 0, .int .i64 0]) Tryz.underlying47 rfl (by kernel_rfl)) rfl ?_
  exact ⟨rfl, (Below.refl _ _).alloc (Nat.le_refl _) _⟩
set_option maxRecDepth 100000 in
/-- two results alike -/
theorem sameR_any (w : World) {A A' : Option Addr} {n c n' c' B B' : Nat} {l l' : List Nat} (e e' N N' : Int) (hl : ∀ x ∈ l, x < 256) (hl' : ∀ x ∈ l', x < 256) (h : Rd w B A n (bv l)) (h' : Rd w B' A' n' (bv l')) :
    Calls Tryz.prog 32 #[resV e A n c N, resV e' A' n' c' N'] w fun en w' => en = .returned (.bool (decide (e = e') && decide (l = l') && decide (N = N'))) ∧ Below w.heap.size w w' := by
  have b0 : Below w.heap.size w ((w.alloc (.cells #[.int .i64 e, .slice A n c, .int .i64 N] 47)).alloc (.cells #[.int .i64 e', .slice A' n' c', .int .i64 N'] 47)) := ((Below.refl _ _).alloc (Nat.le_refl _) _).alloc (by simp) _
  have q1 := str_of (c := c) (h.fit.below b0)
  have q2 := str_of (c := c') (h'.fit.below b0)
  have q3 := strL_eq hl hl'
  clear h h' hl hl'
  unfold resV
  by_cases he : e = e'
  · subst he
    by_cases hv : l = l'
    · subst hv
      rw [decide_eq_true rfl] at q3 ⊢
      by_cases hN : N = N'
      · subst hN
        rw [decide_eq_true rfl]
        go_enter Tryz.func32, Tryz.ntmps32
        go_wp2
        go_ret
        exact ⟨rfl, b0⟩
      · rw [decide_eq_false hN]
        have h3 : (N == N') = false := by simpa using hN
        go_enter Tryz.func32, Tryz.ntmps32
        go_wp2
        go_ret
        exact ⟨rfl, b0⟩
    · rw [decide_eq_false hv] at q3 ⊢
      go_enter Tryz.func32, Tryz.ntmps32
      go_wp2
      go_ret
      exact ⟨rfl, b0⟩
  · rw [decide_eq_false he]
    have h3 : (e == e') = false := by simpa using he
    go_enter Tryz.func32, Tryz.ntmps32
    go_wp2
    go_ret
    exact ⟨rfl, b0⟩
theorem same_is (w : World) {A A' : Option Addr} {n c n' c' B B' : Nat} {l : List Nat} (e N : Int) (hl : ∀ x ∈ l, x < 256) (h : Rd w B A n (bv l)) (h' : Rd w B' A' n' (bv l)) :
    Calls Tryz.prog 32 #[.agg #[.int .i64 e, .slice A n c, .int .i64 N], .agg #[.int .i64 e, .slice A' n' c', .int .i64 N]] w fun en w' => en = .returned (.bool true) ∧ Below w.heap.size w w' :=
  (sameR_any w (c := c) (c' := c') e e N N hl hl h h').mono fun en w' h => ⟨by rw [h.1]; simp, h.2⟩
end Go.Proofs.YtaknfmionkkdjaaGreat

