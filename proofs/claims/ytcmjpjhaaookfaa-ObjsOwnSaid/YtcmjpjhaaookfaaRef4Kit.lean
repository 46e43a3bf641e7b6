/- The document's own answers for layers 4 to 10: an error alone, two results alike. -/
import Derived.Test.YtcmjpjhaaookfaaResKit
namespace Go.Proofs.Ytcmjpjhaaookfaa
open Go.RowKit
set_option linter.unusedVariables false

theorem bad_any (w : World) (e : Int) :
    Calls Try.prog 49 #[.int .i64 e] w fun en w' => en = .returned (resV e none 0 0 0) ∧ Below w.heap.size w w' := by
  go_enter Try.func49, Try.ntmps49
  go_wp2
  refine bodyPost_ret (results_cell_row rfl _ _ _ _ _ _ _ rfl (Blk.new w 34 #[.int .i64 e, .slice none 0 0, .int .i64 0]) Try.underlying34 rfl (by kernel_rfl)) rfl ?_
  exact ⟨rfl, (Below.refl _ _).alloc (Nat.le_refl _) _⟩
set_option maxRecDepth 100000 in
/-- two results alike -/
theorem sameR_any (w : World) {A A' : Option Addr} {n c n' c' B B' : Nat} {l l' : List Nat} (e e' N N' : Int) (hl : ∀ x ∈ l, x < 256) (hl' : ∀ x ∈ l', x < 256) (h : Rd w B A n (bv l)) (h' : Rd w B' A' n' (bv l')) :
    Calls Try.prog 18 #[resV e A n c N, resV e' A' n' c' N'] w fun en w' => en = .returned (.bool (decide (e = e') && decide (l = l') && decide (N = N'))) ∧ Below w.heap.size w w' := by
  have b0 : Below w.heap.size w ((w.alloc (.cells #[.int .i64 e, .slice A n c, .int .i64 N] 34)).alloc (.cells #[.int .i64 e', .slice A' n' c', .int .i64 N'] 34)) := ((Below.refl _ _).alloc (Nat.le_refl _) _).alloc (by simp) _
  have q1 := str_of (c := c) (h.fit.below b0)
  have q2 := str_of (c := c') (h'.fit.below b0)
  have q3 := strL_eq hl hl'
  clear h h' hl hl'
  unfold resV
  by_cases he : e = e'
  · subst he
    by_cases hv : l = l'
    · subst hv
      rw [decide_eq_true rfl] at q3 ⊢
      by_cases hN : N = N'
      · subst hN
        rw [decide_eq_true rfl]
        go_enter Try.func18, Try.ntmps18
        go_wp2
        go_ret
        exact ⟨rfl, b0⟩
      · rw [decide_eq_false hN]
        have h3 : (N == N') = false := by simpa using hN
        go_enter Try.func18, Try.ntmps18
        go_wp2
        go_ret
        exact ⟨rfl, b0⟩
    · rw [decide_eq_false hv] at q3 ⊢
      go_enter Try.func18, Try.ntmps18
      go_wp2
      go_ret
      exact ⟨rfl, b0⟩
  · rw [decide_eq_false he]
    have h3 : (e == e') = false := by simpa using he
    go_enter Try.func18, Try.ntmps18
    go_wp2
    go_ret
    exact ⟨rfl, b0⟩
theorem same_is (w : World) {A A' : Option Addr} {n c n' c' B B' : Nat} {l : List Nat} (e N : Int) (hl : ∀ x ∈ l, x < 256) (h : Rd w B A n (bv l)) (h' : Rd w B' A' n' (bv l)) :
    Calls Try.prog 18 #[.agg #[.int .i64 e, .slice A n c, .int .i64 N], .agg #[.int .i64 e, .slice A' n' c', .int .i64 N]] w fun en w' => en = .returned (.bool true) ∧ Below w.heap.size w w' :=
  (sameR_any w (c := c) (c' := c') e e N N hl hl h h').mono fun en w' h => ⟨by rw [h.1]; simp, h.2⟩
end Go.Proofs.Ytcmjpjhaaookfaa
