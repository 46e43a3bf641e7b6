/- ViewCode -/
import Derived.Test.YtjindkeojhihdaaVT14
namespace Go.Proofs.Ytjindkeojhihdaa
open Go.RowKit
set_option linter.unusedVariables false
theorem vheld_any (w : World) (n l m : Int) (h : In64 n) (hl : In64 l) (hm : In64 m) :
    Calls Try.prog 32 #[.int .i64 n, .int .i64 l, .int .i64 m] w fun e w' => e = .returned (.int .i64 (min (max n l) m)) ∧ w = w' := by
  obtain ⟨h1, h2⟩ := h; obtain ⟨l1, l2⟩ := hl; obtain ⟨m1, m2⟩ := hm
  go_enter Try.func32, Try.ntmps32
  go_wp2
  all_goals (go_ret; exact ⟨ret_int (by omega), rfl⟩)
theorem vnode_any (w : World) (n : Int) (h : In64 n) :
    Calls Try.prog 31 #[.int .i64 n] w fun e w' => e = .returned (.int .i64 (min (max n 0) 6)) ∧ w = w' := by
  go_enter Try.func31, Try.ntmps31
  go_wp2_with (first | (go_at_call 32; refine (vheld_any w n 0 6 h ⟨by decide, by decide⟩ ⟨by decide, by decide⟩).mono ?_; rintro e w1 ⟨rfl, rfl⟩) | fail)
  all_goals (go_ret; exact ⟨rfl, rfl⟩)
theorem vnodes_any (w : World) (n : Int) (h : In64 n) :
    Calls Try.prog 26 #[.int .i64 n] w fun e w' => e = .returned (.int .i64 ((Vw.size n : Nat) : Int)) ∧ w = w' := by
  go_enter Try.func26, Try.ntmps26
  go_wp2_with (first | (go_at_call 32; refine (vheld_any w n 1 7 h ⟨by decide, by decide⟩ ⟨by decide, by decide⟩).mono ?_; rintro e w1 ⟨rfl, rfl⟩) | fail)
  all_goals (go_ret; exact ⟨ret_int (by unfold Vw.size; omega), rfl⟩)
theorem vhas_any (w : World) (m : Int) (k : Nat) (h : In64 m) (hk : k ≤ 7) :
    Calls Try.prog 29 #[.int .i64 m, .int .i64 (k : Int)] w fun e w' => e = .returned (.bool (Vw.bit m k)) ∧ w = w' := by
  obtain ⟨h1, h2⟩ := h
  have ha : bits .and .i64 (m / 2 ^ k) 1 = m / 2 ^ k % 2 := and_1 _
  go_enter Try.func29, Try.ntmps29
  go_wp2
  all_goals (go_ret; exact ⟨ret_bool (by simp [Vw.bit]; rfl), rfl⟩)
theorem next14 : NextC14 := by
  intro w p v hp hv
  have hp' := hp; have hv' := hv
  obtain ⟨h1, h2⟩ := hp; obtain ⟨h3, h4⟩ := hv
  go_enter Try.func13, Try.ntmps13
  go_wp2_with (first | (go_at_call 32; refine (vheld_any w p 0 549755813888 hp' ⟨by decide, by decide⟩ ⟨by decide, by decide⟩).mono ?_; rintro e w1 ⟨rfl, rfl⟩) | (go_at_call 31; refine (vnode_any w v hv').mono ?_; rintro e w1 ⟨rfl, rfl⟩) | fail)
  all_goals (go_ret; exact ⟨ret_int (by unfold Vw.next; omega), Below.refl _ _⟩)
theorem who14 : WhoC14 := by
  intro w v hv
  obtain ⟨h3, h4⟩ := hv
  go_enter Try.func15, Try.ntmps15
  go_wp2
  all_goals (go_ret; exact ⟨ret_int (by unfold Vw.who; omega), Below.refl _ _⟩)
theorem limit14 : LimitC14 := by
  intro w v hv
  go_enter Try.func12, Try.ntmps12
  go_wp2_with (first | (go_at_call 31; refine (vnode_any w v hv).mono ?_; rintro e w1 ⟨rfl, rfl⟩) | fail)
  all_goals (go_ret; exact ⟨ret_int (by unfold Vw.limit; omega), Below.refl _ _⟩)
end Go.Proofs.Ytjindkeojhihdaa

