/- ViewCode -/
import Derived.Test.YtneehnoolhadbaaGP08
namespace Go.Proofs.Ytneehnoolhadbaa
open Go.RowKit
set_option linter.unusedVariables false
theorem vheld_any (w : World) (n l m : Int) (h : In64 n) (hl : In64 l) (hm : In64 m) :
    Calls Try.prog 47 #[.int .i64 n, .int .i64 l, .int .i64 m] w fun e w' => e = .returned (.int .i64 (min (max n l) m)) ∧ w = w' := by
  obtain ⟨h1, h2⟩ := h; obtain ⟨l1, l2⟩ := hl; obtain ⟨m1, m2⟩ := hm
  go_enter Try.func47, Try.ntmps47
  go_wp2
  all_goals (go_ret; exact ⟨ret_int (by omega), rfl⟩)
theorem vnodes_any (w : World) (n : Int) (h : In64 n) :
    Calls Try.prog 42 #[.int .i64 n] w fun e w' => e = .returned (.int .i64 ((Vw.size n : Nat) : Int)) ∧ w = w' := by
  go_enter Try.func42, Try.ntmps42
  go_wp2_with (first | (go_at_call 47; refine (vheld_any w n 1 7 h ⟨by decide, by decide⟩ ⟨by decide, by decide⟩).mono ?_; rintro e w1 ⟨rfl, rfl⟩) | fail)
  all_goals (go_ret; exact ⟨ret_int (by unfold Vw.size; omega), rfl⟩)
theorem vhas_any (w : World) (m : Int) (k : Nat) (h : In64 m) (hk : k ≤ 7) :
    Calls Try.prog 40 #[.int .i64 m, .int .i64 (k : Int)] w fun e w' => e = .returned (.bool (Vw.bit m k)) ∧ w = w' := by
  obtain ⟨h1, h2⟩ := h
  have ha : bits .and .i64 (m / 2 ^ k) 1 = m / 2 ^ k % 2 := and_1 _
  go_enter Try.func40, Try.ntmps40
  go_wp2
  all_goals (go_ret; exact ⟨ret_bool (by simp [Vw.bit]; rfl), rfl⟩)
end Go.Proofs.Ytneehnoolhadbaa

