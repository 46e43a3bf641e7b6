/- ViewOnes -/
import Derived.Test.YtneehnoolhadbaaGP08
namespace Go.Proofs.Ytneehnoolhadbaa
open Go.RowKit
set_option linter.unusedVariables false
set_option maxRecDepth 100000 in
theorem ones64_any (w : World) (t : Nat) (h : t < 128) :
    Calls Try.prog 52 #[.int .u64 (t : Int)] w fun e w' => e = .returned (.int .i64 ((Vw.members (t : Int)).length : Int)) ∧ w = w' := by
  go_enter Try.func52, Try.ntmps52
  go_wp2
  all_goals (go_ret; refine ⟨ret_int ?_, rfl⟩)
  clear w
  revert t
  decide +kernel
theorem ones_any (w : World) (t : Nat) (h : t < 128) :
    Calls Try.prog 49 #[.int .u64 (t : Int)] w fun e w' => e = .returned (.int .i64 ((Vw.members (t : Int)).length : Int)) ∧ w = w' := by
  go_enter Try.func49, Try.ntmps49
  go_wp2_with (first | (go_at_call 52; refine (ones64_any w t h).mono ?_; rintro e w1 ⟨rfl, rfl⟩) | fail)
  all_goals (go_ret; exact ⟨rfl, rfl⟩)
theorem Vw.small_of {m : Int} {s : Nat} (hs : s ≤ 7) (h : m / 2 ^ s = 0) : ∃ t : Nat, m = (t : Int) ∧ t < 128 := by
  have h7 : (2 : Int) ^ s ≤ 128 := by
    have : 2 ^ s ≤ 2 ^ 7 := Nat.pow_le_pow_right (by decide) hs
    have h2 : ((2 ^ s : Nat) : Int) ≤ ((2 ^ 7 : Nat) : Int) := by exact_mod_cast this
    simpa using h2
  have hp : (0 : Int) < 2 ^ s := Int.pow_pos (by decide)
  have h0 : 0 ≤ m := by
    rcases Int.lt_or_le m 0 with hm | hm
    · have := Int.ediv_neg_of_neg_of_pos hm hp
      omega
    · exact hm
  have h1 : m < 2 ^ s := by
    rcases Int.lt_or_le m (2 ^ s) with hm | hm
    · exact hm
    · have := (Int.le_ediv_iff_mul_le hp).2 (show 1 * 2 ^ s ≤ m by omega)
      omega
  exact ⟨m.toNat, by omega, by omega⟩
set_option maxRecDepth 100000 in
theorem most14 (hnodes : ∀ (w : World) (n : Int), In64 n → Calls Try.prog 42 #[.int .i64 n] w fun e w' => e = .returned (.int .i64 ((Vw.size n : Nat) : Int)) ∧ w = w') : MostC14 := by
  intro w m n hm hn
  have hm' := hm
  obtain ⟨m1, m2⟩ := hm
  obtain ⟨s, hs⟩ : ∃ s, Vw.size n = s := ⟨_, rfl⟩
  have hs7 : 1 ≤ s ∧ s ≤ 7 := by have := Vw.size_bound n; omega
  have HN := hnodes w n hn
  rw [hs] at HN
  obtain ⟨k, hk⟩ : ∃ k, (Vw.members m).length = k := ⟨_, rfl⟩
  have hk7 : k ≤ 7 := by have := Vw.members_len m; omega
  have HE : Vw.most m n = (decide (m / 2 ^ s = 0) && decide (s < 2 * k)) := by unfold Vw.most; rw [hk, hs]
  rw [HE]
  clear HE hs
  obtain ⟨h1, h7⟩ := hs7
  rcases Int.decEq (m / 2 ^ s) 0 with hz | hz
  · have HZ := Lib.hid hz
    go_enter Try.func45, Try.ntmps45
    go_wp2_with (first | (go_at_call 42; refine HN.mono ?_; rintro e w1 ⟨rfl, rfl⟩) | fail)
    all_goals (go_ret; exact ⟨ret_bool (by simp [HZ.out]), Below.refl _ _⟩)
  · obtain ⟨t, rfl, ht⟩ := Vw.small_of h7 hz
    have HO := ones_any w t ht
    rw [hk] at HO
    have HZ := Lib.hid hz
    have hw : IntKind.u64.wrap (t : Int) = (t : Int) := IntWalk.u64_in _ (by omega)
    go_enter Try.func45, Try.ntmps45
    go_wp2_with (first | (go_at_call 42; refine HN.mono ?_; rintro e w1 ⟨rfl, rfl⟩) | (go_at_call 49; refine HO.mono ?_; rintro e w1 ⟨rfl, rfl⟩) | fail)
    all_goals (go_ret; exact ⟨ret_bool (by simp [HZ.out]; omega), Below.refl _ _⟩)
end Go.Proofs.Ytneehnoolhadbaa

