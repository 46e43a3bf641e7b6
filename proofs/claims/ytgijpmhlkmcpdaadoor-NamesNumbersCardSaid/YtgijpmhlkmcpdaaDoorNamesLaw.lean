/- NamesNumbers: the law's walk. -/
import Derived.Test.YtgijpmhlkmcpdaaDoorNamesWalk
import Derived.Deep.QuietTactic
import Derived.BigQuiet
namespace Go.Proofs.YtgijpmhlkmcpdaaDoor
open Go.RowKit
set_option linter.unusedVariables false

def pairAt (k : Nat) : Bool := match cells[k * 2]?, cells[k * 2 + 1]? with
  | some (.int .i64 a), some (.int .i64 b) => a == b
  | _, _ => false
theorem pairs_all : (List.range 64).all pairAt = true := by decide +kernel
theorem pair_at {k : Nat} (h : k < 64) : ∃ v : Int, cells[k * 2]? = some (.int .i64 v) ∧ cells[k * 2 + 1]? = some (.int .i64 v) := by
  have h1 := List.all_eq_true.1 pairs_all k (List.mem_range.2 h)
  unfold pairAt at h1
  split at h1
  · rename_i a b e1 e2
    obtain rfl : a = b := beq_iff_eq.1 h1
    exact ⟨a, e1, e2⟩
  · cases h1
theorem format_13 (w : World) : Calls Tryd.prog 11 #[.int .i64 13, .int .i64 10] w fun e w' => e = .returned (.string ⟨#[49, 51]⟩) ∧ w = w' := by
  go_enter Tryd.func11, Tryd.ntmps11
  go_wp2_with (go_at_call 12; refine (small_13 _).mono ?_; rintro e w1 ⟨rfl, rfl⟩)
  go_ret
  exact ⟨rfl, rfl⟩
theorem itoa1_13 (w : World) : Calls Tryd.prog 9 #[.int .i64 13] w fun e w' => e = .returned (.string ⟨#[49, 51]⟩) ∧ w = w' := by
  go_enter Tryd.func9, Tryd.ntmps9
  go_wp2_with (go_at_call 11; refine (format_13 _).mono ?_; rintro e w1 ⟨rfl, rfl⟩)
  go_ret
  exact ⟨rfl, rfl⟩
theorem itoa_13 (w : World) : Calls Tryd.prog 7 #[.int .i64 13] w fun e w' => e = .returned (.string ⟨#[49, 51]⟩) ∧ w = w' := by
  go_enter Tryd.func7, Tryd.ntmps7
  go_wp2_with (go_at_call 9; refine (itoa1_13 _).mono ?_; rintro e w1 ⟨rfl, rfl⟩)
  go_ret
  exact ⟨rfl, rfl⟩
theorem err_13 (w : World) : Calls Tryd.prog 5 #[.int .i64 13] w fun e w' => e = .returned (.string ⟨#[101, 114, 114, 111, 114, 32, 49, 51]⟩) ∧ w = w' := by
  go_enter Tryd.func5, Tryd.ntmps5
  go_wp2_with (go_at_call 7; refine (itoa_13 _).mono ?_; rintro e w1 ⟨rfl, rfl⟩)
  go_ret
  exact ⟨by kernel_rfl, rfl⟩

set_option maxHeartbeats 1000000 in
theorem names_walk (w : World) : Calls Tryd.prog 3 #[] w fun e w' => e = .returned (.bool true) ∧ Below w.heap.size w w' := by
  have kc := fun (w : World) (C : Array Value) (n c : Nat) => Lib.run_convert_bytes_const (P := Tryd.prog) w 30 5 C n c Tryd.underlying30 Tryd.underlying5
  go_enter Tryd.func3, Tryd.ntmps3
  go_wp2_with (go_at_call 4; refine (all_any _).mono ?_; rintro e w1 ⟨rfl, hw1⟩)
  have hB1 : Below w.heap.size w w1 := hw1 ▸ (Below.refl _ _).alloc (Nat.le_refl _) _
  have hc1 : ∀ j, w1.cell? ⟨w.heap.size, j, none⟩ = cells[j]? := fun j => hw1 ▸ World.cell?_alloc_mark w cells _ _ j
  have HC := Lib.hid hc1
  clear hw1 hc1
  go_loopw [2] (fun i wr => ∃ k m : Nat, k ≤ 64 ∧ i = .int .i64 k ∧ wr = w1.drewN m) (fun i _ => 64 - (intOf i).toNat)
  case atStart => exact ⟨0, 0, by omega, rfl, rfl⟩
  case round =>
    obtain ⟨k, m, hk, rfl, rfl⟩ := hrel
    by_cases hlt : k < 64
    · obtain ⟨v, hv1, hv2⟩ := pair_at hlt
      have h1 : w1.cell? ⟨w.heap.size, k * 2, none⟩ = some (.int .i64 v) := (HC.out _).trans hv1
      have h2 : w1.cell? ⟨w.heap.size, k * 2 + 1, none⟩ = some (.int .i64 v) := (HC.out _).trans hv2
      clear hv1 hv2
      have hi0 : (0 : Int) ≤ (k : Int) := by omega
      have hi1 : (k : Int) < 64 := by omega
      go_wp2
      go_quiet (fail)
      all_goals go_wp2
      all_goals
        go_roundw
        case rel => exact ⟨k + 1, _, by omega, by go_num, rfl⟩
        case measure => simp [intOf]; omega
    · obtain rfl : k = 64 := by omega
      have hBm : Below w.heap.size w (w1.drewN m) := ⟨hB1.os, hB1.tape, hB1.output, hB1.size, hB1.block⟩
      obtain ⟨W2, hW2⟩ : ∃ W, W = w1.drewN m := ⟨_, rfl⟩
      rw [← hW2] at hBm ⊢
      clear hW2 HC hB1
      go_wp2_with fail
      refine (err_13 _).mono ?_
      rintro e w3 ⟨rfl, rfl⟩
      go_wp2_with fail
      refine (sum_digits_any _ _ _ (Rd.made _ _ _ _ _ rfl)).mono ?_
      rintro e w3 ⟨rfl, rfl⟩
      go_wp2
      go_ret
      exact ⟨rfl, hBm.alloc hBm.size _⟩
end Go.Proofs.YtgijpmhlkmcpdaaDoor
