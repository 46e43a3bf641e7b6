/- Sums of known bytes. -/
import Derived.Test.YtgijpmhlkmcpdaaDoorCrcWalks
namespace Go.Proofs.YtgijpmhlkmcpdaaDoor
open Go.RowKit
set_option linter.unusedVariables false

def Crc.digits : List Nat := [49, 50, 51, 52, 53, 54, 55, 56, 57]
theorem Crc.sum_digits : Crc.sum Crc.digits = 3421780262 := by decide +kernel
theorem Crc.sum_nil : Crc.sum [] = 0 := by decide +kernel
theorem Crc.nxt_a : Crc.nxt 4294967295 97 = 390611388 := by decide +kernel
theorem Crc.nxt_b : Crc.nxt 4294967295 98 = 2386628614 := by decide +kernel

theorem sum_digits_any (b cap : Nat) (w : World) (h : Rd w (b + 1) (some ⟨b, 0, none⟩) 9 (bv Crc.digits)) :
    Calls Tryd.prog 6 #[.slice (some ⟨b, 0, none⟩) 9 cap] w fun e w' => e = .returned (.int .u32 3421780262) ∧ w = w' := by
  refine (sum_any Crc.digits (by decide) _ 9 cap _ (by decide) w h).mono ?_
  rintro e w' ⟨rfl, rfl⟩
  exact ⟨by rw [Crc.sum_digits]; rfl, rfl⟩
theorem sum_nil_any (a : Option Addr) (cap : Nat) (w : World) :
    Calls Tryd.prog 6 #[.slice a 0 cap] w fun e w' => e = .returned (.int .u32 0) ∧ w = w' := by
  refine (sum_any [] (by decide) a 0 cap w.heap.size (by decide) w (Rd.none_ _ _ _)).mono ?_
  rintro e w' ⟨rfl, rfl⟩
  exact ⟨by rw [Crc.sum_nil]; rfl, rfl⟩
end Go.Proofs.YtgijpmhlkmcpdaaDoor
