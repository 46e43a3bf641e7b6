/- 'awake': what the document fixes of the sums. -/
import Derived.Test.YtgijpmhlkmcpdaaCrcWalks
namespace Go.Proofs.Ytgijpmhlkmcpdaa
open Go.RowKit
set_option linter.unusedVariables false

theorem i64_and_65535 (n : Int) : bits .and .i64 n 65535 = n % 65536 := by
  show IntKind.i64.wrap ((BitVec.ofInt 64 n &&& BitVec.ofInt 64 65535).toNat : Int) = _
  have e : (BitVec.ofInt 64 n &&& BitVec.ofInt 64 65535).toNat = (n % 65536).toNat := by
    rw [BitVec.toNat_and]
    have h1 : (BitVec.ofInt 64 65535).toNat = 2 ^ 16 - 1 := by decide
    rw [h1, Nat.and_two_pow_sub_one_eq_mod, BitVec.toNat_ofInt]
    omega
  rw [e, IntKind.wrap_i64]
  omega

theorem byteT : ByteT Try.prog 26 5 := ⟨Try.underlying26, by kernel_rfl⟩
def Crc.digits : List Nat := [49, 50, 51, 52, 53, 54, 55, 56, 57]
theorem Crc.sum_digits : Crc.sum Crc.digits = 3421780262 := by decide +kernel
theorem Crc.sum_nil : Crc.sum [] = 0 := by decide +kernel
theorem Crc.nxt_a : Crc.nxt 4294967295 97 = 390611388 := by decide +kernel
theorem Crc.nxt_b : Crc.nxt 4294967295 98 = 2386628614 := by decide +kernel

theorem sum_digits_any (b cap : Nat) (w : World) (h : Rd w (b + 1) (some ⟨b, 0, none⟩) 9 (bv Crc.digits)) :
    Calls Try.prog 8 #[.slice (some ⟨b, 0, none⟩) 9 cap] w fun e w' => e = .returned (.int .u32 3421780262) ∧ w = w' := by
  refine (sum_any Crc.digits (by decide) _ 9 cap _ (by decide) w h).mono ?_
  rintro e w' ⟨rfl, rfl⟩
  exact ⟨by rw [Crc.sum_digits]; rfl, rfl⟩
theorem sum_nil_any (a : Option Addr) (cap : Nat) (w : World) :
    Calls Try.prog 8 #[.slice a 0 cap] w fun e w' => e = .returned (.int .u32 0) ∧ w = w' := by
  refine (sum_any [] (by decide) a 0 cap w.heap.size (by decide) w (Rd.none_ _ _ _)).mono ?_
  rintro e w' ⟨rfl, rfl⟩
  exact ⟨by rw [Crc.sum_nil]; rfl, rfl⟩
theorem next_a_any (w : World) : Calls Try.prog 11 #[.int .u32 4294967295, .int .u8 97] w fun e w' => e = .returned (.int .u32 390611388) ∧ w = w' := by
  refine (next_any 4294967295 97 (by unfold Crc.U32; omega) (by omega) w).mono ?_
  rintro e w' ⟨rfl, rfl⟩
  exact ⟨by rw [Crc.nxt_a]; rfl, rfl⟩
theorem next_b_any (w : World) : Calls Try.prog 11 #[.int .u32 4294967295, .int .u8 98] w fun e w' => e = .returned (.int .u32 2386628614) ∧ w = w' := by
  refine (next_any 4294967295 98 (by unfold Crc.U32; omega) (by omega) w).mono ?_
  rintro e w' ⟨rfl, rfl⟩
  exact ⟨by rw [Crc.nxt_b]; rfl, rfl⟩

theorem awake_any (w : World) : Calls Try.prog 9 #[] w fun e w' => e = .returned (.bool true) ∧ Below w.heap.size w w' := by
  have kc := fun (w : World) (C : Array Value) (n c : Nat) => Lib.run_convert_bytes_const (P := Try.prog) w 26 5 C n c Try.underlying26 Try.underlying5
  go_enter Try.func9, Try.ntmps9
  go_wp2_with fail
  refine (sum_digits_any _ _ _ (Rd.made _ _ _ _ _ rfl)).mono ?_
  rintro e w1 ⟨rfl, rfl⟩
  go_wp2_with fail
  refine (sum_nil_any _ _ _).mono ?_
  rintro e w1 ⟨rfl, rfl⟩
  go_wp2_with fail
  refine (next_a_any _).mono ?_
  rintro e w1 ⟨rfl, rfl⟩
  go_wp2_with fail
  refine (next_b_any _).mono ?_
  rintro e w1 ⟨rfl, rfl⟩
  go_wp2
  go_ret
  exact ⟨rfl, (Below.refl _ _).alloc (Nat.le_refl _) _⟩
end Go.Proofs.Ytgijpmhlkmcpdaa
