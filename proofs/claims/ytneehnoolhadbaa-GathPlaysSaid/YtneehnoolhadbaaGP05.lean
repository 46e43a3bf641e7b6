/- BitsKit -/
import Derived.IntWalk
import Derived.Laws.BitsAllLaws
namespace Go.Proofs.Ytneehnoolhadbaa
theorem and_mask (n : Int) (j : Nat) (hj : j < 62) : bits .and .i64 n ((2 ^ j - 1 : Nat) : Int) = n % ((2 ^ j : Nat) : Int) := by
  have hp : 2 ^ j < 2 ^ 62 := Nat.pow_lt_pow_right (by omega) hj
  have hp0 : 0 < 2 ^ j := Nat.two_pow_pos j
  show IntKind.i64.wrap ((BitVec.ofInt 64 n &&& BitVec.ofInt 64 ((2 ^ j - 1 : Nat) : Int)).toNat : Int) = _
  have h1 : (BitVec.ofInt 64 ((2 ^ j - 1 : Nat) : Int)).toNat = 2 ^ j - 1 := by
    rw [BitVec.toNat_ofInt]
    have : (((2 ^ j - 1 : Nat) : Int) % ((2 ^ 64 : Nat) : Int)) = ((2 ^ j - 1 : Nat) : Int) := Int.emod_eq_of_lt (by omega) (by omega)
    rw [this]; simp
  have e : (BitVec.ofInt 64 n &&& BitVec.ofInt 64 ((2 ^ j - 1 : Nat) : Int)).toNat = (n % ((2 ^ j : Nat) : Int)).toNat := by
    rw [BitVec.toNat_and, h1, Nat.and_two_pow_sub_one_eq_mod, BitVec.toNat_ofInt]
    have hd : ((2 ^ j : Nat) : Int) ∣ ((2 ^ 64 : Nat) : Int) := by
      refine ⟨((2 ^ (64 - j) : Nat) : Int), ?_⟩
      rw [← Int.natCast_mul, ← Nat.pow_add, show j + (64 - j) = 64 by omega]
    have h2 := Int.emod_emod_of_dvd n hd
    have h3 := Int.emod_nonneg n (show ((2 ^ 64 : Nat) : Int) ≠ 0 by omega)
    have h4 := Int.emod_nonneg n (show ((2 ^ j : Nat) : Int) ≠ 0 by omega)
    have h5 : (((n % ((2 ^ 64 : Nat) : Int)).toNat % 2 ^ j : Nat) : Int) = n % ((2 ^ j : Nat) : Int) := by
      rw [Int.natCast_emod, Int.toNat_of_nonneg h3, h2]
    omega
  rw [e, IntKind.wrap_i64]
  have h4 := Int.emod_nonneg n (show ((2 ^ j : Nat) : Int) ≠ 0 by omega)
  have h5 := Int.emod_lt_of_pos n (show 0 < ((2 ^ j : Nat) : Int) by omega)
  omega
theorem and_1 (n : Int) : bits .and .i64 n 1 = n % 2 := by simpa using and_mask n 1 (by omega)
theorem and_3 (n : Int) : bits .and .i64 n 3 = n % 4 := by simpa using and_mask n 2 (by omega)
theorem and_7 (n : Int) : bits .and .i64 n 7 = n % 8 := by simpa using and_mask n 3 (by omega)
theorem and_15 (n : Int) : bits .and .i64 n 15 = n % 16 := by simpa using and_mask n 4 (by omega)
theorem and_31 (n : Int) : bits .and .i64 n 31 = n % 32 := by simpa using and_mask n 5 (by omega)
theorem and_63 (n : Int) : bits .and .i64 n 63 = n % 64 := by simpa using and_mask n 6 (by omega)
theorem and_127 (n : Int) : bits .and .i64 n 127 = n % 128 := by simpa using and_mask n 7 (by omega)
theorem and_255 (n : Int) : bits .and .i64 n 255 = n % 256 := by simpa using and_mask n 8 (by omega)
end Go.Proofs.Ytneehnoolhadbaa

