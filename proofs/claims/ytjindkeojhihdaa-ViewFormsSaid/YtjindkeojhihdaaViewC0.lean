/- What the code of a view owes (contracts). -/
import Derived.Test.YtjindkeojhihdaaViewRef3
namespace Go.Proofs.Ytjindkeojhihdaa
open Go.RowKit
set_option linter.unusedVariables false
def In64 (v : Int) : Prop := -9223372036854775808 ≤ v ∧ v ≤ 9223372036854775807
def NextC14 : Prop := ∀ (w : World) (p v : Int), In64 p → In64 v → Calls Try.prog 13 #[.int .i64 p, .int .i64 v] w fun e w' => e = .returned (.int .i64 (Vw.next p v)) ∧ Below w.heap.size w w'
def WhoC14 : Prop := ∀ (w : World) (v : Int), In64 v → Calls Try.prog 15 #[.int .i64 v] w fun e w' => e = .returned (.int .i64 (Vw.who v)) ∧ Below w.heap.size w w'
def LimitC14 : Prop := ∀ (w : World) (v : Int), In64 v → Calls Try.prog 12 #[.int .i64 v] w fun e w' => e = .returned (.int .i64 (Vw.limit v)) ∧ Below w.heap.size w w'
def MostC14 : Prop := ∀ (w : World) (m n : Int), In64 m → In64 n → Calls Try.prog 11 #[.int .i64 m, .int .i64 n] w fun e w' => e = .returned (.bool (Vw.most m n)) ∧ Below w.heap.size w w'
def AfterC14 : Prop := ∀ (w : World) (m x : Int), In64 m → In64 x → Calls Try.prog 20 #[.int .i64 m, .int .i64 x] w fun e w' => e = .returned (.int .i64 (Vw.after m x)) ∧ Below w.heap.size w w'
def MembersC14 : Prop := ∀ (w : World) (m : Int), In64 m → Calls Try.prog 10 #[.int .i64 m] w (MadeI w w (Vw.mem m))
def AwakeC14 : Prop := ∀ (w : World), Calls Try.prog 9 #[] w fun e w' => e = .returned (.bool true) ∧ Below w.heap.size w w'
namespace Vw
/-- who is in both of two sets -/
theorem and_nat {a b : Int} (ha : 0 ≤ a ∧ a < 128) (hb : 0 ≤ b ∧ b < 128) : bits .and .i64 a b = ((a.toNat &&& b.toNat : Nat) : Int) := by
  obtain ⟨x, rfl⟩ := Int.eq_ofNat_of_zero_le ha.1
  obtain ⟨y, rfl⟩ := Int.eq_ofNat_of_zero_le hb.1
  have hx : x < 128 := by omega
  have hy : y < 128 := by omega
  show IntKind.i64.wrap ((BitVec.ofInt 64 x &&& BitVec.ofInt 64 y).toNat : Int) = _
  rw [BitVec.toNat_and]
  have e : ∀ z : Nat, z < 128 → (BitVec.ofInt 64 (z : Int)).toNat = z := by
    intro z hz
    rw [BitVec.ofInt_natCast, BitVec.toNat_ofNat]
    exact Nat.mod_eq_of_lt (by omega)
  rw [e x hx, e y hy]
  have : x &&& y ≤ x := Nat.and_le_left
  simp only [Int.toNat_natCast]
  exact IntWalk.i64_in _ (by omega)
theorem bit_nat (x i : Nat) : bit (x : Int) i = x.testBit i := by
  unfold bit
  rw [Nat.testBit_eq_decide_div_mod_eq]
  have : ((x : Int) / 2 ^ i % 2) = ((x / 2 ^ i % 2 : Nat) : Int) := by simp
  rw [this]
  exact decide_eq_decide.2 (by omega)
theorem bit_and {a b : Int} (ha : 0 ≤ a ∧ a < 128) (hb : 0 ≤ b ∧ b < 128) {i : Nat} (h1 : bit a i = true) (h2 : bit b i = true) : bit (bits .and .i64 a b) i = true := by
  rw [and_nat ha hb, bit_nat, Nat.testBit_and]
  have e1 : (a.toNat : Int) = a := Int.toNat_of_nonneg ha.1
  have e2 : (b.toNat : Int) = b := Int.toNat_of_nonneg hb.1
  rw [← e1, bit_nat] at h1
  rw [← e2, bit_nat] at h2
  rw [h1, h2]; rfl
theorem and_some {a b n : Int} (ha : 0 ≤ a ∧ a < 128) (hb : 0 ≤ b ∧ b < 128) (h1 : most a n = true) (h2 : most b n = true) : 0 < (mem (bits .and .i64 a b)).length := by
  obtain ⟨i, hi, e1, e2⟩ := most_meet h1 h2
  have := mem_members hi (bit_and ha hb e1 e2)
  rw [mem_len]
  exact List.length_pos_of_mem this
theorem and_in {a b : Int} (ha : 0 ≤ a ∧ a < 128) (hb : 0 ≤ b ∧ b < 128) : 0 ≤ bits .and .i64 a b ∧ bits .and .i64 a b < 128 := by
  rw [and_nat ha hb]
  have : a.toNat &&& b.toNat ≤ a.toNat := Nat.and_le_left
  omega
end Vw
end Go.Proofs.Ytjindkeojhihdaa
