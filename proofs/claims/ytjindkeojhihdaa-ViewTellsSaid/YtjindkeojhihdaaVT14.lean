/- ViewC0 -/
import Derived.Test.YtjindkeojhihdaaVT13
namespace Go.Proofs.Ytjindkeojhihdaa
open Go.RowKit
set_option linter.unusedVariables false
def In64 (v : Int) : Prop := -9223372036854775808 ≤ v ∧ v ≤ 9223372036854775807
def NextC14 : Prop := ∀ (w : World) (p v : Int), In64 p → In64 v → Calls Try.prog 13 #[.int .i64 p, .int .i64 v] w fun e w' => e = .returned (.int .i64 (Vw.next p v)) ∧ Below w.heap.size w w'
def WhoC14 : Prop := ∀ (w : World) (v : Int), In64 v → Calls Try.prog 15 #[.int .i64 v] w fun e w' => e = .returned (.int .i64 (Vw.who v)) ∧ Below w.heap.size w w'
def LimitC14 : Prop := ∀ (w : World) (v : Int), In64 v → Calls Try.prog 12 #[.int .i64 v] w fun e w' => e = .returned (.int .i64 (Vw.limit v)) ∧ Below w.heap.size w w'
def MostC14 : Prop := ∀ (w : World) (m n : Int), In64 m → In64 n → Calls Try.prog 11 #[.int .i64 m, .int .i64 n] w fun e w' => e = .returned (.bool (Vw.most m n)) ∧ Below w.heap.size w w'
def AfterC14 : Prop := ∀ (w : World) (m x : Int), In64 m → In64 x → Calls Try.prog 20 #[.int .i64 m, .int .i64 x] w fun e w' => e = .returned (.int .i64 (Vw.after m x)) ∧ Below w.heap.size w w'
def MembersC14 : Prop := ∀ (w : World) (m : Int), In64 m → Calls Try.prog 10 #[.int .i64 m] w (MadeI w w (Vw.mem m))
def AwakeC14 : Prop := ∀ (w : World), Calls Try.prog 9 #[] w fun e w' => e = .returned (.bool true) ∧ Below w.heap.size w w'
namespace Vw
theorem bit_nat (x i : Nat) : bit (x : Int) i = x.testBit i := by
  unfold bit
  rw [Nat.testBit_eq_decide_div_mod_eq]
  have : ((x : Int) / 2 ^ i % 2) = ((x / 2 ^ i % 2 : Nat) : Int) := by simp
  rw [this]
  exact decide_eq_decide.2 (by omega)
end Vw
end Go.Proofs.Ytjindkeojhihdaa

