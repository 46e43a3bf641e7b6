/- ViewC0 -/
import Derived.Test.YtneehnoolhadbaaGF09
namespace Go.Proofs.Ytneehnoolhadbaa
open Go.RowKit
set_option linter.unusedVariables false
def In64 (v : Int) : Prop := -9223372036854775808 ≤ v ∧ v ≤ 9223372036854775807
def MostC14 : Prop := ∀ (w : World) (m n : Int), In64 m → In64 n → Calls Try.prog 45 #[.int .i64 m, .int .i64 n] w fun e w' => e = .returned (.bool (Vw.most m n)) ∧ Below w.heap.size w w'
def MembersC14 : Prop := ∀ (w : World) (m : Int), In64 m → Calls Try.prog 33 #[.int .i64 m] w (MadeI w w (Vw.mem m))
namespace Vw
theorem bit_nat (x i : Nat) : bit (x : Int) i = x.testBit i := by
  unfold bit
  rw [Nat.testBit_eq_decide_div_mod_eq]
  have : ((x : Int) / 2 ^ i % 2) = ((x / 2 ^ i % 2 : Nat) : Int) := by simp
  rw [this]
  exact decide_eq_decide.2 (by omega)
end Vw
end Go.Proofs.Ytneehnoolhadbaa

