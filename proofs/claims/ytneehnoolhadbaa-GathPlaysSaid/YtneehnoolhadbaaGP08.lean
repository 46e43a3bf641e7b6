/- ViewRef2 ViewC0 -/
import Derived.Test.YtneehnoolhadbaaGP07
import Derived.Lib.Hide
namespace Go.Proofs.Ytneehnoolhadbaa
open Go.RowKit
set_option linter.unusedVariables false
theorem Vw.size_cases (n : Int) : n < 1 ∧ Vw.size n = 1 ∨ (∃ k : Nat, n = (k : Int) ∧ 1 ≤ k ∧ k ≤ 7 ∧ Vw.size n = k) ∨ 7 < n ∧ Vw.size n = 7 := by
  unfold Vw.size
  by_cases h : n < 1
  · exact .inl ⟨h, by omega⟩
  · by_cases h7 : 7 < n
    · exact .inr (.inr ⟨h7, by omega⟩)
    · exact .inr (.inl ⟨n.toNat, by omega, by omega, by omega, by omega⟩)
theorem Vw.most_yes {m : Int} {s k : Nat} {b : Bool} (h : m / 2 ^ s = 0) (hb : b = decide (s < 2 * k)) : b = (decide (m / 2 ^ s = 0) && decide (s < 2 * k)) := by rw [hb, h]; simp
theorem Vw.most_no {m : Int} {s k : Nat} (h : ¬ m / 2 ^ s = 0) : false = (decide (m / 2 ^ s = 0) && decide (s < 2 * k)) := by simp [h]
theorem Vw.mem_len (m : Int) : (Vw.mem m).length = (Vw.members m).length := by unfold Vw.mem; rw [List.length_map]
set_option maxRecDepth 100000 in
theorem refMost_any (w : World) (m n : Int) (h : -9223372036854775808 ≤ m ∧ m ≤ 9223372036854775807) (hn : -9223372036854775808 ≤ n ∧ n ≤ 9223372036854775807) :
    Calls Try.prog 28 #[.int .i64 m, .int .i64 n] w fun e w' => e = .returned (.bool (Vw.most m n)) ∧ Below w.heap.size w w' := by
  obtain ⟨k, hk⟩ : ∃ k, (Vw.members m).length = k := ⟨_, rfl⟩
  have hk7 : k ≤ 7 := by have := Vw.members_len m; omega
  have HL : (Vw.mem m).length = k := by rw [Vw.mem_len, hk]
  have HC := refMembers_any (W := w) (w := w) m h (Below.refl _ _)
  have HE : Vw.most m n = (decide (m / 2 ^ Vw.size n = 0) && decide (Vw.size n < 2 * k)) := by unfold Vw.most; rw [hk]
  rw [HE]
  clear HE hk
  unfold MadeI at HC
  rw [HL] at HC
  rcases Vw.size_cases n with ⟨h1, h2⟩ | ⟨j, rfl, h0, h1, h2⟩ | ⟨h1, h2⟩
  all_goals
    rw [h2]
    clear h2
    go_enter Try.func28, Try.ntmps28
    go_wp2_with (first | (go_at_call 12; refine HC.mono ?_; rintro e w1 ⟨A1, c1, rfl, ho, hB, hb⟩) | fail)
    all_goals
      rename_i hz
      first
        | (go_ret; exact ⟨ret_bool (Vw.most_yes (by first | exact hz | simpa using hz) (decide_eq_decide.2 (by omega))), hb⟩)
        | (go_ret; exact ⟨ret_bool (Vw.most_no (by first | exact hz | simpa using hz)), Below.refl _ _⟩)
        | skip
end Go.Proofs.Ytneehnoolhadbaa

namespace Go.Proofs.Ytneehnoolhadbaa
open Go.RowKit
set_option linter.unusedVariables false
def In64 (v : Int) : Prop := -9223372036854775808 ≤ v ∧ v ≤ 9223372036854775807
def MostC14 : Prop := ∀ (w : World) (m n : Int), In64 m → In64 n → Calls Try.prog 45 #[.int .i64 m, .int .i64 n] w fun e w' => e = .returned (.bool (Vw.most m n)) ∧ Below w.heap.size w w'
def MembersC14 : Prop := ∀ (w : World) (m : Int), In64 m → Calls Try.prog 33 #[.int .i64 m] w (MadeI w w (Vw.mem m))
namespace Vw
theorem bit_nat (x i : Nat) : bit (x : Int) i = x.testBit i := by
  unfold bit
  rw [Nat.testBit_eq_decide_div_mod_eq]
  have : ((x : Int) / 2 ^ i % 2) = ((x / 2 ^ i % 2 : Nat) : Int) := by simp
  rw [this]
  exact decide_eq_decide.2 (by omega)
end Vw
end Go.Proofs.Ytneehnoolhadbaa

