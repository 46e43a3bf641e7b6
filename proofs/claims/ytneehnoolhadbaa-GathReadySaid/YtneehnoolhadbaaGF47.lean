/- GathLaws2 -/
import Derived.Test.YtneehnoolhadbaaGF45
namespace Go.Proofs.Ytneehnoolhadbaa
open Go.RowKit
set_option linter.unusedVariables false
namespace Gm
def rdL (i : Nat) : List Sv := ⟨2, 0, 0, 0, true⟩ :: (List.range (i - 1)).map fun f => ⟨2, ((f + 1 : Nat) : Int), 0, 0, false⟩
def rdG (N i : Nat) : Gm := ⟨N, 0, 8, rdL i, none, 0⟩
def rdH (N rd : Nat) : Gm := ⟨N, 0, 8, rdL N, some (full N, 0, 0), rd⟩
theorem rdG_may : ∀ N, N < 8 → ∀ i, i < N → 1 ≤ i → (rdG N i).may ⟨2, (i : Int), 0, 0, false⟩ 8 = true := by decide +kernel
theorem rdG_add {N i : Nat} (h1 : 1 ≤ i) : (rdG N i).add ⟨2, (i : Int), 0, 0, false⟩ = rdG N (i + 1) := by
  unfold add rdG rdL
  simp only [List.cons_append]
  obtain ⟨k, rfl⟩ : ∃ k, i = k + 1 := ⟨i - 1, by omega⟩
  rw [show k + 1 + 1 - 1 = k + 1 from rfl, List.range_succ, List.map_append]
  rfl
theorem rdG_take {N i : Nat} (h1 : 1 ≤ i) (hi : i < N) (hN : N ≤ 7) : (rdG N i).take ⟨2, (i : Int), 0, 0, false⟩ 8 = rdG N (i + 1) := by
  unfold take
  rw [if_pos (rdG_may N (by omega) i hi h1), rdG_add h1]
theorem rdG_pick : ∀ N, N < 8 → 1 ≤ N → (rdG N N).pick = some (full N, 0, 0) := by decide +kernel
theorem rdG_commit {N : Nat} (h1 : 1 ≤ N) (h7 : N ≤ 7) : (rdG N N).commit = rdH N 0 := by
  unfold commit
  rw [rdG_pick N (by omega) h1]
  rfl
theorem rdH_mayR {N rd : Nat} (h7 : N ≤ 7) (hr : rd < 128) (k : Int) : (rdH N rd).mayR k = (decide (0 ≤ k) && (decide (k.toNat < N) && !rd.testBit k.toNat)) := by
  show (decide (0 ≤ k) && (dif (full N) rd).testBit k.toNat) = _
  rw [dif_bit hr (full_lt h7), full_bit]
theorem rdH_doR {N rd : Nat} {k : Int} {r : Bool} (hr : (rdH N rd).mayR k = r) : (rdH N rd).doR k = rdH N (if r = true then rd ||| 2 ^ k.toNat else rd) := by
  unfold doR
  cases r with
  | false => rw [if_neg (by rw [hr]; decide), if_neg (by decide)]
  | true => rw [if_pos hr, if_pos rfl]; rfl
theorem rdH_done {N rd : Nat} (h : (rdH N rd).Ok) : (rdH N rd).done = decide (rd = full N) := by
  rw [h.done_is]; rfl
end Gm
end Go.Proofs.Ytneehnoolhadbaa

