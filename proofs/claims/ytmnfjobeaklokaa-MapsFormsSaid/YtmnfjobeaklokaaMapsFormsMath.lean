/- MapsForms: the maps that it makes, plain. -/
import Derived.Test.YtmnfjobeaklokaaMapsInv
namespace Go.Proofs.Ytmnfjobeaklokaa
namespace Mp
/-- the first i keys of MapsForms, eight at most -/
def mk (i : Nat) : List Pr := (List.range (min i 8)).map fun j => ([97 + j], [j])
theorem mk_put : ∀ i, i < 16 → putS (mk i) [97 + i] [i] = mk (i + 1) ∧ putE (mk i) [97 + i] [i] = (if i < 8 then 0 else 3) ∧ (mk i).length = min i 8 ∧ putV (mk i) [97 + i] [i] = [] := by decide +kernel
theorem mk_len (i : Nat) : (mk i).length = min i 8 := by simp [mk]
theorem mk_inv : ∀ i, i ≤ 16 → Inv (mk i) := by
  intro i
  induction i with
  | zero => intro _; exact Inv.nil
  | succ i ih =>
    intro h
    have := (ih (by omega)).put (k := [97 + i]) (v := [i]) (by simp; omega) (by simp; omega)
    rwa [(mk_put i (by omega)).1] at this
theorem mk_zero : ∀ i, i < 16 → ∀ k, k ≤ 8 → List.replicate k 0 ∉ keys (mk i) ∧ cut (mk i) (List.replicate k 0) = 0 := by decide +kernel
theorem mk_a : ∀ i, i < 16 → 0 < i → putE (mk i) [97] [110, 101, 119] = 0 ∧ putN (mk i) [97] [110, 101, 119] = ((min i 8 : Nat) : Int) ∧ putV (mk i) [97] [110, 101, 119] = [0] ∧ getV (putS (mk i) [97] [110, 101, 119]) [97] = [110, 101, 119] ∧ (putS (mk i) [97] [110, 101, 119]).length = min i 8 := by decide +kernel
theorem mk_zz : ∀ i, i < 16 → getE (mk i) [122, 122] = 5 := by decide +kernel
/-- what one more leaves -/
theorem mk_more {i k v : Nat} (hi : i < 16) (_ : k < 16) :
    ((8 < k ∨ 16 < v) → putS (mk i) (List.replicate k 0) (List.replicate v 0) = mk i ∧ putE (mk i) (List.replicate k 0) (List.replicate v 0) = 1) ∧
    (¬ (8 < k ∨ 16 < v) → 8 ≤ i → putS (mk i) (List.replicate k 0) (List.replicate v 0) = mk i ∧ putE (mk i) (List.replicate k 0) (List.replicate v 0) = 3) ∧
    (¬ (8 < k ∨ 16 < v) → i < 8 → putS (mk i) (List.replicate k 0) (List.replicate v 0) = (List.replicate k 0, List.replicate v 0) :: mk i ∧ putE (mk i) (List.replicate k 0) (List.replicate v 0) = 0 ∧ putN (mk i) (List.replicate k 0) (List.replicate v 0) = (i : Int) + 1 ∧
      getV ((List.replicate k 0, List.replicate v 0) :: mk i) (List.replicate k 0) = List.replicate v 0) := by
  have hl := (mk_put i hi).2.2.1
  refine ⟨fun h => ?_, fun h h8 => ?_, fun h h8 => ?_⟩
  · unfold putS putE
    rw [if_pos (by simpa using h), if_pos (by simpa using h)]
    exact ⟨rfl, rfl⟩
  · obtain ⟨z1, z2⟩ := mk_zero i hi k (by omega)
    have hc : ¬ (8 < (List.replicate k 0).length ∨ 16 < (List.replicate v 0).length) := by rw [List.length_replicate, List.length_replicate]; exact h
    have h8' : 8 ≤ (mk i).length := by omega
    unfold putS putE
    rw [if_neg hc, if_neg hc, if_neg z1, if_neg z1, if_pos h8', if_pos h8']
    exact ⟨rfl, rfl⟩
  · obtain ⟨z1, z2⟩ := mk_zero i hi k (by omega)
    have hc : ¬ (8 < (List.replicate k 0).length ∨ 16 < (List.replicate v 0).length) := by rw [List.length_replicate, List.length_replicate]; exact h
    have h8' : ¬ 8 ≤ (mk i).length := by omega
    unfold putS putE putN
    rw [if_neg hc, if_neg hc, if_neg hc, if_neg z1, if_neg z1, if_neg z1, if_neg h8', if_neg h8', if_neg h8', z2]
    refine ⟨rfl, rfl, by omega, ?_⟩
    unfold getV
    have : List.replicate k 0 ∈ keys ((List.replicate k 0, List.replicate v 0) :: mk i) := by simp [keys]
    rw [if_pos this]
    have hx : idx (keys ((List.replicate k 0, List.replicate v 0) :: mk i)) (List.replicate k 0) = 0 := by unfold idx keys; simp
    rw [hx]
    rfl
end Mp
end Go.Proofs.Ytmnfjobeaklokaa
