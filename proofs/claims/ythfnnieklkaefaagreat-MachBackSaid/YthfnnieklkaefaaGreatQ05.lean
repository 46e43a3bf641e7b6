/- KeysF MachBoundsCore RegionT -/
import Derived.Test.YthfnnieklkaefaaGreatQ03
import Derived.Test.YthfnnieklkaefaaGreatQ04
import Derived.Deep.RegionHeld
import Derived.StillTail
namespace Go.Proofs.YthfnnieklkaefaaGreat
open Go.RowKit
set_option linter.unusedVariables false
/-- a row of bytes in a block that was made behind w -/
theorem Rd.of_stringAt (w : World) (s : ByteArray) (cap : Nat) (t : TypeId) (mark : Nat × Nat) {g : Nat} (hg : w.heap.size = g) : Rd (w.alloc (.cells (bytesRow s cap) t mark)) (w.alloc (.cells (bytesRow s cap) t mark)).heap.size (some ⟨g, 0, none⟩) (sb s).length (bv (sb s)) := by
  subst hg; rw [sb_len]; exact (Rd.of_string w s cap t mark).fit
def GotKF (w : World) (e : Ending) (w' : World) : Prop := ∃ (k : List Nat) (g c : Nat), e = .returned (.slice (some ⟨g, 0, none⟩) k.length c) ∧ Rd w' w'.heap.size (some ⟨g, 0, none⟩) k.length (bv k) ∧ (∀ x ∈ k, x < 256) ∧ k.length ≤ 9 ∧ w.heap.size ≤ g ∧ g < w'.heap.size ∧ Below w.heap.size w w'
theorem gotKF_of {w w1 : World} (s : ByteArray) (cap : Nat) (t : TypeId) (mark : Nat × Nat) (hs : s.size ≤ 9) (hB : Below w.heap.size w w1) {g : Nat} (hg : w1.heap.size = g) : GotKF w (.returned (.slice (some ⟨g, 0, none⟩) s.size cap)) (w1.alloc (.cells (bytesRow s cap) t mark)) := by
  subst hg
  have h := (Rd.of_string w1 s cap t mark).fit
  refine ⟨sb s, w1.heap.size, cap, by rw [sb_len], by rw [sb_len]; exact h, sb_lt s, by rw [sb_len]; exact hs, hB.size, by simp, hB.alloc hB.size _⟩
set_option maxHeartbeats 1000000 in
set_option maxRecDepth 100000 in
theorem keysF_any (n : Int) (w : World) : Calls Tryz.prog 76 #[.int .i64 n] w (GotKF w) := by
  obtain ⟨j, hj, hj16⟩ : ∃ j : Nat, bits .and .i64 n 15 = (j : Int) ∧ j < 16 := by
    rw [and_15]
    have h1 := Int.emod_nonneg n (show (16 : Int) ≠ 0 by omega)
    exact ⟨(n % 16).toNat, by omega, by omega⟩
  have kc := fun (w : World) (s : ByteArray) => run_bytes_of_string (P := Tryz.prog) w 9 24 5 s Tryz.underlying9 Tryz.underlying24 Tryz.underlying5
  have hji : (j : Int) < 16 := by omega
  have HJ := Lib.hid (show j = 0 ∨ j = 1 ∨ j = 2 ∨ j = 3 ∨ j = 4 ∨ j = 5 ∨ j = 6 ∨ j = 7 ∨ j = 8 ∨ j = 9 ∨ j = 10 ∨ j = 11 ∨ j = 12 ∨ j = 13 ∨ j = 14 ∨ j = 15 by omega)
  clear hji
  rcases HJ.out with rfl | rfl | rfl | rfl | rfl | rfl | rfl | rfl | rfl | rfl | rfl | rfl | rfl | rfl | rfl | rfl
  all_goals clear HJ
  all_goals go_enter Tryz.func76, Tryz.ntmps76
  all_goals go_wp2
  all_goals go_ret
  · exact gotKF_of (⟨#[]⟩ : ByteArray) _ _ _ (by decide) ((Below.refl _ _).alloc (Nat.le_refl _) _).drew (by simp)
  · exact gotKF_of (⟨#[97]⟩ : ByteArray) _ _ _ (by decide) ((Below.refl _ _).alloc (Nat.le_refl _) _).drew (by simp)
  · exact gotKF_of (⟨#[98]⟩ : ByteArray) _ _ _ (by decide) ((Below.refl _ _).alloc (Nat.le_refl _) _).drew (by simp)
  · exact gotKF_of (⟨#[99]⟩ : ByteArray) _ _ _ (by decide) ((Below.refl _ _).alloc (Nat.le_refl _) _).drew (by simp)
  · exact gotKF_of (⟨#[97, 98]⟩ : ByteArray) _ _ _ (by decide) ((Below.refl _ _).alloc (Nat.le_refl _) _).drew (by simp)
  · exact gotKF_of (⟨#[97, 98, 99]⟩ : ByteArray) _ _ _ (by decide) ((Below.refl _ _).alloc (Nat.le_refl _) _).drew (by simp)
  · exact gotKF_of (⟨#[122]⟩ : ByteArray) _ _ _ (by decide) ((Below.refl _ _).alloc (Nat.le_refl _) _).drew (by simp)
  · exact gotKF_of (⟨#[0]⟩ : ByteArray) _ _ _ (by decide) ((Below.refl _ _).alloc (Nat.le_refl _) _).drew (by simp)
  · exact gotKF_of (⟨#[255]⟩ : ByteArray) _ _ _ (by decide) ((Below.refl _ _).alloc (Nat.le_refl _) _).drew (by simp)
  · exact gotKF_of (⟨#[97, 98, 99, 100, 101, 102, 103, 104]⟩ : ByteArray) _ _ _ (by decide) ((Below.refl _ _).alloc (Nat.le_refl _) _).drew (by simp)
  · exact gotKF_of (⟨#[97, 98, 99, 100, 101, 102, 103, 104, 105]⟩ : ByteArray) _ _ _ (by decide) ((Below.refl _ _).alloc (Nat.le_refl _) _).drew (by simp)
  · exact gotKF_of (⟨#[107, 49]⟩ : ByteArray) _ _ _ (by decide) ((Below.refl _ _).alloc (Nat.le_refl _) _).drew (by simp)
  · exact gotKF_of (⟨#[107, 50]⟩ : ByteArray) _ _ _ (by decide) ((Below.refl _ _).alloc (Nat.le_refl _) _).drew (by simp)
  · exact gotKF_of (⟨#[107, 51]⟩ : ByteArray) _ _ _ (by decide) ((Below.refl _ _).alloc (Nat.le_refl _) _).drew (by simp)
  · exact gotKF_of (⟨#[107, 52]⟩ : ByteArray) _ _ _ (by decide) ((Below.refl _ _).alloc (Nat.le_refl _) _).drew (by simp)
  · exact gotKF_of (⟨#[107, 53]⟩ : ByteArray) _ _ _ (by decide) ((Below.refl _ _).alloc (Nat.le_refl _) _).drew (by simp)
end Go.Proofs.YthfnnieklkaefaaGreat

namespace Go.Proofs.YthfnnieklkaefaaGreat
open Go.RowKit
set_option linter.unusedVariables false
namespace Mb
def tabS (j : Nat) : ByteArray := ([⟨#[0, 0, 0, 0, 0]⟩, ⟨#[]⟩, ⟨#[0, 0, 0, 0, 0, 0]⟩, ⟨#[0, 0, 0, 0]⟩, ⟨#[16, 48, 49, 50, 51, 52, 53, 54, 55, 56, 57, 97, 98, 99, 100, 101, 102, 0, 0, 0, 0]⟩, ⟨#[17, 48, 49, 50, 51, 52, 53, 54, 55, 56, 57, 97, 98, 99, 100, 101, 102, 103, 0, 0, 0, 0]⟩, ⟨#[0, 1, 1, 97, 0, 0, 0]⟩, ⟨#[0, 9, 0, 0, 0, 0, 0, 0, 0, 0, 0, 0, 0, 0]⟩, ⟨#[0, 0, 2, 5, 6, 0, 0]⟩, ⟨#[0, 0, 2, 5, 5, 0, 0]⟩, ⟨#[0, 0, 1, 231, 7, 0, 0]⟩, ⟨#[0, 0, 1, 232, 7, 0, 0]⟩, ⟨#[0, 0, 0, 2, 1, 97, 0, 1, 98, 0, 0]⟩, ⟨#[0, 0, 0, 2, 1, 98, 0, 1, 97, 0, 0]⟩, ⟨#[0, 0, 0, 2, 1, 97, 0, 1, 97, 0, 0]⟩, ⟨#[0, 0, 0, 0, 1, 1, 1, 0, 0, 0]⟩, ⟨#[0, 0, 0, 0, 1, 0, 1, 0, 0, 0]⟩, ⟨#[0, 0, 0, 0, 1, 1, 0, 0, 0, 0]⟩, ⟨#[0, 0, 0, 0, 1, 1, 1, 10, 0, 0]⟩, ⟨#[0, 0, 0, 0, 1, 1, 1, 11, 0, 0]⟩, ⟨#[0, 0, 0, 0, 2, 2, 1, 0, 0, 0, 1, 1, 0, 0, 0]⟩, ⟨#[0, 0, 0, 0, 2, 1, 1, 0, 0, 0, 2, 1, 0, 0, 0]⟩, ⟨#[128, 0, 0, 0, 0, 0]⟩] : List ByteArray).getD j ⟨#[]⟩
def tabK (j : Nat) : Bool := ([true, false, false, false, true, false, true, false, true, false, true, false, true, false, false, true, false, false, true, false, false, true, false] : List Bool).getD j false
def cells : Array Value := #[.string ⟨#[0, 0, 0, 0, 0]⟩, .bool true, .string ⟨#[]⟩, .bool false, .string ⟨#[0, 0, 0, 0, 0, 0]⟩, .bool false, .string ⟨#[0, 0, 0, 0]⟩, .bool false, .string ⟨#[16, 48, 49, 50, 51, 52, 53, 54, 55, 56, 57, 97, 98, 99, 100, 101, 102, 0, 0, 0, 0]⟩, .bool true, .string ⟨#[17, 48, 49, 50, 51, 52, 53, 54, 55, 56, 57, 97, 98, 99, 100, 101, 102, 103, 0, 0, 0, 0]⟩, .bool false, .string ⟨#[0, 1, 1, 97, 0, 0, 0]⟩, .bool true, .string ⟨#[0, 9, 0, 0, 0, 0, 0, 0, 0, 0, 0, 0, 0, 0]⟩, .bool false, .string ⟨#[0, 0, 2, 5, 6, 0, 0]⟩, .bool true, .string ⟨#[0, 0, 2, 5, 5, 0, 0]⟩, .bool false, .string ⟨#[0, 0, 1, 231, 7, 0, 0]⟩, .bool true, .string ⟨#[0, 0, 1, 232, 7, 0, 0]⟩, .bool false, .string ⟨#[0, 0, 0, 2, 1, 97, 0, 1, 98, 0, 0]⟩, .bool true, .string ⟨#[0, 0, 0, 2, 1, 98, 0, 1, 97, 0, 0]⟩, .bool false, .string ⟨#[0, 0, 0, 2, 1, 97, 0, 1, 97, 0, 0]⟩, .bool false, .string ⟨#[0, 0, 0, 0, 1, 1, 1, 0, 0, 0]⟩, .bool true, .string ⟨#[0, 0, 0, 0, 1, 0, 1, 0, 0, 0]⟩, .bool false, .string ⟨#[0, 0, 0, 0, 1, 1, 0, 0, 0, 0]⟩, .bool false, .string ⟨#[0, 0, 0, 0, 1, 1, 1, 10, 0, 0]⟩, .bool true, .string ⟨#[0, 0, 0, 0, 1, 1, 1, 11, 0, 0]⟩, .bool false, .string ⟨#[0, 0, 0, 0, 2, 2, 1, 0, 0, 0, 1, 1, 0, 0, 0]⟩, .bool false, .string ⟨#[0, 0, 0, 0, 2, 1, 1, 0, 0, 0, 2, 1, 0, 0, 0]⟩, .bool true, .string ⟨#[128, 0, 0, 0, 0, 0]⟩, .bool false]
theorem cell_s : ∀ j, j < 23 → cells[j * 2]? = some (.string (tabS j)) := by
  intro j h
  match j, h with
  | 0, _ | 1, _ | 2, _ | 3, _ | 4, _ | 5, _ | 6, _ | 7, _ | 8, _ | 9, _ | 10, _ | 11, _ | 12, _ | 13, _ | 14, _ | 15, _ | 16, _ | 17, _ | 18, _ | 19, _ | 20, _ | 21, _ | 22, _ => rfl
  | j + 23, h => exact absurd h (by omega)
theorem cell_k : ∀ j, j < 23 → cells[j * 2 + 1]? = some (.bool (tabK j)) := by
  intro j h
  match j, h with
  | 0, _ | 1, _ | 2, _ | 3, _ | 4, _ | 5, _ | 6, _ | 7, _ | 8, _ | 9, _ | 10, _ | 11, _ | 12, _ | 13, _ | 14, _ | 15, _ | 16, _ | 17, _ | 18, _ | 19, _ | 20, _ | 21, _ | 22, _ => rfl
  | j + 23, h => exact absurd h (by omega)
def ok (j : Nat) : Bool := match Mc.dec (sb (tabS j)) with | none => !tabK j | some m => tabK j && decide (m.enc = sb (tabS j))
theorem ok_all : ∀ j, j < 23 → ok j = true := by
  intro j h
  match j, h with
  | 0, _ | 1, _ | 2, _ | 3, _ | 4, _ | 5, _ | 6, _ | 7, _ | 8, _ | 9, _ | 10, _ | 11, _ | 12, _ | 13, _ | 14, _ | 15, _ | 16, _ | 17, _ | 18, _ | 19, _ | 20, _ | 21, _ | 22, _ => rfl
  | j + 23, h => exact absurd h (by omega)
theorem back : ∀ j, j < 23 → strB (sb (tabS j)) = tabS j := by
  intro j h
  match j, h with
  | 0, _ | 1, _ | 2, _ | 3, _ | 4, _ | 5, _ | 6, _ | 7, _ | 8, _ | 9, _ | 10, _ | 11, _ | 12, _ | 13, _ | 14, _ | 15, _ | 16, _ | 17, _ | 18, _ | 19, _ | 20, _ | 21, _ | 22, _ => rfl
  | j + 23, h => exact absurd h (by omega)
theorem size : ∀ j, j < 23 → (tabS j).size ≤ 22 := by
  intro j h
  match j, h with
  | 0, _ | 1, _ | 2, _ | 3, _ | 4, _ | 5, _ | 6, _ | 7, _ | 8, _ | 9, _ | 10, _ | 11, _ | 12, _ | 13, _ | 14, _ | 15, _ | 16, _ | 17, _ | 18, _ | 19, _ | 20, _ | 21, _ | 22, _ => decide
  | j + 23, h => exact absurd h (by omega)
end Mb
set_option maxHeartbeats 4000000 in
set_option maxRecDepth 100000 in
theorem machBounds_core (hE : EncodeC10) (hD : DecodeC10) (hM : SameC10) (hA : AwakeC10) (n : Int) (w : World) :
    Calls Tryz.prog 4 #[.int .i64 n] w fun e w' => e = .returned (.bool true) ∧ Below w.heap.size w w' := by
  go_enter Tryz.func4, Tryz.ntmps4
  go_upto_region 2 with fail
  refine wp_region_held_drew (S := fun w' => True) (by kernel_rfl) trivial (fun _ => ?_)
  have hbd : Below w.heap.size w w.drew := (Below.refl _ _).drew
  generalize w.drew = wa at hbd ⊢
  have hS := Lib.hid True.intro
  refine wpAnyH_take (i := 0) (v := .string ⟨#[0, 0, 0, 0, 0]⟩) rfl (by kernel_rfl) (by kernel_rfl) (by kernel_rfl) (fun _ _ _ h => h) (Or.inl ⟨by kernel_rfl, fun w _ => by kernel_rfl⟩) hS.out ?_
  refine wpAnyH_take (i := 1) (v := .agg #[.string ⟨#[0, 0, 0, 0, 0]⟩, .bool true]) rfl (by kernel_rfl) (by kernel_rfl) (by kernel_rfl) (fun _ _ _ h => h) (Or.inl ⟨by kernel_rfl, fun w _ => by kernel_rfl⟩) hS.out ?_
  refine wpAnyH_take (i := 2) (v := .agg #[.string ⟨#[]⟩, .bool false]) rfl (by kernel_rfl) (by kernel_rfl) (by kernel_rfl) (fun _ _ _ h => h) (Or.inl ⟨by kernel_rfl, fun w _ => by kernel_rfl⟩) hS.out ?_
  refine wpAnyH_take (i := 3) (v := .string ⟨#[0, 0, 0, 0, 0]⟩) rfl (by kernel_rfl) (by kernel_rfl) (by kernel_rfl) (fun _ _ _ h => h) (Or.inl ⟨by kernel_rfl, fun w _ => by kernel_rfl⟩) hS.out ?_
  refine wpAnyH_take (i := 4) (v := .string ⟨#[0, 0, 0, 0, 0, 0]⟩) rfl (by kernel_rfl) (by kernel_rfl) (by kernel_rfl) (fun _ _ _ h => h) (Or.inl ⟨by kernel_rfl, fun w _ => by kernel_rfl⟩) hS.out ?_
  refine wpAnyH_take (i := 5) (v := .agg #[.string ⟨#[0, 0, 0, 0, 0, 0]⟩, .bool false]) rfl (by kernel_rfl) (by kernel_rfl) (by kernel_rfl) (fun _ _ _ h => h) (Or.inl ⟨by kernel_rfl, fun w _ => by kernel_rfl⟩) hS.out ?_
  refine wpAnyH_take (i := 6) (v := .string ⟨#[0, 0, 0, 0, 0]⟩) rfl (by kernel_rfl) (by kernel_rfl) (by kernel_rfl) (fun _ _ _ h => h) (Or.inl ⟨by kernel_rfl, fun w _ => by kernel_rfl⟩) hS.out ?_
  refine wpAnyH_take (i := 7) (v := .string ⟨#[0, 0, 0, 0]⟩) rfl (by kernel_rfl) (by kernel_rfl) (by kernel_rfl) (fun _ _ _ h => h) (Or.inl ⟨by kernel_rfl, fun w _ => by kernel_rfl⟩) hS.out ?_
  refine wpAnyH_take (i := 8) (v := .agg #[.string ⟨#[0, 0, 0, 0]⟩, .bool false]) rfl (by kernel_rfl) (by kernel_rfl) (by kernel_rfl) (fun _ _ _ h => h) (Or.inl ⟨by kernel_rfl, fun w _ => by kernel_rfl⟩) hS.out ?_
  refine wpAnyH_take (i := 9) (v := .string ⟨#[0, 0, 0, 0, 0]⟩) rfl (by kernel_rfl) (by kernel_rfl) (by kernel_rfl) (fun _ _ _ h => h) (Or.inl ⟨by kernel_rfl, fun w _ => by kernel_rfl⟩) hS.out ?_
  refine wpAnyH_take (i := 10) (v := .string ⟨#[0, 0, 0, 0]⟩) rfl (by kernel_rfl) (by kernel_rfl) (by kernel_rfl) (fun _ _ _ h => h) (Or.inl ⟨by kernel_rfl, fun w _ => by kernel_rfl⟩) hS.out ?_
  refine wpAnyH_take (i := 11) (v := .string ⟨#[16, 48, 49, 50, 51, 52, 53, 54, 55, 56, 57, 97, 98, 99, 100, 101, 102, 0, 0, 0, 0]⟩) rfl (by kernel_rfl) (by kernel_rfl) (by kernel_rfl) (fun _ _ _ h => h) (Or.inl ⟨by kernel_rfl, fun w _ => by kernel_rfl⟩) hS.out ?_
  refine wpAnyH_take (i := 12) (v := .agg #[.string ⟨#[16, 48, 49, 50, 51, 52, 53, 54, 55, 56, 57, 97, 98, 99, 100, 101, 102, 0, 0, 0, 0]⟩, .bool true]) rfl (by kernel_rfl) (by kernel_rfl) (by kernel_rfl) (fun _ _ _ h => h) (Or.inl ⟨by kernel_rfl, fun w _ => by kernel_rfl⟩) hS.out ?_
  refine wpAnyH_take (i := 13) (v := .string ⟨#[0, 0, 0, 0, 0]⟩) rfl (by kernel_rfl) (by kernel_rfl) (by kernel_rfl) (fun _ _ _ h => h) (Or.inl ⟨by kernel_rfl, fun w _ => by kernel_rfl⟩) hS.out ?_
  refine wpAnyH_take (i := 14) (v := .string ⟨#[0, 0, 0, 0]⟩) rfl (by kernel_rfl) (by kernel_rfl) (by kernel_rfl) (fun _ _ _ h => h) (Or.inl ⟨by kernel_rfl, fun w _ => by kernel_rfl⟩) hS.out ?_
  refine wpAnyH_take (i := 15) (v := .string ⟨#[17, 48, 49, 50, 51, 52, 53, 54, 55, 56, 57, 97, 98, 99, 100, 101, 102, 103, 0, 0, 0, 0]⟩) rfl (by kernel_rfl) (by kernel_rfl) (by kernel_rfl) (fun _ _ _ h => h) (Or.inl ⟨by kernel_rfl, fun w _ => by kernel_rfl⟩) hS.out ?_
  refine wpAnyH_take (i := 16) (v := .agg #[.string ⟨#[17, 48, 49, 50, 51, 52, 53, 54, 55, 56, 57, 97, 98, 99, 100, 101, 102, 103, 0, 0, 0, 0]⟩, .bool false]) rfl (by kernel_rfl) (by kernel_rfl) (by kernel_rfl) (fun _ _ _ h => h) (Or.inl ⟨by kernel_rfl, fun w _ => by kernel_rfl⟩) hS.out ?_
  refine wpAnyH_take (i := 17) (v := .agg #[.string ⟨#[0, 1, 1, 97, 0, 0, 0]⟩, .bool true]) rfl (by kernel_rfl) (by kernel_rfl) (by kernel_rfl) (fun _ _ _ h => h) (Or.inl ⟨by kernel_rfl, fun w _ => by kernel_rfl⟩) hS.out ?_
  refine wpAnyH_take (i := 18) (v := .agg #[.string ⟨#[0, 9, 0, 0, 0, 0, 0, 0, 0, 0, 0, 0, 0, 0]⟩, .bool false]) rfl (by kernel_rfl) (by kernel_rfl) (by kernel_rfl) (fun _ _ _ h => h) (Or.inl ⟨by kernel_rfl, fun w _ => by kernel_rfl⟩) hS.out ?_
  refine wpAnyH_take (i := 19) (v := .agg #[.string ⟨#[0, 0, 2, 5, 6, 0, 0]⟩, .bool true]) rfl (by kernel_rfl) (by kernel_rfl) (by kernel_rfl) (fun _ _ _ h => h) (Or.inl ⟨by kernel_rfl, fun w _ => by kernel_rfl⟩) hS.out ?_
  refine wpAnyH_take (i := 20) (v := .agg #[.string ⟨#[0, 0, 2, 5, 5, 0, 0]⟩, .bool false]) rfl (by kernel_rfl) (by kernel_rfl) (by kernel_rfl) (fun _ _ _ h => h) (Or.inl ⟨by kernel_rfl, fun w _ => by kernel_rfl⟩) hS.out ?_
  refine wpAnyH_take (i := 21) (v := .agg #[.string ⟨#[0, 0, 1, 231, 7, 0, 0]⟩, .bool true]) rfl (by kernel_rfl) (by kernel_rfl) (by kernel_rfl) (fun _ _ _ h => h) (Or.inl ⟨by kernel_rfl, fun w _ => by kernel_rfl⟩) hS.out ?_
  refine wpAnyH_take (i := 22) (v := .agg #[.string ⟨#[0, 0, 1, 232, 7, 0, 0]⟩, .bool false]) rfl (by kernel_rfl) (by kernel_rfl) (by kernel_rfl) (fun _ _ _ h => h) (Or.inl ⟨by kernel_rfl, fun w _ => by kernel_rfl⟩) hS.out ?_
  refine wpAnyH_take (i := 23) (v := .agg #[.string ⟨#[0, 0, 0, 2, 1, 97, 0, 1, 98, 0, 0]⟩, .bool true]) rfl (by kernel_rfl) (by kernel_rfl) (by kernel_rfl) (fun _ _ _ h => h) (Or.inl ⟨by kernel_rfl, fun w _ => by kernel_rfl⟩) hS.out ?_
  refine wpAnyH_take (i := 24) (v := .agg #[.string ⟨#[0, 0, 0, 2, 1, 98, 0, 1, 97, 0, 0]⟩, .bool false]) rfl (by kernel_rfl) (by kernel_rfl) (by kernel_rfl) (fun _ _ _ h => h) (Or.inl ⟨by kernel_rfl, fun w _ => by kernel_rfl⟩) hS.out ?_
  refine wpAnyH_take (i := 25) (v := .agg #[.string ⟨#[0, 0, 0, 2, 1, 97, 0, 1, 97, 0, 0]⟩, .bool false]) rfl (by kernel_rfl) (by kernel_rfl) (by kernel_rfl) (fun _ _ _ h => h) (Or.inl ⟨by kernel_rfl, fun w _ => by kernel_rfl⟩) hS.out ?_
  refine wpAnyH_take (i := 26) (v := .agg #[.string ⟨#[0, 0, 0, 0, 1, 1, 1, 0, 0, 0]⟩, .bool true]) rfl (by kernel_rfl) (by kernel_rfl) (by kernel_rfl) (fun _ _ _ h => h) (Or.inl ⟨by kernel_rfl, fun w _ => by kernel_rfl⟩) hS.out ?_
  refine wpAnyH_take (i := 27) (v := .agg #[.string ⟨#[0, 0, 0, 0, 1, 0, 1, 0, 0, 0]⟩, .bool false]) rfl (by kernel_rfl) (by kernel_rfl) (by kernel_rfl) (fun _ _ _ h => h) (Or.inl ⟨by kernel_rfl, fun w _ => by kernel_rfl⟩) hS.out ?_
  refine wpAnyH_take (i := 28) (v := .agg #[.string ⟨#[0, 0, 0, 0, 1, 1, 0, 0, 0, 0]⟩, .bool false]) rfl (by kernel_rfl) (by kernel_rfl) (by kernel_rfl) (fun _ _ _ h => h) (Or.inl ⟨by kernel_rfl, fun w _ => by kernel_rfl⟩) hS.out ?_
  refine wpAnyH_take (i := 29) (v := .agg #[.string ⟨#[0, 0, 0, 0, 1, 1, 1, 10, 0, 0]⟩, .bool true]) rfl (by kernel_rfl) (by kernel_rfl) (by kernel_rfl) (fun _ _ _ h => h) (Or.inl ⟨by kernel_rfl, fun w _ => by kernel_rfl⟩) hS.out ?_
  refine wpAnyH_take (i := 30) (v := .agg #[.string ⟨#[0, 0, 0, 0, 1, 1, 1, 11, 0, 0]⟩, .bool false]) rfl (by kernel_rfl) (by kernel_rfl) (by kernel_rfl) (fun _ _ _ h => h) (Or.inl ⟨by kernel_rfl, fun w _ => by kernel_rfl⟩) hS.out ?_
  refine wpAnyH_take (i := 31) (v := .agg #[.string ⟨#[0, 0, 0, 0, 2, 2, 1, 0, 0, 0, 1, 1, 0, 0, 0]⟩, .bool false]) rfl (by kernel_rfl) (by kernel_rfl) (by kernel_rfl) (fun _ _ _ h => h) (Or.inl ⟨by kernel_rfl, fun w _ => by kernel_rfl⟩) hS.out ?_
  refine wpAnyH_take (i := 32) (v := .agg #[.string ⟨#[0, 0, 0, 0, 2, 1, 1, 0, 0, 0, 2, 1, 0, 0, 0]⟩, .bool true]) rfl (by kernel_rfl) (by kernel_rfl) (by kernel_rfl) (fun _ _ _ h => h) (Or.inl ⟨by kernel_rfl, fun w _ => by kernel_rfl⟩) hS.out ?_
  refine wpAnyH_ready (rs := [33]) (by kernel_rfl) (by simp) ?_
  refine AllReadyH.cons rfl (fun K hK => ?_) AllReadyH.nil
  go_simp
  refine hK.out _ _ hS.out (fun _ => ?_)
  clear hK K
  refine wpAnyH_ready (rs := [34]) (by kernel_rfl) (by simp) ?_
  refine AllReadyH.cons rfl (fun K hK => ?_) AllReadyH.nil
  go_simp
  refine hK.out _ _ hS.out (fun _ => ?_)
  clear hK K
  refine wpAnyH_ready (rs := [35]) (by kernel_rfl) (by simp) ?_
  refine AllReadyH.cons rfl (fun K hK => ?_) AllReadyH.nil
  go_simp
  refine hK.out _ _ hS.out (fun _ => ?_)
  clear hK K
  refine wpAnyH_done (by kernel_rfl) ?_ _
  have hb1 : Below w.heap.size w (wa.alloc (.cells Mb.cells 46)) := (hbd.alloc hbd.size _)
  have HB1 := Lib.hid hb1
  have HK1 := Lib.hid (Blk.new wa 46 Mb.cells)
  have h255 := and_255 n
  obtain ⟨j, hj, hj23⟩ : ∃ j : Nat, n % 256 % 23 = (j : Int) ∧ j < 23 := ⟨(n % 256 % 23).toNat, by omega, by omega⟩
  have hji : (j : Int) < 23 := by omega
  clear hb1
  go_upto_region 3 with fail
  have hcs : (#[.string ⟨#[0, 0, 0, 0, 0]⟩, .bool true, .string ⟨#[]⟩, .bool false, .string ⟨#[0, 0, 0, 0, 0, 0]⟩, .bool false, .string ⟨#[0, 0, 0, 0]⟩, .bool false, .string ⟨#[16, 48, 49, 50, 51, 52, 53, 54, 55, 56, 57, 97, 98, 99, 100, 101, 102, 0, 0, 0, 0]⟩, .bool true, .string ⟨#[17, 48, 49, 50, 51, 52, 53, 54, 55, 56, 57, 97, 98, 99, 100, 101, 102, 103, 0, 0, 0, 0]⟩, .bool false, .string ⟨#[0, 1, 1, 97, 0, 0, 0]⟩, .bool true, .string ⟨#[0, 9, 0, 0, 0, 0, 0, 0, 0, 0, 0, 0, 0, 0]⟩, .bool false, .string ⟨#[0, 0, 2, 5, 6, 0, 0]⟩, .bool true, .string ⟨#[0, 0, 2, 5, 5, 0, 0]⟩, .bool false, .string ⟨#[0, 0, 1, 231, 7, 0, 0]⟩, .bool true, .string ⟨#[0, 0, 1, 232, 7, 0, 0]⟩, .bool false, .string ⟨#[0, 0, 0, 2, 1, 97, 0, 1, 98, 0, 0]⟩, .bool true, .string ⟨#[0, 0, 0, 2, 1, 98, 0, 1, 97, 0, 0]⟩, .bool false, .string ⟨#[0, 0, 0, 2, 1, 97, 0, 1, 97, 0, 0]⟩, .bool false, .string ⟨#[0, 0, 0, 0, 1, 1, 1, 0, 0, 0]⟩, .bool true, .string ⟨#[0, 0, 0, 0, 1, 0, 1, 0, 0, 0]⟩, .bool false, .string ⟨#[0, 0, 0, 0, 1, 1, 0, 0, 0, 0]⟩, .bool false, .string ⟨#[0, 0, 0, 0, 1, 1, 1, 10, 0, 0]⟩, .bool true, .string ⟨#[0, 0, 0, 0, 1, 1, 1, 11, 0, 0]⟩, .bool false, .string ⟨#[0, 0, 0, 0, 2, 2, 1, 0, 0, 0, 1, 1, 0, 0, 0]⟩, .bool false, .string ⟨#[0, 0, 0, 0, 2, 1, 1, 0, 0, 0, 2, 1, 0, 0, 0]⟩, .bool true, .string ⟨#[128, 0, 0, 0, 0, 0]⟩, .bool false] : Array Value) = Mb.cells := rfl
  rw [hcs]
  generalize wa.alloc (.cells Mb.cells 46) = wb at HB1 HK1 ⊢
  have hc1 := (HK1.out.cell (j * 2)).trans (Mb.cell_s j hj23)
  have hc2 := (HK1.out.cell (j * 2 + 1)).trans (Mb.cell_k j hj23)
  obtain ⟨s, hs⟩ : ∃ s, Mb.tabS j = s := ⟨_, rfl⟩
  obtain ⟨k, hk⟩ : ∃ k, Mb.tabK j = k := ⟨_, rfl⟩
  have hok := Mb.ok_all j hj23
  have hback := Mb.back j hj23
  have hsz := Mb.size j hj23
  unfold Mb.ok at hok
  rw [hs] at hc1 hok hback hsz
  rw [hk] at hc2 hok
  have HOK := Lib.hid hok
  have HBACK := Lib.hid hback
  have HSZ := Lib.hid hsz
  clear hok hback hsz hs hk hcs hS
  go_upto_region 4 with fail
  have kc := fun (w : World) (s : ByteArray) => run_bytes_of_string (P := Tryz.prog) w 9 24 5 s Tryz.underlying9 Tryz.underlying24 Tryz.underlying5
  have HK2 := Lib.hid (Blk.new wb 46 #[.string s, .bool k])
  have HB2 := Lib.hid (HB1.out.alloc HB1.out.size (.cells #[.string s, .bool k] 46))
  generalize wb.alloc (.cells #[.string s, .bool k] 46) = wc at HK2 HB2 ⊢
  have kx0 : wc.cell? ⟨wb.heap.size, 0, none⟩ = some (.string s) := HK2.out.cell 0
  have kx1 : wc.cell? ⟨wb.heap.size, 1, none⟩ = some (.bool k) := HK2.out.cell 1
  clear hc1 hc2 h255 hj hji
  have HC1 := Lib.hid (grownCap_ge wc s.size 0 5)
  have HC2 := Lib.hid (grownCap_le_maxLen wc s.size 0 5 (by have := HSZ.out; unfold maxLen; omega))
  have HLEN : Hid ((sb s).length ≤ 22) := Lib.hid (by rw [sb_len]; exact HSZ.out)
  cases hr : Mc.dec (sb s) with
  | none =>
    have hok := HOK.out
    rw [hr] at hok
    have hkf : k = false := by simpa using hok
    subst hkf
    clear hok
    have HR := Lib.hid hr
    clear hr
    go_upto_region 5 with (first
      | (go_at_call 13
         obtain ⟨cp, hcp⟩ : ∃ cp, grownCap wc s.size 0 5 = cp := ⟨_, rfl⟩
         have hc1 := HC1.out
         have hc2 := HC2.out
         rw [hcp] at hc1 hc2 ⊢
         have hrd := Rd.of_stringAt wc.drew s cp 5 ((bytesRow s cp).size, (bytesRow s cp).size + 1) (g := wc.heap.size) rfl
         rw [sb_len] at hrd
         have hb3 : Below wc.heap.size wc ((wc.alloc (.cells (bytesRow s cp) 5 ((bytesRow s cp).size, (bytesRow s cp).size + 1))).drew) := ((Below.refl _ _).alloc (Nat.le_refl _) _).drew
         refine (hD.is (W := w) (c := cp) HR.out (by have := HLEN.out; omega) (sb_lt s) hc1 hc2 hrd (HB2.out.trans (hb3.mono HB2.out.size))).mono ?_
         rintro en w6 ⟨a6, he, ho, hB, hb⟩
         have he2 : en = .returned (.tuple #[.agg #[.slice a6.o.A0 0 a6.o.c0, .slice a6.o.A1 0 a6.o.c1, .slice a6.o.A2 0 a6.o.c2, .slice a6.o.A3 0 a6.o.c3, .slice a6.At 0 a6.ct], .bool false]) := he
         clear he
         subst he2
         have bb := (Below.refl w6.heap.size w6).alloc (Nat.le_refl _) (.cells #[.slice a6.o.A0 0 a6.o.c0, .slice a6.o.A1 0 a6.o.c1, .slice a6.o.A2 0 a6.o.c2, .slice a6.o.A3 0 a6.o.c3, .slice a6.At 0 a6.ct] 37)
         have HK3 := Lib.hid (((HK2.out.below hb3).below hb).below bb)
         have HM6 := Lib.hid (OwnM.below (m := Mc.zero) ho bb)
         have HKM := Lib.hid (Blk.new w6 37 #[.slice a6.o.A0 0 a6.o.c0, .slice a6.o.A1 0 a6.o.c1, .slice a6.o.A2 0 a6.o.c2, .slice a6.o.A3 0 a6.o.c3, .slice a6.At 0 a6.ct])
         have HB6 := Lib.hid (hB.trans (bb.mono hB.size))
         clear hc1 hc2 hrd hb3 ho hB hb bb)
      | fail)
    have HS : Hid ((fun w' => Blk w' wb.heap.size 46 #[.string s, .bool false] ∧ Blk w' w6.heap.size 37 #[.slice a6.o.A0 0 a6.o.c0, .slice a6.o.A1 0 a6.o.c1, .slice a6.o.A2 0 a6.o.c2, .slice a6.o.A3 0 a6.o.c3, .slice a6.At 0 a6.ct]) (w6.alloc (.cells #[.slice a6.o.A0 0 a6.o.c0, .slice a6.o.A1 0 a6.o.c1, .slice a6.o.A2 0 a6.o.c2, .slice a6.o.A3 0 a6.o.c3, .slice a6.At 0 a6.ct] 37)).drew) := Lib.hid ⟨HK3.out.drew, HKM.out.drew⟩
    refine wp_region_held_drew (S := fun w' => Blk w' wb.heap.size 46 #[.string s, .bool false] ∧ Blk w' w6.heap.size 37 #[.slice a6.o.A0 0 a6.o.c0, .slice a6.o.A1 0 a6.o.c1, .slice a6.o.A2 0 a6.o.c2, .slice a6.o.A3 0 a6.o.c3, .slice a6.At 0 a6.ct]) (by kernel_rfl) HS.out (fun _ => ?_)
    have HM7 := Lib.hid (HM6.out.below (Below.refl _ _).drew)
    have HB7 := Lib.hid HB6.out.drew
    clear HK3 HKM HM6 HB6 kx0 kx1
    generalize (w6.alloc (.cells #[.slice a6.o.A0 0 a6.o.c0, .slice a6.o.A1 0 a6.o.c1, .slice a6.o.A2 0 a6.o.c2, .slice a6.o.A3 0 a6.o.c3, .slice a6.At 0 a6.ct] 37)).drew = w7 at HS HM7 HB7 ⊢
    refine wpAnyH_take (i := 0) (v := .bool false) rfl (by kernel_rfl) (by kernel_rfl) (by kernel_rfl) (fun _ _ _ h => h) (Or.inl ⟨by kernel_rfl, fun w _ => by go_simp⟩) HS.out ?_
    refine wpAnyH_take (i := 1) (v := .pointer (some ⟨wb.heap.size, 1, none⟩)) rfl (by kernel_rfl) (by kernel_rfl) (by kernel_rfl) (fun _ _ _ h => h) (Or.inl ⟨by kernel_rfl, fun w _ => by go_simp⟩) HS.out ?_
    refine wpAnyH_take (i := 2) (v := .bool false) rfl (by kernel_rfl) (by kernel_rfl) (by kernel_rfl) (fun _ _ _ h => h) (Or.inl ⟨by kernel_rfl, fun w h => by have q := h.1.cell 1; have q0 : w.cell? ⟨wb.heap.size, 1, none⟩ = some (.bool false) := q; go_simp⟩) HS.out ?_
    refine wpAnyH_take (i := 3) (v := .bool true) rfl (by kernel_rfl) (by kernel_rfl) (by kernel_rfl) (fun _ _ _ h => h) (Or.inl ⟨by kernel_rfl, fun w _ => by go_simp⟩) HS.out ?_
    refine wpAnyH_take (i := 4) (v := .bool true) rfl (by kernel_rfl) (by kernel_rfl) (by kernel_rfl) (fun _ _ _ h => h) (Or.inl ⟨by kernel_rfl, fun w _ => by go_simp⟩) HS.out ?_
    refine wpAnyH_take (i := 5) (v := .bool false) rfl (by kernel_rfl) (by kernel_rfl) (by kernel_rfl) (fun _ _ _ h => h) (Or.inl ⟨by kernel_rfl, fun w _ => by go_simp⟩) HS.out ?_
    refine wpAnyH_take (i := 6) (v := .bool true) rfl (by kernel_rfl) (by kernel_rfl) (by kernel_rfl) (fun _ _ _ h => h) (Or.inl ⟨by kernel_rfl, fun w _ => by go_simp⟩) HS.out ?_
    refine wpAnyH_take (i := 7) (v := .bool true) rfl (by kernel_rfl) (by kernel_rfl) (by kernel_rfl) (fun _ _ _ h => h) (Or.inl ⟨by kernel_rfl, fun w _ => by go_simp⟩) HS.out ?_
    refine wpAnyH_take (i := 8) (v := .agg #[.slice a6.o.A0 0 a6.o.c0, .slice a6.o.A1 0 a6.o.c1, .slice a6.o.A2 0 a6.o.c2, .slice a6.o.A3 0 a6.o.c3, .slice a6.At 0 a6.ct]) rfl (by kernel_rfl) (by kernel_rfl) (by kernel_rfl) (fun _ _ _ h => h) (Or.inl ⟨by kernel_rfl, fun w h => by obtain ⟨q0, q1, q2, q3, q4⟩ := five h.2; go_simp⟩) HS.out ?_
    refine wpAnyH_take (i := 9) (v := .agg #[.slice none 0 0, .slice none 0 0, .slice none 0 0, .slice none 0 0, .slice none 0 0]) rfl (by kernel_rfl) (by kernel_rfl) (by kernel_rfl) (fun _ _ _ h => h) (Or.inl ⟨by kernel_rfl, fun w _ => by go_simp⟩) HS.out ?_
    refine wpAnyH_ready (rs := [10]) (by kernel_rfl) (by simp) ?_
    refine AllReadyH.cons rfl (fun K hK => ?_) AllReadyH.nil
    go_simp
    refine (hM.is w7 (a := a6) (a' := ⟨⟨none, 0, none, 0, none, 0, none, 0⟩, none, 0⟩) (m := Mc.zero) (m' := Mc.zero) (b := true) (decide_eq_true rfl) Mc.Ok.zero Mc.Ok.zero HM7.out.rd (RdM.zero w7 0)).mono ?_
    rintro en w8 ⟨rfl, hb8⟩
    have HS : Hid ((fun w' => Blk w' wb.heap.size 46 #[.string s, .bool false] ∧ Blk w' w6.heap.size 37 #[.slice a6.o.A0 0 a6.o.c0, .slice a6.o.A1 0 a6.o.c1, .slice a6.o.A2 0 a6.o.c2, .slice a6.o.A3 0 a6.o.c3, .slice a6.At 0 a6.ct]) w8) := Lib.hid ⟨HS.out.1.below hb8, HS.out.2.below hb8⟩
    have HM7 := Lib.hid (HM7.out.below hb8)
    have HB7 := Lib.hid (HB7.out.trans (hb8.mono HB7.out.size))
    clear hb8
    go_simp
    refine hK.out _ _ HS.out (fun _ => ?_)
    clear hK K
    refine wpAnyH_take (i := 11) (v := .bool true) rfl (by kernel_rfl) (by kernel_rfl) (by kernel_rfl) (fun _ _ _ h => h) (Or.inl ⟨by kernel_rfl, fun w _ => by go_simp⟩) HS.out ?_
    refine wpAnyH_take (i := 12) (v := .bool true) rfl (by kernel_rfl) (by kernel_rfl) (by kernel_rfl) (fun _ _ _ h => h) (Or.inl ⟨by kernel_rfl, fun w _ => by go_simp⟩) HS.out ?_
    refine wpAnyH_take (i := 13) (v := undef) rfl (by kernel_rfl) (by kernel_rfl) (by kernel_rfl) (fun _ _ _ h => h) (Or.inr ⟨by kernel_rfl, rfl⟩) HS.out ?_
    refine wpAnyH_take (i := 14) (v := undef) rfl (by kernel_rfl) (by kernel_rfl) (by kernel_rfl) (fun _ _ _ h => h) (Or.inr ⟨by kernel_rfl, rfl⟩) HS.out ?_
    refine wpAnyH_take (i := 15) (v := undef) rfl (by kernel_rfl) (by kernel_rfl) (by kernel_rfl) (fun _ _ _ h => h) (Or.inr ⟨by kernel_rfl, rfl⟩) HS.out ?_
    refine wpAnyH_take (i := 16) (v := undef) rfl (by kernel_rfl) (by kernel_rfl) (by kernel_rfl) (fun _ _ _ h => h) (Or.inr ⟨by kernel_rfl, rfl⟩) HS.out ?_
    refine wpAnyH_take (i := 17) (v := undef) rfl (by kernel_rfl) (by kernel_rfl) (by kernel_rfl) (fun _ _ _ h => h) (Or.inr ⟨by kernel_rfl, rfl⟩) HS.out ?_
    refine wpAnyH_take (i := 18) (v := undef) rfl (by kernel_rfl) (by kernel_rfl) (by kernel_rfl) (fun _ _ _ h => h) (Or.inr ⟨by kernel_rfl, rfl⟩) HS.out ?_
    refine wpAnyH_take (i := 19) (v := undef) rfl (by kernel_rfl) (by kernel_rfl) (by kernel_rfl) (fun _ _ _ h => h) (Or.inr ⟨by kernel_rfl, rfl⟩) HS.out ?_
    refine wpAnyH_take (i := 20) (v := undef) rfl (by kernel_rfl) (by kernel_rfl) (by kernel_rfl) (fun _ _ _ h => h) (Or.inr ⟨by kernel_rfl, rfl⟩) HS.out ?_
    refine wpAnyH_take (i := 21) (v := undef) rfl (by kernel_rfl) (by kernel_rfl) (by kernel_rfl) (fun _ _ _ h => h) (Or.inr ⟨by kernel_rfl, rfl⟩) HS.out ?_
    refine wpAnyH_take (i := 22) (v := .bool true) rfl (by kernel_rfl) (by kernel_rfl) (by kernel_rfl) (fun _ _ _ h => h) (Or.inl ⟨by kernel_rfl, fun w _ => by go_simp⟩) HS.out ?_
    refine wpAnyH_take (i := 23) (v := .bool true) rfl (by kernel_rfl) (by kernel_rfl) (by kernel_rfl) (fun _ _ _ h => h) (Or.inl ⟨by kernel_rfl, fun w _ => by go_simp⟩) HS.out ?_
    refine wpAnyH_take (i := 24) (v := .bool true) rfl (by kernel_rfl) (by kernel_rfl) (by kernel_rfl) (fun _ _ _ h => h) (Or.inl ⟨by kernel_rfl, fun w _ => by go_simp⟩) HS.out ?_
    refine wpAnyH_ready (rs := [25]) (by kernel_rfl) (by simp) ?_
    refine AllReadyH.cons rfl (fun K hK => ?_) AllReadyH.nil
    go_simp
    refine (hA _).mono ?_
    rintro en w10 ⟨rfl, hb10⟩
    have HS : Hid ((fun w' => Blk w' wb.heap.size 46 #[.string s, .bool false] ∧ Blk w' w6.heap.size 37 #[.slice a6.o.A0 0 a6.o.c0, .slice a6.o.A1 0 a6.o.c1, .slice a6.o.A2 0 a6.o.c2, .slice a6.o.A3 0 a6.o.c3, .slice a6.At 0 a6.ct]) w10) := Lib.hid ⟨HS.out.1.below hb10, HS.out.2.below hb10⟩
    have HM7 := Lib.hid (HM7.out.below hb10)
    have HB7 := Lib.hid (HB7.out.trans (hb10.mono HB7.out.size))
    clear hb10
    go_simp
    refine hK.out _ _ HS.out (fun _ => ?_)
    clear hK K
    refine wpAnyH_take (i := 26) (v := .bool true) rfl (by kernel_rfl) (by kernel_rfl) (by kernel_rfl) (fun _ _ _ h => h) (Or.inl ⟨by kernel_rfl, fun w _ => by go_simp⟩) HS.out ?_
    refine wpAnyH_ready (rs := [27]) (by kernel_rfl) (by simp) ?_
    refine AllReadyH.cons rfl (fun K hK => ?_) AllReadyH.nil
    go_simp
    refine hK.out _ _ HS.out (fun _ => ?_)
    clear hK K
    refine wpAnyH_done (by kernel_rfl) ?_ _
    go_wp2_with fail
    go_ret
    exact ⟨rfl, HB7.out⟩
  | some m =>
    have hok := HOK.out
    rw [hr] at hok
    have hk2 : k = true ∧ m.enc = sb s := by simpa using hok
    obtain ⟨rfl, henc⟩ := hk2
    have HENC := Lib.hid henc
    have HMO : Hid m.Ok := Lib.hid (Mc.dec_ok (sb_lt s) hr)
    clear hok henc
    have HR := Lib.hid hr
    clear hr
    go_upto_region 5 with (first
      | (go_at_call 13
         obtain ⟨cp, hcp⟩ : ∃ cp, grownCap wc s.size 0 5 = cp := ⟨_, rfl⟩
         have hc1 := HC1.out
         have hc2 := HC2.out
         rw [hcp] at hc1 hc2 ⊢
         have hrd := Rd.of_stringAt wc.drew s cp 5 ((bytesRow s cp).size, (bytesRow s cp).size + 1) (g := wc.heap.size) rfl
         rw [sb_len] at hrd
         have hb3 : Below wc.heap.size wc ((wc.alloc (.cells (bytesRow s cp) 5 ((bytesRow s cp).size, (bytesRow s cp).size + 1))).drew) := ((Below.refl _ _).alloc (Nat.le_refl _) _).drew
         refine (hD.is (W := w) (c := cp) HR.out (by have := HLEN.out; omega) (sb_lt s) hc1 hc2 hrd (HB2.out.trans (hb3.mono HB2.out.size))).mono ?_
         rintro en w6 ⟨a6, he, ho, hB, hb⟩
         have he2 : en = .returned (.tuple #[.agg #[.slice a6.o.A0 m.o.reg.length a6.o.c0, .slice a6.o.A1 m.o.q.length a6.o.c1, .slice a6.o.A2 m.o.lk.length a6.o.c2, .slice a6.o.A3 m.o.mp.length a6.o.c3, .slice a6.At m.t.length a6.ct], .bool true]) := he
         clear he
         subst he2
         have bb := (Below.refl w6.heap.size w6).alloc (Nat.le_refl _) (.cells #[.slice a6.o.A0 m.o.reg.length a6.o.c0, .slice a6.o.A1 m.o.q.length a6.o.c1, .slice a6.o.A2 m.o.lk.length a6.o.c2, .slice a6.o.A3 m.o.mp.length a6.o.c3, .slice a6.At m.t.length a6.ct] 37)
         have HK3 := Lib.hid (((HK2.out.below hb3).below hb).below bb)
         have HM6 := Lib.hid (OwnM.below (m := m) ho bb)
         have HKM := Lib.hid (Blk.new w6 37 #[.slice a6.o.A0 m.o.reg.length a6.o.c0, .slice a6.o.A1 m.o.q.length a6.o.c1, .slice a6.o.A2 m.o.lk.length a6.o.c2, .slice a6.o.A3 m.o.mp.length a6.o.c3, .slice a6.At m.t.length a6.ct])
         have HB6 := Lib.hid (hB.trans (bb.mono hB.size))
         clear hc1 hc2 hrd hb3 ho hB hb bb)
      | fail)
    have HS : Hid ((fun w' => Blk w' wb.heap.size 46 #[.string s, .bool true] ∧ Blk w' w6.heap.size 37 #[.slice a6.o.A0 m.o.reg.length a6.o.c0, .slice a6.o.A1 m.o.q.length a6.o.c1, .slice a6.o.A2 m.o.lk.length a6.o.c2, .slice a6.o.A3 m.o.mp.length a6.o.c3, .slice a6.At m.t.length a6.ct]) (w6.alloc (.cells #[.slice a6.o.A0 m.o.reg.length a6.o.c0, .slice a6.o.A1 m.o.q.length a6.o.c1, .slice a6.o.A2 m.o.lk.length a6.o.c2, .slice a6.o.A3 m.o.mp.length a6.o.c3, .slice a6.At m.t.length a6.ct] 37)).drew) := Lib.hid ⟨HK3.out.drew, HKM.out.drew⟩
    refine wp_region_held_drew (S := fun w' => Blk w' wb.heap.size 46 #[.string s, .bool true] ∧ Blk w' w6.heap.size 37 #[.slice a6.o.A0 m.o.reg.length a6.o.c0, .slice a6.o.A1 m.o.q.length a6.o.c1, .slice a6.o.A2 m.o.lk.length a6.o.c2, .slice a6.o.A3 m.o.mp.length a6.o.c3, .slice a6.At m.t.length a6.ct]) (by kernel_rfl) HS.out (fun _ => ?_)
    have HM7 := Lib.hid (HM6.out.below (Below.refl _ _).drew)
    have HB7 := Lib.hid HB6.out.drew
    clear HK3 HKM HM6 HB6 kx0 kx1
    generalize (w6.alloc (.cells #[.slice a6.o.A0 m.o.reg.length a6.o.c0, .slice a6.o.A1 m.o.q.length a6.o.c1, .slice a6.o.A2 m.o.lk.length a6.o.c2, .slice a6.o.A3 m.o.mp.length a6.o.c3, .slice a6.At m.t.length a6.ct] 37)).drew = w7 at HS HM7 HB7 ⊢
    refine wpAnyH_take (i := 0) (v := .bool true) rfl (by kernel_rfl) (by kernel_rfl) (by kernel_rfl) (fun _ _ _ h => h) (Or.inl ⟨by kernel_rfl, fun w _ => by go_simp⟩) HS.out ?_
    refine wpAnyH_take (i := 1) (v := .pointer (some ⟨wb.heap.size, 1, none⟩)) rfl (by kernel_rfl) (by kernel_rfl) (by kernel_rfl) (fun _ _ _ h => h) (Or.inl ⟨by kernel_rfl, fun w _ => by go_simp⟩) HS.out ?_
    refine wpAnyH_take (i := 2) (v := .bool true) rfl (by kernel_rfl) (by kernel_rfl) (by kernel_rfl) (fun _ _ _ h => h) (Or.inl ⟨by kernel_rfl, fun w h => by have q := h.1.cell 1; have q0 : w.cell? ⟨wb.heap.size, 1, none⟩ = some (.bool true) := q; go_simp⟩) HS.out ?_
    refine wpAnyH_take (i := 3) (v := .bool true) rfl (by kernel_rfl) (by kernel_rfl) (by kernel_rfl) (fun _ _ _ h => h) (Or.inl ⟨by kernel_rfl, fun w _ => by go_simp⟩) HS.out ?_
    refine wpAnyH_take (i := 4) (v := .bool true) rfl (by kernel_rfl) (by kernel_rfl) (by kernel_rfl) (fun _ _ _ h => h) (Or.inl ⟨by kernel_rfl, fun w _ => by go_simp⟩) HS.out ?_
    refine wpAnyH_take (i := 5) (v := .bool true) rfl (by kernel_rfl) (by kernel_rfl) (by kernel_rfl) (fun _ _ _ h => h) (Or.inl ⟨by kernel_rfl, fun w _ => by go_simp⟩) HS.out ?_
    refine wpAnyH_take (i := 6) (v := .bool false) rfl (by kernel_rfl) (by kernel_rfl) (by kernel_rfl) (fun _ _ _ h => h) (Or.inl ⟨by kernel_rfl, fun w _ => by go_simp⟩) HS.out ?_
    refine wpAnyH_take (i := 7) (v := .bool false) rfl (by kernel_rfl) (by kernel_rfl) (by kernel_rfl) (fun _ _ _ h => h) (Or.inl ⟨by kernel_rfl, fun w _ => by go_simp⟩) HS.out ?_
    refine wpAnyH_take (i := 8) (v := undef) rfl (by kernel_rfl) (by kernel_rfl) (by kernel_rfl) (fun _ _ _ h => h) (Or.inr ⟨by kernel_rfl, rfl⟩) HS.out ?_
    refine wpAnyH_take (i := 9) (v := undef) rfl (by kernel_rfl) (by kernel_rfl) (by kernel_rfl) (fun _ _ _ h => h) (Or.inr ⟨by kernel_rfl, rfl⟩) HS.out ?_
    refine wpAnyH_take (i := 10) (v := undef) rfl (by kernel_rfl) (by kernel_rfl) (by kernel_rfl) (fun _ _ _ h => h) (Or.inr ⟨by kernel_rfl, rfl⟩) HS.out ?_
    refine wpAnyH_take (i := 11) (v := .bool false) rfl (by kernel_rfl) (by kernel_rfl) (by kernel_rfl) (fun _ _ _ h => h) (Or.inl ⟨by kernel_rfl, fun w _ => by go_simp⟩) HS.out ?_
    refine wpAnyH_take (i := 12) (v := .bool false) rfl (by kernel_rfl) (by kernel_rfl) (by kernel_rfl) (fun _ _ _ h => h) (Or.inl ⟨by kernel_rfl, fun w _ => by go_simp⟩) HS.out ?_
    refine wpAnyH_take (i := 13) (v := .bool true) rfl (by kernel_rfl) (by kernel_rfl) (by kernel_rfl) (fun _ _ _ h => h) (Or.inl ⟨by kernel_rfl, fun w _ => by go_simp⟩) HS.out ?_
    refine wpAnyH_take (i := 14) (v := .bool true) rfl (by kernel_rfl) (by kernel_rfl) (by kernel_rfl) (fun _ _ _ h => h) (Or.inl ⟨by kernel_rfl, fun w _ => by go_simp⟩) HS.out ?_
    refine wpAnyH_take (i := 15) (v := .agg #[.slice a6.o.A0 m.o.reg.length a6.o.c0, .slice a6.o.A1 m.o.q.length a6.o.c1, .slice a6.o.A2 m.o.lk.length a6.o.c2, .slice a6.o.A3 m.o.mp.length a6.o.c3, .slice a6.At m.t.length a6.ct]) rfl (by kernel_rfl) (by kernel_rfl) (by kernel_rfl) (fun _ _ _ h => h) (Or.inl ⟨by kernel_rfl, fun w h => by obtain ⟨q0, q1, q2, q3, q4⟩ := five h.2; go_simp⟩) HS.out ?_
    refine wpAnyH_take (i := 18) (v := .pointer (some ⟨wb.heap.size, 0, none⟩)) rfl (by kernel_rfl) (by kernel_rfl) (by kernel_rfl) (fun _ _ _ h => h) (Or.inl ⟨by kernel_rfl, fun w _ => by go_simp⟩) HS.out ?_
    refine wpAnyH_take (i := 19) (v := .string s) rfl (by kernel_rfl) (by kernel_rfl) (by kernel_rfl) (fun _ _ _ h => h) (Or.inl ⟨by kernel_rfl, fun w h => by have q := h.1.cell 0; have q0 : w.cell? ⟨wb.heap.size, 0, none⟩ = some (.string s) := q; go_simp⟩) HS.out ?_
    refine wpAnyH_ready (rs := [16]) (by kernel_rfl) (by simp) ?_
    refine AllReadyH.cons rfl (fun K hK => ?_) AllReadyH.nil
    go_simp
    have ce := hE (W := w7) (w := w7) (a := a6) HMO.out HM7.out.rd (Below.refl _ _)
    rw [HENC.out] at ce
    refine ce.mono ?_
    rintro en w8 ⟨A8, c8, rfl, ho8, hB8, hb8⟩
    have HS : Hid ((fun w' => Blk w' wb.heap.size 46 #[.string s, .bool true] ∧ Blk w' w6.heap.size 37 #[.slice a6.o.A0 m.o.reg.length a6.o.c0, .slice a6.o.A1 m.o.q.length a6.o.c1, .slice a6.o.A2 m.o.lk.length a6.o.c2, .slice a6.o.A3 m.o.mp.length a6.o.c3, .slice a6.At m.t.length a6.ct]) w8) := Lib.hid ⟨HS.out.1.below hb8, HS.out.2.below hb8⟩
    have HM7 := Lib.hid (HM7.out.below hb8)
    have HB7 := Lib.hid (HB7.out.trans (hb8.mono HB7.out.size))
    have hstr := str_of (c := c8) (Rd.own_ ho8)
    rw [HBACK.out] at hstr
    have hself : (s == s) = true := by rw [ba_beq]; simp
    have hself2 : (s.toList == s.toList) = true := by simp
    clear ho8 hB8 hb8 ce
    go_simp
    refine hK.out _ _ HS.out (fun _ => ?_)
    clear hK K
    refine wpAnyH_ready (rs := [17]) (by kernel_rfl) (by simp) ?_
    refine AllReadyH.cons rfl (fun K hK => ?_) AllReadyH.nil
    go_simp
    refine hK.out _ _ HS.out (fun _ => ?_)
    clear hK K
    refine wpAnyH_take (i := 20) (v := .bool true) rfl (by kernel_rfl) (by kernel_rfl) (by kernel_rfl) (fun _ _ _ h => h) (Or.inl ⟨by kernel_rfl, fun w _ => by go_simp⟩) HS.out ?_
    refine wpAnyH_take (i := 21) (v := .bool true) rfl (by kernel_rfl) (by kernel_rfl) (by kernel_rfl) (fun _ _ _ h => h) (Or.inl ⟨by kernel_rfl, fun w _ => by go_simp⟩) HS.out ?_
    refine wpAnyH_take (i := 22) (v := .bool true) rfl (by kernel_rfl) (by kernel_rfl) (by kernel_rfl) (fun _ _ _ h => h) (Or.inl ⟨by kernel_rfl, fun w _ => by go_simp⟩) HS.out ?_
    refine wpAnyH_take (i := 23) (v := .bool true) rfl (by kernel_rfl) (by kernel_rfl) (by kernel_rfl) (fun _ _ _ h => h) (Or.inl ⟨by kernel_rfl, fun w _ => by go_simp⟩) HS.out ?_
    refine wpAnyH_take (i := 24) (v := .bool true) rfl (by kernel_rfl) (by kernel_rfl) (by kernel_rfl) (fun _ _ _ h => h) (Or.inl ⟨by kernel_rfl, fun w _ => by go_simp⟩) HS.out ?_
    clear hstr
    refine wpAnyH_ready (rs := [25]) (by kernel_rfl) (by simp) ?_
    refine AllReadyH.cons rfl (fun K hK => ?_) AllReadyH.nil
    go_simp
    refine (hA _).mono ?_
    rintro en w10 ⟨rfl, hb10⟩
    have HS : Hid ((fun w' => Blk w' wb.heap.size 46 #[.string s, .bool true] ∧ Blk w' w6.heap.size 37 #[.slice a6.o.A0 m.o.reg.length a6.o.c0, .slice a6.o.A1 m.o.q.length a6.o.c1, .slice a6.o.A2 m.o.lk.length a6.o.c2, .slice a6.o.A3 m.o.mp.length a6.o.c3, .slice a6.At m.t.length a6.ct]) w10) := Lib.hid ⟨HS.out.1.below hb10, HS.out.2.below hb10⟩
    have HM7 := Lib.hid (HM7.out.below hb10)
    have HB7 := Lib.hid (HB7.out.trans (hb10.mono HB7.out.size))
    clear hb10
    go_simp
    refine hK.out _ _ HS.out (fun _ => ?_)
    clear hK K
    refine wpAnyH_take (i := 26) (v := .bool true) rfl (by kernel_rfl) (by kernel_rfl) (by kernel_rfl) (fun _ _ _ h => h) (Or.inl ⟨by kernel_rfl, fun w _ => by go_simp⟩) HS.out ?_
    refine wpAnyH_ready (rs := [27]) (by kernel_rfl) (by simp) ?_
    refine AllReadyH.cons rfl (fun K hK => ?_) AllReadyH.nil
    go_simp
    refine hK.out _ _ HS.out (fun _ => ?_)
    clear hK K
    refine wpAnyH_done (by kernel_rfl) ?_ _
    go_wp2_with fail
    go_ret
    exact ⟨rfl, HB7.out⟩
end Go.Proofs.YthfnnieklkaefaaGreat

namespace Go.Proofs.YthfnnieklkaefaaGreat
set_option linter.unusedVariables false
section
variable {P : Program} {md : Region.Mode} {ops : Array Oper} {Q : Exit → Act → World → Prop} {S : World → Prop} {n : Nat}
/-- S holds behind each operation but n -/
def AnyT (P : Program) (md : Region.Mode) (ops : Array Oper) (Q : Exit → Act → World → Prop) (S : World → Prop) (n : Nat) : Nat → Array Bool → Act → World → Prop
  | 0, listed, a, w => Region.ready md ops listed = [] ∧ Q .normal a w
  | fuel + 1, listed, a, w => (Region.ready md ops listed = [] → Q .normal a w) ∧
      ∀ i ∈ Region.ready md ops listed, wpOp P ops Q i (fun a' w' => (i = n ∨ S w') ∧ AnyT P md ops Q S n fuel (listed.setIfInBounds i true) a' w') a w
theorem AnyT.any : ∀ (fuel : Nat) (listed : Array Bool) (a : Act) (w : World), AnyT P md ops Q S n fuel listed a w → wpAny P md ops Q fuel listed a w := by
  intro fuel
  induction fuel with
  | zero => exact fun _ _ _ h => h
  | succ fuel ih => exact fun listed a w h => ⟨h.1, fun i hi => wpOp_mono (fun a' w' h' => ih _ _ _ h'.2) (h.2 i hi)⟩
theorem region_T {id : Nat} {a : Act} {w : World} (hm : P.follows .mixedOrders = true) (h : AnyT P .any ops Q S n ops.size (Array.replicate ops.size false) a w.drew) : (Code.region id ops true).wp P Q a w :=
  wp_region_any hm (AnyT.any _ _ _ _ h)
/-- no order lets n come ahead of what it waits for -/
theorem not_last {i j : Nat} {listed : Array Bool} (hw : Region.waitsFor md ops n i = true) (hi : i ∈ Region.ready md ops listed) (hj : j ∈ Region.ready md ops listed) : j ≠ n := by
  intro e
  subst e
  obtain ⟨oj, hoj, x, hx, hb, hon⟩ := Region.waitsFor_spec hw
  obtain ⟨_, oj', hoj', hall⟩ := mem_ready.1 hj
  rw [hoj] at hoj'
  injection hoj' with hoj'
  subst hoj'
  have h1 := hall x hx hb
  have h0 := (mem_ready.1 hi).1
  rw [hon] at h1
  rcases Nat.lt_or_ge i listed.size with h' | h'
  · simp [h'] at h0 h1; rw [h0] at h1; cases h1
  · simp [Array.getElem?_eq_none h'] at h1
/-- what yields v wherever S holds may come first, if n waits for it -/
theorem AnyT.first {i : Nat} {oi : Oper} {v : Value} (hi : ops[i]? = some oi) (hsel : Region.noSelect ops = true) (hw : Region.waitsFor md ops n i = true) (hQ : ∀ c a w, Q (.panic c) (a.put oi.dst v) w → Q (.panic c) a w) :
    ∀ (fuel : Nat) (listed : Array Bool) (a : Act) (w : World),
      (∀ j oj, ops[j]? = some oj → j ≠ i → listed.getD j true = false → (∀ e ∈ oj.after, Region.binds md e = true → e.on ≠ i) → oi.apart ops oj = true) →
      i ∈ Region.ready md ops listed → YieldsIf P ops S oi v a → S w → AnyT P md ops Q S n fuel (listed.setIfInBounds i true) (a.put oi.dst v) w → AnyT P md ops Q S n (fuel + 1) listed a w := by
  have sel := Region.noSelect_spec hsel
  intro fuel
  induction fuel with
  | zero =>
    intro listed a w _ hr hy hS H
    refine ⟨fun h => absurd hr (by rw [h]; simp), fun j hj => ?_⟩
    by_cases hji : j = i
    · rw [hji]; exact hy.wpOp hi hS ⟨.inr hS, by rw [← hji] at H ⊢; exact H⟩
    · exact absurd (ready_mono hj hji) (by rw [H.1]; simp)
  | succ fuel ih =>
    intro listed a w hfree hr hy hS H
    refine ⟨fun h => absurd hr (by rw [h]; simp), fun j hj => ?_⟩
    by_cases hji : j = i
    · rw [hji]; exact hy.wpOp hi hS ⟨.inr hS, by rw [← hji] at H ⊢; exact H⟩
    · have hjn := not_last hw hr hj
      obtain ⟨hun, oj, hoj, hall⟩ := mem_ready.1 hj
      have hnot : ∀ e ∈ oj.after, Region.binds md e = true → e.on ≠ i := fun e he hb heq => by
        have h1 := hall e he hb
        have h0 := (mem_ready.1 hr).1
        rw [heq] at h1
        rcases Nat.lt_or_ge i listed.size with h' | h'
        · simp [h'] at h0 h1; rw [h0] at h1; cases h1
        · simp [Array.getElem?_eq_none h'] at h1
      refine wpOp_mono (fun a' w' h3 => ?_) (wpOp_putIf hoj (hfree j oj hoj hji hun hnot) (fun cs b => sel i oi cs b hi) (fun cs b => sel j oj cs b hoj) hQ hy (H.2 j (ready_mono hj hji)))
      obtain ⟨hy', hs', hrest⟩ := h3
      have hS' : S w' := hs'.resolve_left hjn
      refine ⟨.inr hS', ih (listed.setIfInBounds j true) a' w' (fun k ok hk hki hu hno => hfree k ok hk hki ?_ hno) (ready_mono hr (Ne.symm hji)) hy' hS' (by rw [Array.setIfInBounds_comm _ _ hji]; exact hrest)⟩
      by_cases hjk : j = k
      · rw [← hjk]; exact hun
      · rwa [getD_set_ne true hjk] at hu
/-- the moves of a walk -/
theorem AnyT.take {i : Nat} {oi : Oper} {v : Value} {fuel : Nat} {listed : Array Bool} {a : Act} {w : World} (hi : ops[i]? = some oi) (hs : Region.noSelect ops = true) (hw : Region.waitsFor md ops n i = true)
    (hf : Region.free md ops listed i = true) (hr : (Region.ready md ops listed).contains i = true) (hQ : ∀ c a w, Q (.panic c) (a.put oi.dst v) w → Q (.panic c) a w) (hy : YieldsIf P ops S oi v a) (hS : S w)
    (h : AnyT P md ops Q S n fuel (listed.setIfInBounds i true) (a.put oi.dst v) w) : AnyT P md ops Q S n (fuel + 1) listed a w :=
  AnyT.first hi hs hw hQ fuel listed a w (Region.free_spec hi hf) (by simpa using hr) hy hS h
/-- those that may come up -/
def AllT (P : Program) (md : Region.Mode) (ops : Array Oper) (Q : Exit → Act → World → Prop) (S : World → Prop) (n fuel : Nat) (listed : Array Bool) (a : Act) (w : World) (rs : List Nat) : Prop :=
  ∀ i ∈ rs, wpOp P ops Q i (fun a' w' => (i = n ∨ S w') ∧ AnyT P md ops Q S n fuel (listed.setIfInBounds i true) a' w') a w
theorem AllT.nil {fuel : Nat} {listed : Array Bool} {a : Act} {w : World} : AllT P md ops Q S n fuel listed a w [] := fun _ h => by cases h
theorem AllT.cons {fuel : Nat} {listed : Array Bool} {a : Act} {w : World} {i : Nat} {o : Oper} {rs : List Nat} (ho : ops[i]? = some o)
    (h : ∀ K' : Act → World → Prop, Shut (∀ a w, (i = n ∨ S w) → ((i = n ∨ S w) → AnyT P md ops Q S n fuel (listed.setIfInBounds i true) a w) → K' a w) → if Region.wanted o (yielded ops a.tmps) = true then Oper.wp P o a w K' Q else K' (a.put o.dst undef) w)
    (hs : AllT P md ops Q S n fuel listed a w rs) : AllT P md ops Q S n fuel listed a w (i :: rs) := fun j hj => by
  rcases List.mem_cons.1 hj with e | hj
  · rw [e]; exact wpOp_step ho (fun K' hK => h K' (fun a w hS hW => hK a w ⟨hS, hW hS⟩))
  · exact hs j hj
theorem AnyT.ready {rs : List Nat} {fuel : Nat} {listed : Array Bool} {a : Act} {w : World} (hr : Region.ready md ops listed = rs) (hne : rs ≠ []) (h : AllT P md ops Q S n fuel listed a w rs) : AnyT P md ops Q S n (fuel + 1) listed a w :=
  ⟨fun h0 => absurd (hr.symm.trans h0) hne, by rw [hr]; exact h⟩
theorem AnyT.done {listed : Array Bool} {a : Act} {w : World} (hr : Region.ready md ops listed = []) (h : Q .normal a w) : ∀ fuel, AnyT P md ops Q S n fuel listed a w
  | 0 => ⟨hr, h⟩
  | _ + 1 => ⟨fun _ => h, by rw [hr]; simp⟩
end
end Go.Proofs.YthfnnieklkaefaaGreat

