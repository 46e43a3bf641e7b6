/- The keys of numbers: each in a block of its own. -/
import Derived.Test.YtcmjpjhaaookfaaMapsC0
namespace Go.Proofs.Ytcmjpjhaaookfaa
open Go.RowKit
set_option linter.unusedVariables false
/-- a row of bytes in a block that was made behind w -/
theorem Rd.of_stringAt (w : World) (s : ByteArray) (cap : Nat) (t : TypeId) (mark : Nat × Nat) {g : Nat} (hg : w.heap.size = g) : Rd (w.alloc (.cells (bytesRow s cap) t mark)) (w.alloc (.cells (bytesRow s cap) t mark)).heap.size (some ⟨g, 0, none⟩) (sb s).length (bv (sb s)) := by
  subst hg; rw [sb_len]; exact (Rd.of_string w s cap t mark).fit
def GotKF (w : World) (e : Ending) (w' : World) : Prop := ∃ (k : List Nat) (g c : Nat), e = .returned (.slice (some ⟨g, 0, none⟩) k.length c) ∧ Rd w' w'.heap.size (some ⟨g, 0, none⟩) k.length (bv k) ∧ (∀ x ∈ k, x < 256) ∧ k.length ≤ 9 ∧ w.heap.size ≤ g ∧ g < w'.heap.size ∧ Below w.heap.size w w'
theorem gotKF_of {w w1 : World} (s : ByteArray) (cap : Nat) (t : TypeId) (mark : Nat × Nat) (hs : s.size ≤ 9) (hB : Below w.heap.size w w1) {g : Nat} (hg : w1.heap.size = g) : GotKF w (.returned (.slice (some ⟨g, 0, none⟩) s.size cap)) (w1.alloc (.cells (bytesRow s cap) t mark)) := by
  subst hg
  have h := (Rd.of_string w1 s cap t mark).fit
  refine ⟨sb s, w1.heap.size, cap, by rw [sb_len], by rw [sb_len]; exact h, sb_lt s, by rw [sb_len]; exact hs, hB.size, by simp, hB.alloc hB.size _⟩
set_option maxHeartbeats 1000000 in
set_option maxRecDepth 100000 in
theorem keysF_any (n : Int) (w : World) : Calls Try.prog 45 #[.int .i64 n] w (GotKF w) := by
  obtain ⟨j, hj, hj16⟩ : ∃ j : Nat, bits .and .i64 n 15 = (j : Int) ∧ j < 16 := by
    rw [and_15]
    have h1 := Int.emod_nonneg n (show (16 : Int) ≠ 0 by omega)
    exact ⟨(n % 16).toNat, by omega, by omega⟩
  have kc := fun (w : World) (s : ByteArray) => run_bytes_of_string (P := Try.prog) w 9 22 5 s Try.underlying9 Try.underlying22 Try.underlying5
  have hji : (j : Int) < 16 := by omega
  have HJ := Lib.hid (show j = 0 ∨ j = 1 ∨ j = 2 ∨ j = 3 ∨ j = 4 ∨ j = 5 ∨ j = 6 ∨ j = 7 ∨ j = 8 ∨ j = 9 ∨ j = 10 ∨ j = 11 ∨ j = 12 ∨ j = 13 ∨ j = 14 ∨ j = 15 by omega)
  clear hji
  rcases HJ.out with rfl | rfl | rfl | rfl | rfl | rfl | rfl | rfl | rfl | rfl | rfl | rfl | rfl | rfl | rfl | rfl
  all_goals clear HJ
  all_goals go_enter Try.func45, Try.ntmps45
  all_goals go_wp2
  all_goals go_ret
  · exact gotKF_of (⟨#[]⟩ : ByteArray) _ _ _ (by decide) ((Below.refl _ _).alloc (Nat.le_refl _) _).drew (by simp)
  · exact gotKF_of (⟨#[97]⟩ : ByteArray) _ _ _ (by decide) ((Below.refl _ _).alloc (Nat.le_refl _) _).drew (by simp)
  · exact gotKF_of (⟨#[98]⟩ : ByteArray) _ _ _ (by decide) ((Below.refl _ _).alloc (Nat.le_refl _) _).drew (by simp)
  · exact gotKF_of (⟨#[99]⟩ : ByteArray) _ _ _ (by decide) ((Below.refl _ _).alloc (Nat.le_refl _) _).drew (by simp)
  · exact gotKF_of (⟨#[97, 98]⟩ : ByteArray) _ _ _ (by decide) ((Below.refl _ _).alloc (Nat.le_refl _) _).drew (by simp)
  · exact gotKF_of (⟨#[97, 98, 99]⟩ : ByteArray) _ _ _ (by decide) ((Below.refl _ _).alloc (Nat.le_refl _) _).drew (by simp)
  · exact gotKF_of (⟨#[122]⟩ : ByteArray) _ _ _ (by decide) ((Below.refl _ _).alloc (Nat.le_refl _) _).drew (by simp)
  · exact gotKF_of (⟨#[0]⟩ : ByteArray) _ _ _ (by decide) ((Below.refl _ _).alloc (Nat.le_refl _) _).drew (by simp)
  · exact gotKF_of (⟨#[255]⟩ : ByteArray) _ _ _ (by decide) ((Below.refl _ _).alloc (Nat.le_refl _) _).drew (by simp)
  · exact gotKF_of (⟨#[97, 98, 99, 100, 101, 102, 103, 104]⟩ : ByteArray) _ _ _ (by decide) ((Below.refl _ _).alloc (Nat.le_refl _) _).drew (by simp)
  · exact gotKF_of (⟨#[97, 98, 99, 100, 101, 102, 103, 104, 105]⟩ : ByteArray) _ _ _ (by decide) ((Below.refl _ _).alloc (Nat.le_refl _) _).drew (by simp)
  · exact gotKF_of (⟨#[107, 49]⟩ : ByteArray) _ _ _ (by decide) ((Below.refl _ _).alloc (Nat.le_refl _) _).drew (by simp)
  · exact gotKF_of (⟨#[107, 50]⟩ : ByteArray) _ _ _ (by decide) ((Below.refl _ _).alloc (Nat.le_refl _) _).drew (by simp)
  · exact gotKF_of (⟨#[107, 51]⟩ : ByteArray) _ _ _ (by decide) ((Below.refl _ _).alloc (Nat.le_refl _) _).drew (by simp)
  · exact gotKF_of (⟨#[107, 52]⟩ : ByteArray) _ _ _ (by decide) ((Below.refl _ _).alloc (Nat.le_refl _) _).drew (by simp)
  · exact gotKF_of (⟨#[107, 53]⟩ : ByteArray) _ _ _ (by decide) ((Below.refl _ _).alloc (Nat.le_refl _) _).drew (by simp)
end Go.Proofs.Ytcmjpjhaaookfaa
