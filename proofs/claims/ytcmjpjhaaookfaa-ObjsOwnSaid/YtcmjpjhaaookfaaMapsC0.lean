/- What the code of a map owes (three contracts); the keys of numbers. -/
import Derived.Test.YtcmjpjhaaookfaaMapsRef6
import Derived.Test.YtcmjpjhaaookfaaMapsInv
import Derived.Test.YtcmjpjhaaookfaaBitsKit
import Derived.Test.YtcmjpjhaaookfaaConstKit
import Derived.Laws.DeepStrings4
namespace Go.Proofs.Ytcmjpjhaaookfaa
open Go.RowKit
set_option linter.unusedVariables false
def PutC7 : Prop := ∀ {W w : World} {ps : List Pr} {k v : List Nat} {A A' A'' : Option Addr} {n c n' c' n'' c'' B B' B'' : Nat}, n ≤ c → Mp.Inv ps → (∀ x ∈ k, x < 256) → (∀ x ∈ v, x < 256) → n' ≤ 100000 → n'' ≤ 100000 →
    RdP w B A n ps → Rd w B' A' n' (bv k) → Rd w B'' A'' n'' (bv v) → Below W.heap.size W w →
    Calls Try.prog 40 #[.slice A n c, .slice A' n' c', .slice A'' n'' c''] w (GotPR W w (Mp.putS ps k v) (Mp.putE ps k v) (Mp.putV ps k v) (Mp.putN ps k v))
def GetC7 : Prop := ∀ {W w : World} {ps : List Pr} {k : List Nat} {A A' : Option Addr} {n c n' c' B B' : Nat}, n ≤ c → Mp.Inv ps → (∀ x ∈ k, x < 256) → n' ≤ 100000 →
    RdP w B A n ps → Rd w B' A' n' (bv k) → Below W.heap.size W w →
    Calls Try.prog 41 #[.slice A n c, .slice A' n' c'] w (GotR W w (Mp.getE ps k) (Mp.getV ps k) 0)
def DelC7 : Prop := ∀ {W w : World} {ps : List Pr} {k : List Nat} {A A' : Option Addr} {n c n' c' B B' : Nat}, n ≤ c → Mp.Inv ps → (∀ x ∈ k, x < 256) → n' ≤ 100000 →
    RdP w B A n ps → Rd w B' A' n' (bv k) → Below W.heap.size W w →
    Calls Try.prog 42 #[.slice A n c, .slice A' n' c'] w (GotPR W w (Mp.delS ps k) (Mp.getE ps k) (Mp.getV ps k) 0)
theorem inv_lim {ps : List Pr} (h : Mp.Inv ps) : LimP ps := fun p hp => by
  have := h.len p hp
  unfold Lim
  exact ⟨by omega, by omega⟩
/-- bytes that read -/
def GotK (w : World) (e : Ending) (w' : World) : Prop := ∃ (k : List Nat) (A : Option Addr) (c : Nat), e = .returned (.slice A k.length c) ∧ Rd w' w'.heap.size A k.length (bv k) ∧ (∀ x ∈ k, x < 256) ∧ k.length ≤ 9 ∧ Below w.heap.size w w'
theorem sb_len (s : ByteArray) : (sb s).length = s.size := by unfold sb; rw [List.length_map, Array.length_toList]; rfl
theorem gotK_of {w w1 : World} (s : ByteArray) (cap : Nat) (t : TypeId) (mark : Nat × Nat) (hs : s.size ≤ 9) (hB : Below w.heap.size w w1) {g : Nat} (hg : w1.heap.size = g) : GotK w (.returned (.slice (some ⟨g, 0, none⟩) s.size cap)) (w1.alloc (.cells (bytesRow s cap) t mark)) := by
  subst hg
  have h := (Rd.of_string w1 s cap t mark).fit
  refine ⟨sb s, _, cap, by rw [sb_len], by rw [sb_len]; exact h, sb_lt s, by rw [sb_len]; exact hs, hB.alloc hB.size _⟩
set_option maxHeartbeats 1000000 in
set_option maxRecDepth 100000 in
theorem keys_any (n : Int) (w : World) : Calls Try.prog 45 #[.int .i64 n] w (GotK w) := by
  obtain ⟨j, hj, hj16⟩ : ∃ j : Nat, bits .and .i64 n 15 = (j : Int) ∧ j < 16 := by
    rw [and_15]
    have h1 := Int.emod_nonneg n (show (16 : Int) ≠ 0 by omega)
    exact ⟨(n % 16).toNat, by omega, by omega⟩
  have kc := fun (w : World) (s : ByteArray) => run_bytes_of_string (P := Try.prog) w 9 22 5 s Try.underlying9 Try.underlying22 Try.underlying5
  have hji : (j : Int) < 16 := by omega
  have HJ := Lib.hid (show j = 0 ∨ j = 1 ∨ j = 2 ∨ j = 3 ∨ j = 4 ∨ j = 5 ∨ j = 6 ∨ j = 7 ∨ j = 8 ∨ j = 9 ∨ j = 10 ∨ j = 11 ∨ j = 12 ∨ j = 13 ∨ j = 14 ∨ j = 15 by omega)
  clear hji
  rcases HJ.out with rfl | rfl | rfl | rfl | rfl | rfl | rfl | rfl | rfl | rfl | rfl | rfl | rfl | rfl | rfl | rfl
  all_goals clear HJ
  all_goals go_enter Try.func45, Try.ntmps45
  all_goals go_wp2
  all_goals go_ret
  · exact gotK_of (⟨#[]⟩ : ByteArray) _ _ _ (by decide) ((Below.refl _ _).alloc (Nat.le_refl _) _).drew (by simp)
  · exact gotK_of (⟨#[97]⟩ : ByteArray) _ _ _ (by decide) ((Below.refl _ _).alloc (Nat.le_refl _) _).drew (by simp)
  · exact gotK_of (⟨#[98]⟩ : ByteArray) _ _ _ (by decide) ((Below.refl _ _).alloc (Nat.le_refl _) _).drew (by simp)
  · exact gotK_of (⟨#[99]⟩ : ByteArray) _ _ _ (by decide) ((Below.refl _ _).alloc (Nat.le_refl _) _).drew (by simp)
  · exact gotK_of (⟨#[97, 98]⟩ : ByteArray) _ _ _ (by decide) ((Below.refl _ _).alloc (Nat.le_refl _) _).drew (by simp)
  · exact gotK_of (⟨#[97, 98, 99]⟩ : ByteArray) _ _ _ (by decide) ((Below.refl _ _).alloc (Nat.le_refl _) _).drew (by simp)
  · exact gotK_of (⟨#[122]⟩ : ByteArray) _ _ _ (by decide) ((Below.refl _ _).alloc (Nat.le_refl _) _).drew (by simp)
  · exact gotK_of (⟨#[0]⟩ : ByteArray) _ _ _ (by decide) ((Below.refl _ _).alloc (Nat.le_refl _) _).drew (by simp)
  · exact gotK_of (⟨#[255]⟩ : ByteArray) _ _ _ (by decide) ((Below.refl _ _).alloc (Nat.le_refl _) _).drew (by simp)
  · exact gotK_of (⟨#[97, 98, 99, 100, 101, 102, 103, 104]⟩ : ByteArray) _ _ _ (by decide) ((Below.refl _ _).alloc (Nat.le_refl _) _).drew (by simp)
  · exact gotK_of (⟨#[97, 98, 99, 100, 101, 102, 103, 104, 105]⟩ : ByteArray) _ _ _ (by decide) ((Below.refl _ _).alloc (Nat.le_refl _) _).drew (by simp)
  · exact gotK_of (⟨#[107, 49]⟩ : ByteArray) _ _ _ (by decide) ((Below.refl _ _).alloc (Nat.le_refl _) _).drew (by simp)
  · exact gotK_of (⟨#[107, 50]⟩ : ByteArray) _ _ _ (by decide) ((Below.refl _ _).alloc (Nat.le_refl _) _).drew (by simp)
  · exact gotK_of (⟨#[107, 51]⟩ : ByteArray) _ _ _ (by decide) ((Below.refl _ _).alloc (Nat.le_refl _) _).drew (by simp)
  · exact gotK_of (⟨#[107, 52]⟩ : ByteArray) _ _ _ (by decide) ((Below.refl _ _).alloc (Nat.le_refl _) _).drew (by simp)
  · exact gotK_of (⟨#[107, 53]⟩ : ByteArray) _ _ _ (by decide) ((Below.refl _ _).alloc (Nat.le_refl _) _).drew (by simp)
end Go.Proofs.Ytcmjpjhaaookfaa
