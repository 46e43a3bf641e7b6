/- SealKit FramSum -/
import Derived.Test.YtmekamgohonffaaGreatBQ01
import Derived.Test.YtmekamgohonffaaGreatBQ18
import Derived.Test.YtmekamgohonffaaGreatBQ27
import Derived.Laws.OwnMore
namespace Go.Proofs.YtmekamgohonffaaGreat
open Go.RowKit
set_option linter.unusedVariables false
/-- bytes, and ahead of them their sum -/
def Fr.lay (l : List Nat) : List Nat := Fr.four (Crc.sum l) ++ l
/-- what stands behind a right sum -/
def Fr.unf (l : List Nat) : Option (List Nat) := if l.length < 4 then none else if l.take 4 = Fr.four (Crc.sum (l.drop 4)) then some (l.drop 4) else none
theorem Fr.unf_app (f l : List Nat) (hf : f.length = 4) : Fr.unf (f ++ l) = if f = Fr.four (Crc.sum l) then some l else none := by
  unfold Fr.unf
  rw [if_neg (by simp; omega), ← hf, List.take_left, List.drop_left]
theorem Fr.unf_lay (l : List Nat) : Fr.unf (Fr.lay l) = some l := by
  unfold Fr.lay
  rw [Fr.unf_app _ _ (Fr.four_len _), if_pos rfl]
theorem Fr.unf_is {l x : List Nat} (h : Fr.unf l = some x) : x = l.drop 4 ∧ 4 ≤ l.length := by
  unfold Fr.unf at h
  split at h
  · cases h
  · split at h
    · injection h with h; exact ⟨h.symm, by omega⟩
    · cases h
theorem Fr.lay_len (l : List Nat) : (Fr.lay l).length = 4 + l.length := by unfold Fr.lay; rw [List.length_append, Fr.four_len]
/-- one bit is turned -/
theorem Fr.unf_bit {l : List Nat} (hlt : ∀ x ∈ l, x < 256) (q : Nat) (hq : q < (Fr.lay l).length) (x : Nat) (hx : x < 256) (h0 : x ≠ 0) : Fr.unf ((Fr.lay l).set q ((Fr.lay l).getD q 0 ^^^ x)) = none := by
  rw [Fr.lay_len] at hq
  unfold Fr.lay
  have self : ∀ {a b : Nat}, a ^^^ b = a → b = 0 := fun {a b} h => Crc.xor_left (a := a) (by rw [h, Nat.xor_zero])
  have gl : ∀ {f l : List Nat} {j : Nat}, j < f.length → (f ++ l).getD j 0 = f.getD j 0 := fun {f l j} h => by
    rw [List.getD_eq_getElem?_getD, List.getD_eq_getElem?_getD, List.getElem?_append_left h]
  have gr : ∀ {f l : List Nat} {j : Nat}, f.length ≤ j → (f ++ l).getD j 0 = l.getD (j - f.length) 0 := fun {f l j} h => by
    rw [List.getD_eq_getElem?_getD, List.getD_eq_getElem?_getD, List.getElem?_append_right h]
  rcases Nat.lt_or_ge q 4 with h4 | h4
  · rw [gl (by rw [Fr.four_len]; exact h4), List.set_append_left _ _ (by rw [Fr.four_len]; exact h4), Fr.unf_app _ _ (by rw [List.length_set, Fr.four_len]), if_neg]
    intro h
    apply h0
    have e : ((Fr.four (Crc.sum l)).set q ((Fr.four (Crc.sum l)).getD q 0 ^^^ x)).getD q 0 = (Fr.four (Crc.sum l)).getD q 0 ^^^ x := by
      rw [List.getD_eq_getElem?_getD, List.getElem?_set, if_pos rfl, if_pos (by rw [Fr.four_len]; exact h4)]; rfl
    rw [h] at e
    exact self e.symm
  · have e4 := Fr.four_len (Crc.sum l)
    rw [gr (by rw [e4]; exact h4), List.set_append_right _ _ (by rw [e4]; exact h4), e4, Fr.unf_app _ _ (Fr.four_len _), if_neg]
    intro h
    have hy : ∀ y ∈ l.set (q - 4) (l.getD (q - 4) 0 ^^^ x), y < 256 := by
      intro y hy
      rcases List.mem_or_eq_of_mem_set hy with h | h
      · exact hlt y h
      · rw [h]
        refine Crc.xor_lt8 ?_ hx
        rw [List.getD_eq_getElem?_getD, List.getElem?_eq_getElem (by omega)]
        exact hlt _ (List.getElem_mem _)
    exact Crc.one_bit l (q - 4) (by omega) x hx h0 (Fr.four_inj (Crc.sum_lt _ hlt) (Crc.sum_lt _ hy) h).symm
/-- a row, or none -/
def GotU (W w : World) (r : Option (List Nat)) (en : Ending) (w' : World) : Prop :=
  ∃ A c, en = .returned (.tuple #[.slice A (r.getD []).length c, .bool r.isSome]) ∧ OwnB W w' A (r.getD []).length c (r.getD []) ∧ Below W.heap.size W w' ∧ Below w.heap.size w w'
end Go.Proofs.YtmekamgohonffaaGreat

namespace Go.Proofs.YtmekamgohonffaaGreat
open Go.RowKit
set_option linter.unusedVariables false
theorem frsum_any {W w : World} {A : Option Addr} {n c B : Nat} {l : List Nat} (hl : ∀ x ∈ l, x < 256) (hn : n ≤ maxLen) (h : Rd w B A n (bv l)) (hB : Below W.heap.size W w) : Calls Tryz.prog 49 #[.slice A n c] w (GotIn W w (Fr.four (Crc.sum l))) := by
  have C := Lib.hid (sum_any l hl A n c B hn w h)
  have HB := Lib.hid hB
  obtain ⟨s, hs⟩ : ∃ s, Crc.sum l = s := ⟨_, rfl⟩
  rw [hs] at C ⊢
  clear hl hn h hB hs
  go_enter Tryz.func49, Tryz.ntmps49
  go_wp2_with (go_at_call 89; refine C.out.mono ?_; rintro e w' ⟨rfl, rfl⟩)
  go_ret
  have e : (#[.int .u8 ((s : Int) % 256), .int .u8 ((s : Int) / 256 % 256), .int .u8 ((s : Int) / 65536 % 256), .int .u8 ((s : Int) / 16777216 % 256)] : Array Value) = #[.int .u8 ((s % 256 : Nat) : Int), .int .u8 ((s / 256 % 256 : Nat) : Int), .int .u8 ((s / 65536 % 256 : Nat) : Int), .int .u8 ((s / 16777216 % 256 : Nat) : Int)] := rfl
  exact ⟨some ⟨w.heap.size, 0, none⟩, 4, rfl, World.ownsRow_lit w _ 4 HB.out.size (by decide) rfl, HB.out.alloc HB.out.size _, (Below.refl _ _).alloc (Nat.le_refl _) _⟩
end Go.Proofs.YtmekamgohonffaaGreat

