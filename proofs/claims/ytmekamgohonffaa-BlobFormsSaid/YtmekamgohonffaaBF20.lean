/- CrcWalks -/
import Derived.Test.YtmekamgohonffaaBF01
import Derived.Test.YtmekamgohonffaaBF11
import Derived.Below
import Derived.IntWalk
import Derived.Laws.BitsAllLaws
import Derived.Lib.Hide
import Derived.Outline
import Derived.ProofKit
import Derived.Test.YtmekamgohonffaaRows
import Derived.WalkKit
namespace Go.Proofs.Ytmekamgohonffaa
open Go.RowKit
set_option linter.unusedVariables false

/-- a number of 32 bits, behind a name -/
def Crc.U32 (n : Nat) : Prop := n < 4294967296
theorem Crc.and_one {n : Nat} (h : Crc.U32 n) : bits .and .u32 (n : Int) 1 = ((n % 2 : Nat) : Int) := by
  have e := u32_and_nat n 1 h (by decide)
  rw [Nat.and_one_is_mod] at e
  exact e
theorem Crc.stp_odd {n : Nat} (h : Crc.U32 n) (ho : (bits .and .u32 (n : Int) 1 == 1) = true) : bits .xor .u32 ((n : Int) / 2) 3988292384 = ((Crc.stp n : Nat) : Int) := by
  rw [Crc.and_one h] at ho
  have ho' : n % 2 = 1 := by have := beq_iff_eq.1 ho; omega
  unfold Crc.U32 at h
  have e := u32_xor_nat (n / 2) 3988292384 (by omega) (by decide)
  rw [Crc.stp, if_pos ho']
  exact e
theorem Crc.stp_even {n : Nat} (h : Crc.U32 n) (ho : (bits .and .u32 (n : Int) 1 == 1) = false) : (n : Int) / 2 = ((Crc.stp n : Nat) : Int) := by
  rw [Crc.and_one h] at ho
  have ho' : n % 2 ≠ 1 := by have := beq_eq_false_iff_ne.1 ho; omega
  rw [Crc.stp, if_neg ho']
  omega
theorem step_any (n : Nat) (h : Crc.U32 n) (w : World) :
    Calls Try.prog 75 #[.int .u32 n] w fun e w' => e = .returned (.int .u32 (Crc.stp n : Nat)) ∧ w = w' := by
  go_enter Try.func75, Try.ntmps75
  go_wp2
  · have ho : (bits .and .u32 (n : Int) 1 == 1) = true := by assumption
    go_ret
    exact ⟨ret_int (Crc.stp_odd h ho), rfl⟩
  · have ho : (bits .and .u32 (n : Int) 1 == 1) = false := by assumption
    go_ret
    exact ⟨ret_int (Crc.stp_even h ho), rfl⟩

theorem next_any (c x : Nat) (hc : Crc.U32 c) (hx : x < 256) (w : World) :
    Calls Try.prog 66 #[.int .u32 c, .int .u8 x] w fun e w' => e = .returned (.int .u32 (Crc.nxt c x : Nat)) ∧ w = w' := by
  have hcx : Crc.U32 (c ^^^ x) := Crc.xor_lt32 hc (by omega)
  go_enter Try.func66, Try.ntmps66
  have hx0 : bits .xor .u32 (c : Int) (x : Int) = ((c ^^^ x : Nat) : Int) := u32_xor_nat c x hc (by omega)
  go_wp2
  go_loop [0, 9] (fun c' i => ∃ k : Nat, k ≤ 8 ∧ i = .int .i64 k ∧ c' = .int .u32 (Crc.stpN k (c ^^^ x) : Nat)) (fun _ i => 8 - (intOf i).toNat)
  case atStart => exact ⟨0, by omega, rfl, by first | rfl | (rw [hx0]; rfl)⟩
  case round =>
    obtain ⟨k, hk, rfl, rfl⟩ := hrel
    have hs : Crc.U32 (Crc.stpN k (c ^^^ x)) := Crc.stpN_lt k hcx
    by_cases hlt : k < 8
    · go_wp2_with (go_at_call 75; refine (step_any _ hs _).mono ?_; rintro e w' ⟨rfl, rfl⟩)
      go_round
      case rel => exact ⟨k + 1, by omega, by go_num, rfl⟩
      case measure => simp [intOf]; omega
    · go_wp2
      go_ret
      exact ⟨ret_int (by have : k = 8 := by omega
                         subst this; rfl), rfl⟩

theorem Crc.run_zero (c : Nat) (l : List Nat) : Crc.run c (l.take 0) = c := by simp [Crc.run]
theorem Crc.run_take (c : Nat) (l : List Nat) (k : Nat) (h : k < l.length) : Crc.run c (l.take (k + 1)) = Crc.nxt (Crc.run c (l.take k)) l[k] := by
  rw [List.take_succ_eq_append_getElem h, Crc.run_snoc]
theorem Crc.take_lt {l : List Nat} (hl : ∀ x ∈ l, x < 256) (k : Nat) : ∀ x ∈ l.take k, x < 256 := fun x hx => hl x (List.mem_of_mem_take hx)
theorem sum_any (l : List Nat) (hl : ∀ x ∈ l, x < 256) (a : Option Addr) (n cap B : Nat) (hn : n ≤ maxLen) (w : World) (h : Rd w B a n (bv l)) :
    Calls Try.prog 56 #[.slice a n cap] w fun e w' => e = .returned (.int .u32 (Crc.sum l : Nat)) ∧ w = w' := by
  unfold maxLen at hn
  have hlen := Lib.hid h.length
  have H := Lib.hid h
  clear h
  have H0 := Lib.hid (Crc.run_zero 4294967295 l)
  go_enter Try.func56, Try.ntmps56
  go_wp2
  go_loop [3, 5, 8] (fun c x i => ∃ k : Nat, k ≤ n ∧ i = .int .i64 k ∧ c = .int .u32 (Crc.run 4294967295 (l.take k) : Nat)) (fun _ _ i => n - (intOf i).toNat)
  case atStart => exact ⟨0, by omega, rfl, by rw [H0.out]; rfl⟩
  case round =>
    obtain ⟨k, hk, rfl, rfl⟩ := hrel
    have hs : Crc.U32 (Crc.run 4294967295 (l.take k)) := Crc.run_lt _ (by omega) (Crc.take_lt hl k)
    by_cases hlt : k < n
    · obtain ⟨b, o, rfl, hk', hc⟩ := H.out.bytes_at hlt
      have hx : l[k] < 256 := hl _ (List.getElem_mem hk')
      have HT := Lib.hid (Crc.run_take 4294967295 l k hk')
      go_wp2_with (go_at_call 66; refine (next_any _ _ hs hx _).mono ?_; rintro e w' ⟨rfl, rfl⟩)
      go_round
      case rel => exact ⟨k + 1, by omega, by go_num, by rw [HT.out]⟩
      case measure => simp [intOf]; omega
    · have HK := Lib.hid (show k = l.length from by have := hlen.out; omega)
      have hx := u32_xor_nat (Crc.run 4294967295 (l.take k)) 4294967295 hs (by omega)
      have HX := Lib.hid hx
      clear hx
      go_wp2
      go_ret
      exact ⟨ret_int (by
        refine Eq.trans HX.out ?_
        rw [HK.out, List.take_length]; rfl), rfl⟩
end Go.Proofs.Ytmekamgohonffaa

