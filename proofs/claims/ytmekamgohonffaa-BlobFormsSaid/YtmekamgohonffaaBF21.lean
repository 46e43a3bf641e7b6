/- CrcRef EqualKit -/
import Derived.Test.YtmekamgohonffaaBF02
import Derived.Test.YtmekamgohonffaaBF20
namespace Go.Proofs.Ytmekamgohonffaa
open Go.RowKit
set_option linter.unusedVariables false
theorem refnext_any (c x : Nat) (hc : Crc.U32 c) (hx : x < 256) (w : World) :
    Calls Try.prog 53 #[.int .u32 c, .int .u8 x] w fun e w' => e = .returned (.int .u32 (Crc.nxt c x : Nat)) ∧ w = w' := by
  have hcx : Crc.U32 (c ^^^ x) := Crc.xor_lt32 hc (by omega)
  go_enter Try.func53, Try.ntmps53
  have hx0 : bits .xor .u32 (c : Int) (x : Int) = ((c ^^^ x : Nat) : Int) := u32_xor_nat c x hc (by omega)
  go_wp2
  go_loop [0, 5, 6] (fun c' i _ => ∃ k : Nat, k ≤ 8 ∧ i = .int .i64 k ∧ c' = .int .u32 (Crc.stpN k (c ^^^ x) : Nat)) (fun _ i _ => 8 - (intOf i).toNat)
  case atStart => exact ⟨0, by omega, rfl, by first | rfl | (rw [hx0]; rfl)⟩
  case round =>
    obtain ⟨k, hk, rfl, rfl⟩ := hrel
    have hs : Crc.U32 (Crc.stpN k (c ^^^ x)) := Crc.stpN_lt k hcx
    by_cases hlt : k < 8
    · go_wp2
      · have ho : (bits .and .u32 (Crc.stpN k (c ^^^ x) : Int) 1 == 1) = true := by assumption
        go_round
        case rel => exact ⟨k + 1, by omega, by go_num, by rw [Crc.stp_odd hs ho]; rfl⟩
        case measure => simp [intOf]; omega
      · have ho : (bits .and .u32 (Crc.stpN k (c ^^^ x) : Int) 1 == 1) = false := by assumption
        go_round
        case rel => exact ⟨k + 1, by omega, by go_num, by rw [Crc.stp_even hs ho]; rfl⟩
        case measure => simp [intOf]; omega
    · go_wp2
      go_ret
      exact ⟨ret_int (by have : k = 8 := by omega
                         subst this; rfl), rfl⟩
theorem refsum_any (l : List Nat) (hl : ∀ x ∈ l, x < 256) (a : Option Addr) (n cap B : Nat) (hn : n ≤ maxLen) (w : World) (h : Rd w B a n (bv l)) :
    Calls Try.prog 20 #[.slice a n cap] w fun e w' => e = .returned (.int .u32 (Crc.sum l : Nat)) ∧ w = w' := by
  unfold maxLen at hn
  have hlen := Lib.hid h.length
  have H := Lib.hid h
  clear h
  have H0 := Lib.hid (Crc.run_zero 4294967295 l)
  go_enter Try.func20, Try.ntmps20
  go_wp2
  go_loop [3, 4] (fun c i => ∃ k : Nat, k ≤ n ∧ i = .int .i64 k ∧ c = .int .u32 (Crc.run 4294967295 (l.take k) : Nat)) (fun _ i => n - (intOf i).toNat)
  case atStart => exact ⟨0, by omega, rfl, by rw [H0.out]; rfl⟩
  case round =>
    obtain ⟨k, hk, rfl, rfl⟩ := hrel
    have hs : Crc.U32 (Crc.run 4294967295 (l.take k)) := Crc.run_lt _ (by omega) (Crc.take_lt hl k)
    by_cases hlt : k < n
    · obtain ⟨b, o, rfl, hk', hc⟩ := H.out.bytes_at hlt
      have hx : l[k] < 256 := hl _ (List.getElem_mem hk')
      have HT := Lib.hid (Crc.run_take 4294967295 l k hk')
      go_wp2_with (go_at_call 53; refine (refnext_any _ _ hs hx _).mono ?_; rintro e w' ⟨rfl, rfl⟩)
      go_round
      case rel => exact ⟨k + 1, by omega, by go_num, by rw [HT.out]⟩
      case measure => simp [intOf]; omega
    · have HK := Lib.hid (show k = l.length from by have := hlen.out; omega)
      have hx := u32_xor_nat (Crc.run 4294967295 (l.take k)) 4294967295 hs (by omega)
      have HX := Lib.hid hx
      clear hx
      go_wp2
      go_ret
      exact ⟨ret_int (by
        refine Eq.trans HX.out ?_
        rw [HK.out, List.take_length]; rfl), rfl⟩
end Go.Proofs.Ytmekamgohonffaa

namespace Go.Proofs.Ytmekamgohonffaa
open Go.RowKit
set_option linter.unusedVariables false
/-- two rows of bytes alike -/
theorem equal_any (w : World) (A A' : Option Addr) (n c n' c' B B' : Nat) (l l' : List Nat) (hl : ∀ x ∈ l, x < 256) (hl' : ∀ x ∈ l', x < 256) (h : Rd w B A n (bv l)) (h' : Rd w B' A' n' (bv l')) :
    Calls Try.prog 35 #[.slice A n c, .slice A' n' c'] w fun e w' => e = .returned (.bool (decide (l = l'))) ∧ w' = w := by
  have k1 := str_of (c := c) h
  have k2 := str_of (c := c') h'
  have k3 := strL_eq hl hl'
  clear h h'
  go_enter Try.func35, Try.ntmps35
  go_wp2
  go_ret
  exact ⟨by first | exact ret_bool k3 | rfl | (rw [← k3]; rfl), rfl⟩
end Go.Proofs.Ytmekamgohonffaa

