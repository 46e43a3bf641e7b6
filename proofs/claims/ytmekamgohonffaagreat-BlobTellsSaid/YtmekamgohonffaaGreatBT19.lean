/- SealKit CrcWalks -/
import Derived.Test.YtmekamgohonffaaGreatBT00
import Derived.Test.YtmekamgohonffaaGreatBT01
import Derived.Test.YtmekamgohonffaaGreatBT18
import Derived.Below
import Derived.IntWalk
import Derived.Laws.BitsAllLaws
import Derived.Lib.Hide
import Derived.Outline
import Derived.ProofKit
import Derived.Test.YtmekamgohonffaaGreatRows
import Derived.WalkKit
namespace Go.Proofs.YtmekamgohonffaaGreat
open Go.RowKit
set_option linter.unusedVariables false
def Fr.lay (l : List Nat) : List Nat := Fr.four (Crc.sum l) ++ l
def Fr.unf (l : List Nat) : Option (List Nat) := if l.length < 4 then none else if l.take 4 = Fr.four (Crc.sum (l.drop 4)) then some (l.drop 4) else none
theorem Fr.unf_app (f l : List Nat) (hf : f.length = 4) : Fr.unf (f ++ l) = if f = Fr.four (Crc.sum l) then some l else none := by
 unfold Fr.unf
 rw [if_neg (by simp; omega), <- hf, List.take_left, List.drop_left]
theorem Fr.unf_lay (l : List Nat) : Fr.unf (Fr.lay l) = some l := by
 unfold Fr.lay
 rw [Fr.unf_app _ _ (Fr.four_len _), if_pos rfl]
theorem Fr.unf_is {l x : List Nat} (h : Fr.unf l = some x) : x = l.drop 4 /\ 4 <= l.length := by
 unfold Fr.unf at h
 split at h
 · cases h
 · split at h
   · injection h with h; exact ⟨h.symm, by omega⟩
   · cases h
theorem Fr.lay_len (l : List Nat) : (Fr.lay l).length = 4 + l.length := by unfold Fr.lay; rw [List.length_append, Fr.four_len]
def GotU (W w : World) (r : Option (List Nat)) (en : Ending) (w' : World) : Prop :=
 ∃ A c, en = .returned (.tuple #[.slice A (r.getD []).length c, .bool r.isSome]) /\ OwnB W w' A (r.getD []).length c (r.getD []) /\ Below W.heap.size W w' /\ Below w.heap.size w w'
def Crc.U32 (n : Nat) : Prop := n < 4294967296
theorem Crc.and_one {n : Nat} (h : Crc.U32 n) : bits .and .u32 (n : Int) 1 = ((n % 2 : Nat) : Int) := by
 have e := u32_and_nat n 1 h (by decide)
 rw [Nat.and_one_is_mod] at e
 exact e
theorem Crc.stp_odd {n : Nat} (h : Crc.U32 n) (ho : (bits .and .u32 (n : Int) 1 == 1) = true) : bits .xor .u32 ((n : Int) / 2) 3988292384 = ((Crc.stp n : Nat) : Int) := by
 rw [Crc.and_one h] at ho
 have ho' : n % 2 = 1 := by have := beq_iff_eq.1 ho; omega
 unfold Crc.U32 at h
 have e := u32_xor_nat (n / 2) 3988292384 (by omega) (by decide)
 rw [Crc.stp, if_pos ho']
 exact e
theorem Crc.stp_even {n : Nat} (h : Crc.U32 n) (ho : (bits .and .u32 (n : Int) 1 == 1) = false) : (n : Int) / 2 = ((Crc.stp n : Nat) : Int) := by
 rw [Crc.and_one h] at ho
 have ho' : n % 2 ≠ 1 := by have := beq_eq_false_iff_ne.1 ho; omega
 rw [Crc.stp, if_neg ho']
 omega
theorem step_any (n : Nat) (h : Crc.U32 n) (w : World) :
 Calls Tryz.prog 122 #[.int .u32 n] w fun e w' => e = .returned (.int .u32 (Crc.stp n : Nat)) /\ w = w' := by
 go_enter Tryz.func122, Tryz.ntmps122
 go_wp2
 · have ho : (bits .and .u32 (n : Int) 1 == 1) = true := by assumption
   go_ret
   exact ⟨ret_int (Crc.stp_odd h ho), rfl⟩
 · have ho : (bits .and .u32 (n : Int) 1 == 1) = false := by assumption
   go_ret
   exact ⟨ret_int (Crc.stp_even h ho), rfl⟩
theorem next_any (c x : Nat) (hc : Crc.U32 c) (hx : x < 256) (w : World) :
 Calls Tryz.prog 115 #[.int .u32 c, .int .u8 x] w fun e w' => e = .returned (.int .u32 (Crc.nxt c x : Nat)) /\ w = w' := by
 have hcx : Crc.U32 (c ^^^ x) := Crc.xor_lt32 hc (by omega)
 go_enter Tryz.func115, Tryz.ntmps115
 have hx0 : bits .xor .u32 (c : Int) (x : Int) = ((c ^^^ x : Nat) : Int) := u32_xor_nat c x hc (by omega)
 go_wp2
 go_loop [0, 9] (fun c' i => ∃ k : Nat, k <= 8 /\ i = .int .i64 k /\ c' = .int .u32 (Crc.stpN k (c ^^^ x) : Nat)) (fun _ i => 8 - (intOf i).toNat)
 case atStart => exact ⟨0, by omega, rfl, by first | rfl | (rw [hx0]; rfl)⟩
 case round =>
  obtain ⟨k, hk, rfl, rfl⟩ := hrel
  have hs : Crc.U32 (Crc.stpN k (c ^^^ x)) := Crc.stpN_lt k hcx
  by_cases hlt : k < 8
  · go_wp2_with (go_at_call 122; refine (step_any _ hs _).mono ?_; rintro e w' ⟨rfl, rfl⟩)
    go_round
    case rel => exact ⟨k + 1, by omega, by go_num, rfl⟩
    case measure => simp [intOf]; omega
  · go_wp2
    go_ret
    exact ⟨ret_int (by have : k = 8 := by omega
                       subst this; rfl), rfl⟩
theorem Crc.run_zero (c : Nat) (l : List Nat) : Crc.run c (l.take 0) = c := by simp [Crc.run]
theorem Crc.run_take (c : Nat) (l : List Nat) (k : Nat) (h : k < l.length) : Crc.run c (l.take (k + 1)) = Crc.nxt (Crc.run c (l.take k)) l[k] := by
 rw [List.take_succ_eq_append_getElem h, Crc.run_snoc]
theorem Crc.take_lt {l : List Nat} (hl : ∀ x ∈ l, x < 256) (k : Nat) : ∀ x ∈ l.take k, x < 256 := fun x hx => hl x (List.mem_of_mem_take hx)
theorem sum_any (l : List Nat) (hl : ∀ x ∈ l, x < 256) (a : Option Addr) (n cap B : Nat) (hn : n <= maxLen) (w : World) (h : Rd w B a n (bv l)) :
 Calls Tryz.prog 89 #[.slice a n cap] w fun e w' => e = .returned (.int .u32 (Crc.sum l : Nat)) /\ w = w' := by
 unfold maxLen at hn
 have hlen := hD h.length
 have H := hD h
 clear h
 have H0 := hD (Crc.run_zero 4294967295 l)
 go_enter Tryz.func89, Tryz.ntmps89
 go_wp2
 go_loop [3, 5, 8] (fun c x i => ∃ k : Nat, k <= n /\ i = .int .i64 k /\ c = .int .u32 (Crc.run 4294967295 (l.take k) : Nat)) (fun _ _ i => n - (intOf i).toNat)
 case atStart => exact ⟨0, by omega, rfl, by rw [H0.out]; rfl⟩
 case round =>
  obtain ⟨k, hk, rfl, rfl⟩ := hrel
  have hs : Crc.U32 (Crc.run 4294967295 (l.take k)) := Crc.run_lt _ (by omega) (Crc.take_lt hl k)
  by_cases hlt : k < n
  · obtain ⟨b, o, rfl, hk', hc⟩ := H.out.bytes_at hlt
    have hx : l[k] < 256 := hl _ (List.getElem_mem hk')
    have HT := hD (Crc.run_take 4294967295 l k hk')
    go_wp2_with (go_at_call 115; refine (next_any _ _ hs hx _).mono ?_; rintro e w' ⟨rfl, rfl⟩)
    go_round
    case rel => exact ⟨k + 1, by omega, by go_num, by rw [HT.out]⟩
    case measure => simp [intOf]; omega
  · have HK := hD (show k = l.length from by have := hlen.out; omega)
    have hx := u32_xor_nat (Crc.run 4294967295 (l.take k)) 4294967295 hs (by omega)
    have HX := hD hx
    clear hx
    go_wp2
    go_ret
    exact ⟨ret_int (by
     refine Eq.trans HX.out ?_
     rw [HK.out, List.take_length]; rfl), rfl⟩
end Go.Proofs.YtmekamgohonffaaGreat
