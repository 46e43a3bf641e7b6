/- SameRows CrcRef -/
import Derived.Test.YtmekamgohonffaaGreatBT00
import Derived.Test.YtmekamgohonffaaGreatBT03
import Derived.Test.YtmekamgohonffaaGreatBT19
import Derived.BigQuiet
import Derived.Deep.DeepCutAuto
import Derived.Deep.DrawnRows
import Derived.Deep.QuietTactic
import Derived.Deep.RegionHeld3
import Derived.Deep.RegionWith
import Derived.WalkSmall
namespace Go.Proofs.YtmekamgohonffaaGreat
open Go.RowKit
set_option linter.unusedVariables false
set_option maxRecDepth 100000 in
set_option maxHeartbeats 1000000 in
theorem sameRows_any (w : World) {A A' : Option Addr} {n c n' c' B B' : Nat} {qs qs' : List (List Nat)} (hb : BytesL qs) (hb' : BytesL qs') (h : RdQ w B A n qs) (h' : RdQ w B' A' n' qs') (hn : n <= maxLen) (hn' : n' <= maxLen) :
 Calls Tryz.prog 79 #[.slice A n c, .slice A' n' c'] w fun e w' => e = .returned (.bool (decide (qs = qs'))) /\ ∃ k, w' = w.drewN k := by
 have hl : qs.length = n := h.length
 have hl' : qs'.length = n' := h'.length
 unfold maxLen at hn hn'
 by_cases hne : n = n'
 · subst hne
   have HN : Hid (n <= 9223372036854775807) := hD (by omega)
   have HL := hD hl
   have HL' := hD hl'
   have H := hD h
   have H' := hD h'
   have HBY := hD hb
   have HBY' := hD hb'
   clear h h' hl hl' hn hn' hb hb'
   go_enter Tryz.func79, Tryz.ntmps79
   go_wp2
   go_loopw [5] (fun i wr => ∃ k : Nat, k <= n /\ i = .int .i64 k /\ (∀ j, j < k -> qs[j]? = qs'[j]?) /\ ∃ m, wr = w.drewN m) (fun i _ => n - (intOf i).toNat)
   case atStart => exact ⟨0, Nat.zero_le _, rfl, fun j hj => absurd hj (by omega), 0, rfl⟩
   case round =>
    obtain ⟨k, hk, rfl, hs, m, hm⟩ := hrel
    have hkm : (k : Int) <= 9223372036854775806 \/ k = n := by have := HN.out; omega
    by_cases hlt : k < n
    · have hW : Below w.heap.size w wr := by rw [hm]; exact (Below.refl w.heap.size w).trans ⟨rfl, rfl, rfl, Nat.le_refl _, fun _ _ => rfl⟩
      obtain ⟨b, o, l, A1, c1, rfl, hz, hc, hr1⟩ := (H.out.fit.below hW).at hlt
      obtain ⟨b', o', l', A2, c2, rfl, hz', hc', hr2⟩ := (H'.out.fit.below hW).at hlt
      have q1 := fun i => str_of (c := c1) (hr1.drewN i)
      have q2 := fun i => str_of (c := c2) (hr2.drewN i)
      have q3 := strL_eq (HBY.out l (List.mem_of_getElem? hz)) (HBY'.out l' (List.mem_of_getElem? hz'))
      have hv : IntKind.i64.wrap ((k : Int) + 1) = (k : Int) + 1 := IntWalk.i64_in _ (by have := HN.out; omega)
      have HS := hD hs
      have HZ := hD hz
      have HZ' := hD hz'
      have HM := hD hm
      clear hs hz hz' hm hkm hr1 hr2 hW
      by_cases he : l = l'
      · subst he
        rw [decide_eq_true rfl] at q3
        go_wp2
        go_quiet (fail)
        go_wp2
        go_roundw
        case rel =>
         refine ⟨k + 1, by omega, by go_num, fun j hj => ?_, m + nq, by rw [HM.out, World.drewN_drewN]⟩
         rcases Nat.lt_or_ge j k with h1 | h1
         · exact HS.out j h1
         · obtain rfl : j = k := by omega
           rw [HZ.out, HZ'.out]
        case measure => simp [intOf]; omega
      · rw [decide_eq_false he] at q3
        have HE := hD (show decide (qs = qs') = false by
         rw [decide_eq_false_iff_not]
         rintro rfl
         have h1 := HZ.out
         rw [HZ'.out] at h1
         injection h1 with h1
         exact he h1.symm)
        clear he
        go_wp2
        go_quiet (fail)
        go_wp2
        go_ret
        exact ⟨ret_bool HE.out.symm, m + nq, by rw [HM.out, World.drewN_drewN]⟩
    · have hkn : k = n := by omega
      have HE := hD (show decide (qs = qs') = true by
       rw [decide_eq_true_iff]
       apply List.ext_getElem?
       intro j
       rcases Nat.lt_or_ge j n with h1 | h1
       · exact hs j (by omega)
       · rw [List.getElem?_eq_none (by have := HL.out; omega), List.getElem?_eq_none (by have := HL'.out; omega)])
      have HM := hD hm
      clear hs hkn hm hkm
      go_wp2
      go_ret
      exact ⟨ret_bool HE.out.symm, m, HM.out⟩
 · have HE := hD (show decide (qs = qs') = false by
    rw [decide_eq_false_iff_not]; rintro rfl; omega)
   have hd : ((n : Int) == (n' : Int)) = false := by simp; omega
   have hd2 : ((n : Int) != (n' : Int)) = true := by simp; omega
   clear h h' hl hl' hn hn' hne
   go_enter Tryz.func79, Tryz.ntmps79
   go_wp2
   go_ret
   exact ⟨ret_bool HE.out.symm, 0, rfl⟩
theorem sameRows_below (w : World) {A A' : Option Addr} {n c n' c' B B' : Nat} {qs qs' : List (List Nat)} (hb : BytesL qs) (hb' : BytesL qs') (h : RdQ w B A n qs) (h' : RdQ w B' A' n' qs') (hn : n <= maxLen) (hn' : n' <= maxLen) :
 Calls Tryz.prog 79 #[.slice A n c, .slice A' n' c'] w fun e w' => e = .returned (.bool (decide (qs = qs'))) /\ Below w.heap.size w w' :=
 (sameRows_any w hb hb' h h' hn hn').mono fun e w' h => ⟨h.1, by obtain ⟨k, hk⟩ := h.2; rw [hk]; exact ⟨rfl, rfl, rfl, Nat.le_refl _, fun _ _ => rfl⟩⟩
theorem refnext_any (c x : Nat) (hc : Crc.U32 c) (hx : x < 256) (w : World) :
 Calls Tryz.prog 83 #[.int .u32 c, .int .u8 x] w fun e w' => e = .returned (.int .u32 (Crc.nxt c x : Nat)) /\ w = w' := by
 have hcx : Crc.U32 (c ^^^ x) := Crc.xor_lt32 hc (by omega)
 go_enter Tryz.func83, Tryz.ntmps83
 have hx0 : bits .xor .u32 (c : Int) (x : Int) = ((c ^^^ x : Nat) : Int) := u32_xor_nat c x hc (by omega)
 go_wp2
 go_loop [0, 5, 6] (fun c' i _ => ∃ k : Nat, k <= 8 /\ i = .int .i64 k /\ c' = .int .u32 (Crc.stpN k (c ^^^ x) : Nat)) (fun _ i _ => 8 - (intOf i).toNat)
 case atStart => exact ⟨0, by omega, rfl, by first | rfl | (rw [hx0]; rfl)⟩
 case round =>
  obtain ⟨k, hk, rfl, rfl⟩ := hrel
  have hs : Crc.U32 (Crc.stpN k (c ^^^ x)) := Crc.stpN_lt k hcx
  by_cases hlt : k < 8
  · go_wp2
    · have ho : (bits .and .u32 (Crc.stpN k (c ^^^ x) : Int) 1 == 1) = true := by assumption
      go_round
      case rel => exact ⟨k + 1, by omega, by go_num, by rw [Crc.stp_odd hs ho]; rfl⟩
      case measure => simp [intOf]; omega
    · have ho : (bits .and .u32 (Crc.stpN k (c ^^^ x) : Int) 1 == 1) = false := by assumption
      go_round
      case rel => exact ⟨k + 1, by omega, by go_num, by rw [Crc.stp_even hs ho]; rfl⟩
      case measure => simp [intOf]; omega
  · go_wp2
    go_ret
    exact ⟨ret_int (by have : k = 8 := by omega
                       subst this; rfl), rfl⟩
theorem refsum_any (l : List Nat) (hl : ∀ x ∈ l, x < 256) (a : Option Addr) (n cap B : Nat) (hn : n <= maxLen) (w : World) (h : Rd w B a n (bv l)) :
 Calls Tryz.prog 45 #[.slice a n cap] w fun e w' => e = .returned (.int .u32 (Crc.sum l : Nat)) /\ w = w' := by
 unfold maxLen at hn
 have hlen := hD h.length
 have H := hD h
 clear h
 have H0 := hD (Crc.run_zero 4294967295 l)
 go_enter Tryz.func45, Tryz.ntmps45
 go_wp2
 go_loop [3, 4] (fun c i => ∃ k : Nat, k <= n /\ i = .int .i64 k /\ c = .int .u32 (Crc.run 4294967295 (l.take k) : Nat)) (fun _ i => n - (intOf i).toNat)
 case atStart => exact ⟨0, by omega, rfl, by rw [H0.out]; rfl⟩
 case round =>
  obtain ⟨k, hk, rfl, rfl⟩ := hrel
  have hs : Crc.U32 (Crc.run 4294967295 (l.take k)) := Crc.run_lt _ (by omega) (Crc.take_lt hl k)
  by_cases hlt : k < n
  · obtain ⟨b, o, rfl, hk', hc⟩ := H.out.bytes_at hlt
    have hx : l[k] < 256 := hl _ (List.getElem_mem hk')
    have HT := hD (Crc.run_take 4294967295 l k hk')
    go_wp2_with (go_at_call 83; refine (refnext_any _ _ hs hx _).mono ?_; rintro e w' ⟨rfl, rfl⟩)
    go_round
    case rel => exact ⟨k + 1, by omega, by go_num, by rw [HT.out]⟩
    case measure => simp [intOf]; omega
  · have HK := hD (show k = l.length from by have := hlen.out; omega)
    have hx := u32_xor_nat (Crc.run 4294967295 (l.take k)) 4294967295 hs (by omega)
    have HX := hD hx
    clear hx
    go_wp2
    go_ret
    exact ⟨ret_int (by
     refine Eq.trans HX.out ?_
     rw [HK.out, List.take_length]; rfl), rfl⟩
end Go.Proofs.YtmekamgohonffaaGreat
