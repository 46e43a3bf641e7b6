/- BlobPartsWalk -/
import Derived.Test.YtmekamgohonffaaGreatBQ20
import Derived.Test.YtmekamgohonffaaGreatBQ31
import Derived.Test.YtmekamgohonffaaGreatBQ48
import Derived.Test.YtmekamgohonffaaGreatBQ49
import Derived.Deep.CutBlock
import Derived.Deep.DeepCutAuto
import Derived.Deep.RegionWith
import Derived.OwnWalk
import Derived.WalkLawsBesides
import Derived.WalkSpells
namespace Go.Proofs.YtmekamgohonffaaGreat
open Go.RowKit
set_option linter.unusedVariables false
theorem blob_set_lt {l : List Nat} (hl : ∀ x ∈ l, x < 256) (q : Nat) {y : Nat} (hy : y < 256) : ∀ x ∈ l.set q y, x < 256 := by
  intro x hx
  rcases List.mem_or_eq_of_mem_set hx with h | h
  · exact hl x h
  · omega
set_option maxHeartbeats 4000000 in
set_option maxRecDepth 100000 in
theorem blobParts_raw (w : World) (pos rest bit : Int) {A0 : Option Addr} {n c0 B : Nat} {zs : List Int} (hn : n ≤ maxLen) (h : Rd w B A0 n (iv zs)) : Calls Tryz.prog 5 #[.slice A0 n c0, .int .i64 pos, .int .i64 rest, .int .i64 bit] w fun e w' => e = .returned (.bool true) ∧ Below w.heap.size w w' := by
  have CS := Lib.hid (state15 w pos rest hn h (c := c0))
  clear h hn
  go_enter Tryz.func5, Tryz.ntmps5
  go_upto_region 2 with (first
    | (go_at_call 7; refine (CS.out).mono ?_; rintro en w1 ⟨aS, s, rfl, hok, h31, hfit, hr, hb⟩
       unfold stateV
       have HOK := Lib.hid (hok)
       have H31 := Lib.hid (h31)
       have HFIT := Lib.hid (hfit)
       have HR1 := Lib.hid (hr)
       have HB1 := Lib.hid (hb)
       clear hok h31 hfit hr hb)
    | (refine wpList_store_row rfl 34 (.tmp 9) (.tmp 23) rfl w1.heap.size (stateC aS s) rfl rfl 34 #[.int .i64 0, .slice none 0 0, .slice none 0 0, .slice none 0 0, .slice none 0 0, .slice none 0 0, .slice none 0 0] (Blk.new w1 34 #[.int .i64 0, .slice none 0 0, .slice none 0 0, .slice none 0 0, .slice none 0 0, .slice none 0 0, .slice none 0 0]) (by kernel_rfl) rfl (by kernel_rfl) ?_)
    | fail)
  obtain ⟨g9, w2, hgE, hwE, hbE, hkE⟩ := boxed w1 #[.int .i64 0, .slice none 0 0, .slice none 0 0, .slice none 0 0, .slice none 0 0, .slice none 0 0, .slice none 0 0] (stateC aS s) 34
  rw [hgE, hwE]
  have HBx := Lib.hid hbE
  have HK9 := Lib.hid hkE
  clear hgE hwE hbE hkE
  have HR2 := Lib.hid (HR1.out.fit.below HBx.out)
  have HB2 := Lib.hid (HB1.out.trans (HBx.out.mono HB1.out.size))
  clear HBx HR1 HB1 CS
  have hfine : s.Fine := ⟨HOK.out.m, by have := H31.out; omega, HFIT.out⟩
  have hef := hfine.enc_facts
  have hsm := hfine.body_small H31.out
  have hdc := Sb.dec_enc HOK.out (by have := HOK.out.m.enc_length; omega)
  have hbit := fun q hq x hx h0 => Sb.dec_bit (s := s) hfine.body_facts.2 q hq x hx h0
  obtain ⟨l, hl⟩ : ∃ l, s.enc = l := ⟨_, rfl⟩
  have HE := Lib.hid hl
  have HF := Lib.hid hfine
  rw [hl] at hef hdc hbit
  obtain ⟨L, hL⟩ : ∃ L, l.length = L := ⟨_, rfl⟩
  have HL := Lib.hid hL
  have HBY := Lib.hid hef.1
  have HD := Lib.hid hdc
  have HBIT := Lib.hid hbit
  have HL4 : Hid (4 ≤ L ∧ L ≤ 14004) := Lib.hid (by omega)
  clear hfine hef hsm hdc hbit hl hL
  go_upto_region 3 with (first
    | (refine wpList_load_row rfl  34 (.tmp 9) rfl g9 rfl 34 (stateC aS s) (0, 0) _ HK9.out Tryz.underlying34 rfl (by kernel_rfl) ?_)
    | (go_at_call 10; refine (encode15 (W := w) HE.out HF.out HR2.out HB2.out).mono ?_; rintro en w3 ⟨A3, c3, rfl, ho, hB, hb⟩
       rw [HL.out] at ho
       rw [HL.out]
       have HO3 := Lib.hid (ho)
       have HB3 := Lib.hid (hB)
       have HK3 := Lib.hid (HK9.out.below hb)
       have HR3 := Lib.hid (HR2.out.fit.below hb)
       clear ho hB hb)
    | fail)
  clear HB2 HK9 HR2
  have HR3 := Lib.hid HR3.out.fit
  go_wp2_with fail
  go_loopw [11, 12, 13, 14] (fun s11 s12 _ _ wr => ∃ (k m : Nat) (A1 : Option Addr) (c1 : Nat), 64 * k < L + 64 ∧ s12 = .int .i64 (k : Int) ∧ s11 = .slice A1 m c1 ∧ Hid (m = min (64 * k) L) ∧ Hid (OwnB w3 wr A1 m c1 (l.take m)) ∧ Hid (Below w3.heap.size w3 wr)) (fun _ s12 _ _ _ => 400 - (intOf s12).toNat)
  case atStart => exact ⟨0, 0, none, 0, by omega, rfl, rfl, Lib.hid (by simp), Lib.hid (by simpa using own_nil w3 w3), Lib.hid (Below.refl _ _)⟩
  case round =>
    obtain ⟨k, m, A1, c1, hk, rfl, rfl, HM, HC, HBr⟩ := hrel
    have hk400 : (k : Int) < 400 := by have := HL4.out.2; omega
    have hm14 : m ≤ 14004 := by have := HM.out; have := HL4.out; omega
    have hwk : IntKind.i64.wrap ((k : Int) + 1) = (k : Int) + 1 := IntWalk.i64_in _ (by omega)
    have HO4 := Lib.hid (((Rd.own_ HO3.out).below HBr.out))
    by_cases hlt : m < L
    · obtain ⟨hp1, hp2, hp3⟩ := Sb.part_step (b := l) (j := m) (by rw [HL.out]; exact hlt)
      obtain ⟨q, hq⟩ : ∃ q, (l.drop m).take 64 = q := ⟨_, rfl⟩
      obtain ⟨Q, hQ⟩ : ∃ Q, q.length = Q := ⟨_, rfl⟩
      rw [hq] at hp1 hp2 hp3
      rw [hQ, HL.out] at hp3
      have HP := Lib.hid hp1
      have HP2 : Hid (l.take m ++ q = l.take (m + Q)) := Lib.hid (by
        rw [hp2, List.take_eq_take_iff, HL.out]; omega)
      have HQL := Lib.hid hQ
      have hmk : m = 64 * k := by have := HM.out; omega
      have HMN : Hid (m + Q = min (64 * (k + 1)) L) := Lib.hid (by omega)
      have hq0 : ((Q : Int) == 0) = false := by simp; omega
      have hq1 : ¬ (64 : Int) < (Q : Int) := by omega
      have hq64 : Q ≤ 64 := by omega
      have hx : (Q < 64 ∧ m + Q = L) ∨ ¬ Q < 64 := by omega
      have HKN : Hid (64 * (k + 1) < L + 64) := Lib.hid (by omega)
      clear hp1 hp2 hp3 hq hQ hmk hk
      have hwq : IntKind.i64.wrap ((m : Int) + (Q : Int)) = ((m + Q : Nat) : Int) := by rw [IntWalk.i64_in _ (by omega)]; omega
      have CP := Lib.hid (part15 (W := w3) (c := c3) HP.out (by omega) (by rw [HL.out]; have := HL4.out; omega) (own_cap HO3.out) HO4.out HBr.out)
      rcases hx with ⟨hQ64, hmQ⟩ | hQ64
      · have hQi : (Q : Int) < 64 := by omega
        rw [hmQ] at hwq
        have hnq : ((L : Int) != (L : Int)) = false := by simp
        go_wp2_with (first
          | (go_at_call 9; refine (CP.out).mono ?_; rintro en w4 ⟨Aq, cq, rfl, ho, hB, hb⟩
             rw [show (some q).getD [] = q from rfl, HQL.out] at ho
             rw [show (some q).getD [] = q from rfl, HQL.out]
             have HOq := Lib.hid (ho)
             have HB4 := Lib.hid (hB)
             have HC4 := Lib.hid (own_below HC.out hb)
             clear ho hB hb)
          | (at_builtin
             refine wpList_append_bytes (W := w3) byteT (.tmp 62) (.tmp 63) rfl (by rfl) rfl HC4.out rfl (Rd.own_ HOq.out) (by omega) HB4.out ?_
             intro A5 c5 w5 ho5 hr5 hB5
             rw [HP2.out] at ho5
             have HO5 := Lib.hid ho5
             have HB5 := Lib.hid hB5
             clear ho5 hr5 hB5)
          | fail)
        go_roundw
        case rel => exact ⟨k + 1, m + Q, A5, c5, HKN.out, by go_num, by first | rfl | rw [hmQ], HMN, HO5, HB5⟩
        case measure => simp only [intOf]; omega
      · have hQi : ¬ (Q : Int) < 64 := by omega
        go_wp2_with (first
          | (go_at_call 9; refine (CP.out).mono ?_; rintro en w4 ⟨Aq, cq, rfl, ho, hB, hb⟩
             rw [show (some q).getD [] = q from rfl, HQL.out] at ho
             rw [show (some q).getD [] = q from rfl, HQL.out]
             have HOq := Lib.hid (ho)
             have HB4 := Lib.hid (hB)
             have HC4 := Lib.hid (own_below HC.out hb)
             clear ho hB hb)
          | (at_builtin
             refine wpList_append_bytes (W := w3) byteT (.tmp 62) (.tmp 63) rfl (by rfl) rfl HC4.out rfl (Rd.own_ HOq.out) (by omega) HB4.out ?_
             intro A5 c5 w5 ho5 hr5 hB5
             rw [HP2.out] at ho5
             have HO5 := Lib.hid ho5
             have HB5 := Lib.hid hB5
             clear ho5 hr5 hB5)
          | fail)
        go_roundw
        case rel => exact ⟨k + 1, m + Q, A5, c5, HKN.out, by go_num, by first | rfl | rw [hmQ], HMN, HO5, HB5⟩
        case measure => simp only [intOf]; omega
    · have hmL : m = L := by have := HM.out; omega
      subst hmL
      have HP : Hid (Sb.part l (m : Int) = none) := Lib.hid (Sb.part_stop (by rw [HL.out]; exact Nat.le_refl _))
      have CP := Lib.hid (part15 (W := w3) (c := c3) HP.out (by omega) (by rw [HL.out]; omega) (own_cap HO3.out) HO4.out HBr.out)
      have hlt : l.take m = l := List.take_of_length_le (by rw [HL.out]; exact Nat.le_refl _)
      rw [hlt] at HC
      clear HP HO4 HM hk hwk hlt
      go_upto_region 12 with (first
        | (go_at_call 9; refine (CP.out).mono ?_; rintro en w4 ⟨Aq, cq, rfl, ho, hB, hb⟩
           have HC4 := Lib.hid (own_below HC.out hb)
           have HB4 := Lib.hid (hB)
           have HO5 := Lib.hid ((Rd.own_ HO3.out).below hB)
           clear ho hB hb)
        | fail)
      have HK5 := Lib.hid (HK3.out.below HB4.out)
      have HR5 := Lib.hid ((HR3.out.below HB4.out).fit)
      have HB5 := Lib.hid (HB3.out.trans (HB4.out.mono HB3.out.size))
      have HB3s := Lib.hid HB3.out.size
      clear HC HBr HB4 CP
      go_upto_region 13 with (first
        | (go_at_call 8; refine (decode15 (W := w4) HD.out (by rw [HL.out]; omega) HBY.out (own_cap HC4.out) (Rd.own_ HC4.out) (Below.refl _ _)).mono ?_; rintro en w5 ⟨a5, rfl, ho, hB, hb⟩
           unfold stateV
           have HS5 := Lib.hid (ho)
           have HBB := Lib.hid (hb)
           clear ho hB hb)
        | (refine wpList_store_row rfl 34 (.tmp 15) (.tmp 68) rfl w5.heap.size (stateC a5 s) rfl rfl 34 #[.int .i64 0, .slice none 0 0, .slice none 0 0, .slice none 0 0, .slice none 0 0, .slice none 0 0, .slice none 0 0] (Blk.new w5 34 #[.int .i64 0, .slice none 0 0, .slice none 0 0, .slice none 0 0, .slice none 0 0, .slice none 0 0, .slice none 0 0]) (by kernel_rfl) rfl (by kernel_rfl) ?_)
        | fail)
      obtain ⟨g15, w6, hgE, hwE, hbE, hkE⟩ := boxed w5 #[.int .i64 0, .slice none 0 0, .slice none 0 0, .slice none 0 0, .slice none 0 0, .slice none 0 0, .slice none 0 0] (stateC a5 s) 34
      rw [hgE, hwE]
      have HBx := Lib.hid hbE
      have HK15 := Lib.hid hkE
      clear hgE hwE hbE hkE
      have hb46 : Below w4.heap.size w4 w6 := HBB.out.trans (HBx.out.mono HBB.out.size)
      have HS6 := Lib.hid ((HS5.out.below HBx.out).rd)
      have HC6 := Lib.hid (own_below HC4.out hb46)
      have HO6 := Lib.hid (HO5.out.fit.below hb46)
      have HK6 := Lib.hid (HK5.out.below hb46)
      have HR6 := Lib.hid ((HR5.out.below hb46).fit)
      have HB6 := Lib.hid (HB5.out.trans (hb46.mono HB5.out.size))
      clear hb46 HBx HBB HS5 HC4 HO5 HK5 HR5 HB5
      have s1 : (convert 23 9 (.slice A1 m c1)).run Tryz.prog w6 = .ok (.string (strB l)) w6 := str_of (Rd.own_ HC6.out)
      have s2 : (convert 23 9 (.slice A3 m c3)).run Tryz.prog w6 = .ok (.string (strB l)) w6 := str_of HO6.out
      have q1 := strB_self l
      have q3 : ((strB l).toList == (strB l).toList) = true := by simp
      have hL0 : ((m : Int) == 0) = false := by have := HL4.out.1; simp; omega
      have rm15 : w6.rangeAt g15 1 [.slice a5.m.o.A0 s.m.o.reg.length a5.m.o.c0, .slice a5.m.o.A1 s.m.o.q.length a5.m.o.c1, .slice a5.m.o.A2 s.m.o.lk.length a5.m.o.c2, .slice a5.m.o.A3 s.m.o.mp.length a5.m.o.c3, .slice a5.m.At s.m.t.length a5.m.ct] := by
        have := World.rangeAt_of_block HK15.out 1 5
        simpa [stateC] using this
      have rm9 : w6.rangeAt g9 1 [.slice aS.m.o.A0 s.m.o.reg.length aS.m.o.c0, .slice aS.m.o.A1 s.m.o.q.length aS.m.o.c1, .slice aS.m.o.A2 s.m.o.lk.length aS.m.o.c2, .slice aS.m.o.A3 s.m.o.mp.length aS.m.o.c3, .slice aS.m.At s.m.t.length aS.m.ct] := by
        have := World.rangeAt_of_block HK6.out 1 5
        simpa [stateC] using this
      have HM15 := Lib.hid rm15
      have HM9 := Lib.hid rm9
      have HG : Hid (g15 < w6.heap.size ∧ g9 < w6.heap.size) := Lib.hid ⟨HK15.out.lt, HK6.out.lt⟩
      clear rm15 rm9
      go_upto_region 15 with (first
        | (refine wpList_load_rowV (by first | rfl | kernel_rfl) 34 (.tmp 9) rfl g9 rfl 34 (stateC aS s) (0, 0) _ HK6.out Tryz.underlying34 rfl (by kernel_rfl) ?_)
        | (refine wpList_load_rowV (by first | rfl | kernel_rfl) 34 (.tmp 15) rfl g15 rfl 34 (stateC a5 s) (0, 0) _ HK15.out Tryz.underlying34 rfl (by kernel_rfl) ?_)
        | (go_at_call 13; refine (refSame15 w6 (a := aS) (s := s) (a' := a5) (s' := s) HOK.out.m HOK.out.m HFIT.out HFIT.out (by have := H31.out; omega) HR6.out HS6.out).mono ?_; rintro en w7 ⟨rfl, hb⟩
           rw [decide_eq_true (rfl : s = s)]
           have HM15b := Lib.hid (rangeB HM15.out hb HG.out.1)
           have HM9b := Lib.hid (rangeB HM9.out hb HG.out.2)
           have HBB := Lib.hid (hb)
           clear hb)
        | (refine wpList_load_midV (by rfl) 31 (.tmp 91) rfl g15 1 rfl [.slice a5.m.o.A0 s.m.o.reg.length a5.m.o.c0, .slice a5.m.o.A1 s.m.o.q.length a5.m.o.c1, .slice a5.m.o.A2 s.m.o.lk.length a5.m.o.c2, .slice a5.m.o.A3 s.m.o.mp.length a5.m.o.c3, .slice a5.m.At s.m.t.length a5.m.ct] _ HM15b.out Tryz.underlying31 rfl (by kernel_rfl) ?_)
        | (refine wpList_load_midV (by rfl) 31 (.tmp 93) rfl g9 1 rfl [.slice aS.m.o.A0 s.m.o.reg.length aS.m.o.c0, .slice aS.m.o.A1 s.m.o.q.length aS.m.o.c1, .slice aS.m.o.A2 s.m.o.lk.length aS.m.o.c2, .slice aS.m.o.A3 s.m.o.mp.length aS.m.o.c3, .slice aS.m.At s.m.t.length aS.m.ct] _ HM9b.out Tryz.underlying31 rfl (by kernel_rfl) ?_)
        | (go_at_call 15; refine (refSame_any w7 (a := a5.m) (m := s.m) (a' := aS.m) (m' := s.m) HOK.out.m HOK.out.m (HS6.out.below HBB.out).m (HR6.out.below HBB.out).m).mono ?_; rintro en w8 ⟨rfl, hb⟩
           rw [decide_eq_true (rfl : s.m = s.m)]
           have HBC := Lib.hid (HBB.out.trans (hb.mono HBB.out.size))
           clear hb)
        | fail)
      have HC8 := Lib.hid (own_below HC6.out HBC.out)
      have HB8 := Lib.hid (HB6.out.trans (HBC.out.mono HB6.out.size))
      clear s1 s2 q1 q3 hL0 HBB HBC HM15 HM9 HM15b HM9b HG HC6 HO6 HK6 HK15 HR6 HS6 HB6
      have a20 : ∀ n, bits .and .i64 n 1048575 = n % 1048576 := fun n => by simpa using and_mask n 20 (by omega)
      have hK : ∃ K : Nat, bit % 1048576 % (8 * (m : Int)) = (K : Int) ∧ K < 8 * m := by
        have hm0 := HL4.out.1
        have h1 := Int.emod_nonneg (bit % 1048576) (show (8 * (m : Int)) ≠ 0 by omega)
        have h2 := Int.emod_lt_of_pos (bit % 1048576) (show 0 < 8 * (m : Int) by omega)
        exact ⟨(bit % 1048576 % (8 * (m : Int))).toNat, by omega, by omega⟩
      obtain ⟨K, hK1, hK2⟩ := hK
      have hrem : (bit % 1048576).tmod (8 * (m : Int)) = (K : Int) := by rw [Int.tmod_eq_emod_of_nonneg (by omega)]; exact hK1
      have hm8 : IntKind.i64.wrap (8 * (m : Int)) = 8 * (m : Int) := IntWalk.i64_in _ (by omega)
      have hm80 : ¬ (8 * (m : Int)) = 0 := by have := HL4.out.1; omega
      have hm81 : ((8 * (m : Int)) == 0) = false := by have := HL4.out.1; simp; omega
      clear hK1
      obtain ⟨q, r, hq, hr, hq2, hr2⟩ : ∃ q r : Nat, (K : Int) / 8 = (q : Int) ∧ bits .and .i64 (K : Int) 7 = (r : Int) ∧ q < m ∧ r < 8 :=
        ⟨K / 8, K % 8, by omega, by rw [and_7]; omega, by omega, by omega⟩
      have hr8 : 2 ^ r < 256 := by have h2 := Nat.pow_lt_pow_right (a := 2) (show 1 < 2 by omega) hr2; have e8 : (2 : Nat) ^ 8 = 256 := rfl; omega
      have hLq : l[q]?.getD 0 < 256 := by rw [List.getElem?_eq_getElem (by rw [HL.out]; omega)]; exact HBY.out _ (List.getElem_mem (by rw [HL.out]; omega))
      have hNO : Sb.dec (l.set q (l[q]?.getD 0 ^^^ 2 ^ r)) = none := by
        have e := HBIT.out q (by rw [HL.out]; exact hq2) (2 ^ r) hr8 (by have := Nat.two_pow_pos r; omega)
        rw [List.getD_eq_getElem?_getD] at e
        exact e
      have hyy : l.getD q 0 = l[q]?.getD 0 := List.getD_eq_getElem?_getD
      obtain ⟨y, hy⟩ : ∃ y, l[q]?.getD 0 = y := ⟨_, rfl⟩
      rw [hy] at hLq hNO hyy
      have HNO := Lib.hid hNO
      have HYY := Lib.hid hyy
      clear hNO hy hyy
      have hx : bits .xor .u8 ((y : Nat) : Int) (2 ^ r % 256) = ((y ^^^ 2 ^ r : Nat) : Int) := by
        have e : ((2 : Int) ^ r % 256) = ((2 ^ r : Nat) : Int) := by
          have e1 : ((2 ^ r : Nat) : Int) = (2 : Int) ^ r := Int.natCast_pow 2 r
          rw [← e1]; exact Int.emod_eq_of_lt (Int.natCast_nonneg _) (Int.ofNat_lt.2 hr8)
        rw [e]; exact u8_xor_nat _ _ hLq hr8
      have HSL := Lib.hid (blob_set_lt HBY.out q (Crc.xor_lt8 hLq hr8))
      clear hLq
      obtain ⟨g1, rfl, hg1, hg2⟩ := own_addr HC8.out (by have := HL4.out.1; omega)
      have hc1 := own_byte HC8.out hq2
      have hf1 := HC8.out.frozenAt q
      rw [HYY.out] at hc1
      have HG1 : Hid (w.heap.size ≤ g1) := Lib.hid (by have := HB3s.out; omega)
      go_upto_region 17 with fail
      have hown2 := own_set HC8.out q (y ^^^ 2 ^ r)
      have hB2 := HB8.out.setCell (p := ⟨g1, q, none⟩) HG1.out (.int .u8 ((y ^^^ 2 ^ r : Nat) : Int))
      clear hc1 hf1 hx
      generalize w8.setCell ⟨g1, q, none⟩ (.int .u8 ((y ^^^ 2 ^ r : Nat) : Int)) = w9 at hown2 hB2 ⊢
      have HC9 := Lib.hid hown2
      have HB9 := Lib.hid hB2
      clear hown2 hB2 HC8 HB8
      go_upto_region 18 with (first
        | (go_at_call 8; refine (decode15 (W := w) HNO.out (by rw [List.length_set, HL.out]; omega) HSL.out (own_cap HC9.out) (Rd.own_ HC9.out) HB9.out).mono ?_; rintro en wa ⟨aa, rfl, ho, hB, hb⟩
           unfold stateV
           have HBa := Lib.hid (hB)
           clear ho hB hb)
        | (refine wpList_store_row rfl 34 (.tmp 18) (.tmp 121) rfl wa.heap.size (stateC aa Sb.zero) rfl rfl 34 #[.int .i64 0, .slice none 0 0, .slice none 0 0, .slice none 0 0, .slice none 0 0, .slice none 0 0, .slice none 0 0] (Blk.new wa 34 #[.int .i64 0, .slice none 0 0, .slice none 0 0, .slice none 0 0, .slice none 0 0, .slice none 0 0, .slice none 0 0]) (by kernel_rfl) rfl (by kernel_rfl) ?_)
        | fail)
      obtain ⟨g18, wb, hgE, hwE, hbE, hkE⟩ := boxed wa #[.int .i64 0, .slice none 0 0, .slice none 0 0, .slice none 0 0, .slice none 0 0, .slice none 0 0, .slice none 0 0] (stateC aa Sb.zero) 34
      rw [hgE, hwE]
      have HBx := Lib.hid hbE
      have HK18 := Lib.hid hkE
      clear hgE hwE hbE hkE
      have HBb := Lib.hid (HBa.out.trans (HBx.out.mono HBa.out.size))
      clear HBx HBa HK18 HC9 HB9
      go_wp2_with (first
        | (go_at_call 11; refine (blobAwake _).mono ?_; rintro e wz ⟨rfl, hBz⟩
           have HBz := Lib.hid (HBb.out.trans (hBz.mono HBb.out.size))
           clear hBz)
        | fail)
      go_ret
      exact ⟨rfl, HBz.out⟩
theorem blobParts_walk (a0 : Option Addr) (len0 cap0 : Nat) (z0 : List Int) (a1 : Int) (a2 : Int) (a3 : Int) (w : World) (w0 : IsRow .i64 w a0 len0 cap0 z0) (w1 : (Lit.int .i64 a1).wf = true) (w2 : (Lit.int .i64 a2).wf = true) (w3 : (Lit.int .i64 a3).wf = true) : Calls Tryz.prog 5 #[.slice a0 len0 cap0, .int .i64 a1, .int .i64 a2, .int .i64 a3] w fun e w' => e = .returned (.bool true) ∧ Below w.heap.size w w' := by
  have h := w0.ints
  exact blobParts_raw w a1 a2 a3 (Nat.le_trans h.2.2.1 h.2.2.2) h.1
end Go.Proofs.YtmekamgohonffaaGreat

