/- BlobOwnWalk -/
import Derived.Test.YtmekamgohonffaaGreatBQ41
import Derived.Test.YtmekamgohonffaaGreatBQ48
import Derived.Test.YtmekamgohonffaaGreatBQ49
import Derived.Deep.CutBlock
import Derived.Deep.DeepCutAuto
import Derived.Deep.RegionWith
import Derived.OwnWalk
import Derived.WalkLawsBesides
import Derived.WalkSpells
namespace Go.Proofs.YtmekamgohonffaaGreat
open Go.RowKit
set_option linter.unusedVariables false
set_option maxHeartbeats 4000000 in
set_option maxRecDepth 100000 in
theorem blobOwn_raw (w : World) (pos rest : Int) {A0 : Option Addr} {n c0 B : Nat} {zs : List Int} (hn : n ≤ maxLen) (h : Rd w B A0 n (iv zs)) : Calls Tryz.prog 3 #[.slice A0 n c0, .int .i64 pos, .int .i64 rest] w fun e w' => e = .returned (.bool true) ∧ Below w.heap.size w w' := by
  have CS := Lib.hid (state15 w pos rest hn h (c := c0))
  clear h hn
  go_enter Tryz.func3, Tryz.ntmps3
  go_upto_region 2 with (first
    | (go_at_call 7; refine (CS.out).mono ?_; rintro en w1 ⟨aS, s, rfl, hok, h31, hfit, hr, hb⟩
       unfold stateV
       have HOK := Lib.hid (hok)
       have H31 := Lib.hid (h31)
       have HFIT := Lib.hid (hfit)
       have HR1 := Lib.hid (hr)
       have HB1 := Lib.hid (hb)
       have hfine : s.Fine := ⟨HOK.out.m, by have := H31.out; omega, HFIT.out⟩
       have HF := Lib.hid hfine
       clear hok h31 hfit hr hb hfine)
    | (go_at_call 6; refine (refEncode15 (W := w) rfl HF.out HR1.out HB1.out).mono ?_; rintro en w2 ⟨A2, c2, rfl, ho, hB, hb⟩
       have HO2 := Lib.hid (ho)
       have HB2 := Lib.hid (hB)
       clear ho hB hb)
    | fail)
  clear HR1 HB1 CS
  have hef := HF.out.enc_facts
  have hsm := HF.out.body_small H31.out
  have hdc := Sb.dec_enc HOK.out (by have := HOK.out.m.enc_length; omega)
  obtain ⟨l, hl⟩ : ∃ l, s.enc = l := ⟨_, rfl⟩
  rw [hl] at hef hdc HO2 ⊢
  obtain ⟨L, hL⟩ : ∃ L, l.length = L := ⟨_, rfl⟩
  rw [hL] at HO2 ⊢
  have HE := Lib.hid hl
  have HL := Lib.hid hL
  have HBY := Lib.hid hef.1
  have HD := Lib.hid hdc
  have HL4 : Hid (4 ≤ L ∧ L ≤ 14004) := Lib.hid (by omega)
  clear hef hsm hdc hl hL
  have s1 : (convert 23 9 (.slice A2 L c2)).run Tryz.prog w2 = .ok (.string (strB l)) w2 := str_of (Rd.own_ HO2.out)
  go_upto_region 3 with fail
  clear s1
  go_upto_region 4 with (first
    | (go_at_call 8; refine (decode15 (W := w2) HD.out (by rw [HL.out]; have := HL4.out; omega) HBY.out (own_cap HO2.out) (Rd.own_ HO2.out) (Below.refl _ _)).mono ?_; rintro en w3 ⟨a3, rfl, ho, hB, hb⟩
       unfold stateV
       have HS3 := Lib.hid (ho)
       have HB3 := Lib.hid (hB)
       clear ho hB hb)
    | (refine wpList_store_row rfl 34 (.tmp 9) (.tmp 29) rfl w3.heap.size (stateC a3 s) rfl rfl 34 #[.int .i64 0, .slice none 0 0, .slice none 0 0, .slice none 0 0, .slice none 0 0, .slice none 0 0, .slice none 0 0] (Blk.new w3 34 #[.int .i64 0, .slice none 0 0, .slice none 0 0, .slice none 0 0, .slice none 0 0, .slice none 0 0, .slice none 0 0]) (by kernel_rfl) rfl (by kernel_rfl) ?_)
    | fail)
  obtain ⟨g9, w4, hgE, hwE, hbE, hkE⟩ := boxed w3 #[.int .i64 0, .slice none 0 0, .slice none 0 0, .slice none 0 0, .slice none 0 0, .slice none 0 0, .slice none 0 0] (stateC a3 s) 34
  rw [hgE, hwE]
  have HBx := Lib.hid hbE
  have HK4 := Lib.hid hkE
  clear hgE hwE hbE hkE
  have HS4 := Lib.hid (HS3.out.below HBx.out)
  have HB4 := Lib.hid (HB3.out.trans (HBx.out.mono HB3.out.size))
  have HO4 := Lib.hid (((Rd.own_ HO2.out).below HB4.out))
  clear HBx HS3 HB3
  have hps := (Sb.part_step (b := l) (j := 0) (by rw [HL.out]; have := HL4.out; omega))
  obtain ⟨q, hq⟩ : ∃ q, (l.drop 0).take 64 = q := ⟨_, rfl⟩
  rw [hq] at hps
  have HP : Hid (Sb.part l 0 = some q) := Lib.hid hps.1
  have hq64 : q.length ≤ 64 := by rw [hps.2.2]; omega
  have hqb : ∀ x ∈ q, x < 256 := fun x hx => by rw [← hq] at hx; exact HBY.out x (List.mem_of_mem_drop (List.mem_of_mem_take hx))
  have HQ := Lib.hid (show q.length ≤ 64 ∧ ∀ x ∈ q, x < 256 from ⟨hq64, hqb⟩)
  clear hps hq hq64 hqb
  go_upto_region 5 with (first
    | (go_at_call 9; refine (part15 (W := w2) HP.out (by omega) (by rw [HL.out]; have := HL4.out; omega) (own_cap HO2.out) HO4.out HB4.out).mono ?_; rintro en w5 ⟨Ap, cp, rfl, ho, hB, hb⟩
       rw [show (some q).getD [] = q from rfl] at ho
       rw [show (some q).getD [] = q from rfl]
       have HP5 := Lib.hid (ho)
       have HB5 := Lib.hid (hB)
       have HK5 := Lib.hid (HK4.out.below hb)
       have HS5 := Lib.hid (HS4.out.below hb)
       clear ho hB hb)
    | fail)
  clear HB4 HK4 HS4 HO4 HP
  obtain ⟨us, hts⟩ := Ts.start HK5.out HS5.out HP5.out HOK.out.m HFIT.out (by have := H31.out; omega) (by have := HQ.out.1; omega) HQ.out.2 HB5.out
  clear HK5 HS5 HP5 HB5
  obtain ⟨N0, hN0⟩ : ∃ x, s.m.o.reg.length = x := ⟨_, rfl⟩
  obtain ⟨nr, hnr⟩ : ∃ x, s.rest.length = x := ⟨_, rfl⟩
  obtain ⟨np, hnp⟩ : ∃ x, q.length = x := ⟨_, rfl⟩
  obtain ⟨R0, hR0⟩ : ∃ x, a3.m.o.A0 = x := ⟨_, rfl⟩
  obtain ⟨Ar, hAr⟩ : ∃ x, a3.Ar = x := ⟨_, rfl⟩
  obtain ⟨r0, hr0⟩ : ∃ x, a3.m.o.c0 = x := ⟨_, rfl⟩
  obtain ⟨cr, hcr⟩ : ∃ x, a3.cr = x := ⟨_, rfl⟩
  obtain ⟨v2, hv2⟩ : ∃ x, Value.slice a3.m.o.A1 s.m.o.q.length a3.m.o.c1 = x := ⟨_, rfl⟩
  obtain ⟨v3, hv3⟩ : ∃ x, Value.slice a3.m.o.A2 s.m.o.lk.length a3.m.o.c2 = x := ⟨_, rfl⟩
  obtain ⟨v4, hv4⟩ : ∃ x, Value.slice a3.m.o.A3 s.m.o.mp.length a3.m.o.c3 = x := ⟨_, rfl⟩
  obtain ⟨v5, hv5⟩ : ∃ x, Value.slice a3.m.At s.m.t.length a3.m.ct = x := ⟨_, rfl⟩
  obtain ⟨pp, hpp⟩ : ∃ x, s.pos = x := ⟨_, rfl⟩
  rw [hN0, hnr, hnp, hR0, hAr, hr0, hcr, hv2, hv3, hv4, hv5, hpp] at hts
  rw [hnp]
  have HT := Lib.hid hts
  have hlen := hts.len
  obtain ⟨hl1, hl2, hl3⟩ := hlen
  clear hts hN0 hnr hnp hR0 hAr hr0 hcr hv2 hv3 hv4 hv5 hpp
  go_wp2_with fail
  go_loopw [38] (fun s38 wr => ∃ k : Nat, k ≤ np ∧ s38 = .int .i64 (k : Int) ∧ Hid (Ts w2 wr g9 pp R0 Ar Ap r0 cr N0 nr np v2 v3 v4 v5 us)) (fun s38 _ => np - (intOf s38).toNat)
  case atStart => exact ⟨0, Nat.zero_le _, rfl, HT⟩
  case round =>
    clear HT
    obtain ⟨k, hk, rfl, HT⟩ := hrel
    by_cases hlt : k < np
    · obtain ⟨gb, x, rfl, hb, hf, hx0, hx1, hc⟩ := HT.out.bp hlt
      have hu := up8 x hx0 hx1
      have hki : (k : Int) < (np : Int) := by omega
      have hwk : IntKind.i64.wrap ((k : Int) + 1) = (k : Int) + 1 := IntWalk.i64_in _ (by omega)
      have HS := Lib.hid (HT.out.setb (i := k) hb (show 0 ≤ (x + 1) % 256 by omega) (by omega))
      clear HT hb
      go_wp2_with fail
      go_roundw
      case rel => exact ⟨k + 1, by omega, by go_num, HS⟩
      case measure => simp only [intOf]; omega
    · have hki : ¬ (k : Int) < (np : Int) := by omega
      clear hlt hk
      rename World => wy
      have x6 : wy.cell? ⟨g9, 6, none⟩ = some (.slice Ar nr cr) := HT.out.blk.cell 6
      go_wp2_with fail
      clear x6
      go_loopw [51] (fun s51 wr => ∃ (j : Nat) (us : List Value), j ≤ nr ∧ s51 = .int .i64 (j : Int) ∧ Hid (Ts w2 wr g9 pp R0 Ar Ap r0 cr N0 nr np v2 v3 v4 v5 us)) (fun s51 _ => nr - (intOf s51).toNat)
      case atStart => exact ⟨0, us, Nat.zero_le _, rfl, HT⟩
      case round =>
        clear HT
        obtain ⟨j, us, hj, rfl, HT⟩ := hrel
        by_cases hlt : j < nr
        · obtain ⟨g, A9, m9, c9, rfl, hus, hm9⟩ := HT.out.ent hlt
          obtain ⟨⟨v1, hv1⟩, hf1⟩ := HT.out.cell0 hlt
          have hji : (j : Int) < (nr : Int) := by omega
          have hwj : IntKind.i64.wrap ((j : Int) + 1) = (j : Int) + 1 := IntWalk.i64_in _ (by omega)
          have x6 : wr.cell? ⟨g9, 6, none⟩ = some (.slice (some ⟨g, 0, none⟩) nr cr) := HT.out.blk.cell 6
          go_upto_region 14 with fail
          have hus2 : (us.set (j * 7) (.int .i64 99))[j * 7 + 5]? = some (.slice A9 m9 c9) := by rw [List.getElem?_set_ne (by omega)]; exact hus
          have HT2 := Lib.hid (HT.out.sess hlt (v := .int .i64 99))
          obtain ⟨us2, hu2⟩ : ∃ x, us.set (j * 7) (.int .i64 99) = x := ⟨_, rfl⟩
          rw [hu2] at HT2 hus2
          have HUS := Lib.hid hus2
          clear x6 hv1 hf1 hus hu2 HT hus2
          generalize wr.setCell ⟨g, j * 7, none⟩ (.int .i64 99) = wa at HT2 ⊢
          have x6 : wa.cell? ⟨g9, 6, none⟩ = some (.slice (some ⟨g, 0, none⟩) nr cr) := HT2.out.blk.cell 6
          have hc5 := HT2.out.cell5 hlt HUS.out
          go_wp2_with fail
          clear x6 hc5
          go_loopw [67] (fun s67 wr => ∃ (l : Nat), l ≤ m9 ∧ s67 = .int .i64 (l : Int) ∧ Hid (Ts w2 wr g9 pp R0 (some ⟨g, 0, none⟩) Ap r0 cr N0 nr np v2 v3 v4 v5 us2)) (fun s67 _ => m9 - (intOf s67).toNat)
          case atStart => exact ⟨0, Nat.zero_le _, rfl, HT2⟩
          case round =>
            clear HT2
            obtain ⟨l, hl, rfl, HT⟩ := hrel
            by_cases hl2 : l < m9
            · obtain ⟨gb, x, hgb, hb, hf, hx0, hx1, hc⟩ := HT.out.b5 hlt HUS.out hl2
              have hc5 := HT.out.cell5 hlt HUS.out
              rw [hgb] at hc5
              have hu := up8 x hx0 hx1
              have hli : (l : Int) < (m9 : Int) := by omega
              have hwl : IntKind.i64.wrap ((l : Int) + 1) = (l : Int) + 1 := IntWalk.i64_in _ (by omega)
              have x6 : wr.cell? ⟨g9, 6, none⟩ = some (.slice (some ⟨g, 0, none⟩) nr cr) := HT.out.blk.cell 6
              have HS := Lib.hid (HT.out.setb (i := l) hb (show 0 ≤ (x + 1) % 256 by omega) (by omega))
              clear HT hb hgb
              go_wp2_with fail
              go_roundw
              case rel => exact ⟨l + 1, by omega, by go_num, HS⟩
              case measure => simp only [intOf]; omega
            · have hli : ¬ (l : Int) < (m9 : Int) := by omega
              go_wp2_with fail
              go_roundw
              case rel => exact ⟨j + 1, us2, by omega, by go_num, HT⟩
              case measure => simp only [intOf]; omega
        · have hji : ¬ (j : Int) < (nr : Int) := by omega
          clear hlt hj
          rename World => wv
          have x1 : wv.cell? ⟨g9, 1, none⟩ = some (.slice R0 N0 r0) := HT.out.blk.cell 1
          go_wp2_with fail
          clear x1
          go_loopw [89] (fun s89 wr => ∃ k : Nat, k ≤ N0 ∧ s89 = .int .i64 (k : Int) ∧ Hid (Ts w2 wr g9 pp R0 Ar Ap r0 cr N0 nr np v2 v3 v4 v5 us)) (fun s89 _ => N0 - (intOf s89).toNat)
          case atStart => exact ⟨0, Nat.zero_le _, rfl, HT⟩
          case round =>
            clear HT
            obtain ⟨k, hk, rfl, HT⟩ := hrel
            by_cases hlt : k < N0
            · obtain ⟨gb, x, hgb, hb, hf, hx0, hx1, hc⟩ := HT.out.br hlt
              have x1 : wr.cell? ⟨g9, 1, none⟩ = some (.slice R0 N0 r0) := HT.out.blk.cell 1
              rw [hgb] at x1
              have hu := up8 x hx0 hx1
              have hki : (k : Int) < (N0 : Int) := by omega
              have hwk : IntKind.i64.wrap ((k : Int) + 1) = (k : Int) + 1 := IntWalk.i64_in _ (by omega)
              have HS := Lib.hid (HT.out.setb (i := k) hb (show 0 ≤ (x + 1) % 256 by omega) (by omega))
              clear HT hb hgb
              go_wp2_with fail
              go_roundw
              case rel => exact ⟨k + 1, by omega, by go_num, HS⟩
              case measure => simp only [intOf]; omega
            · have hki : ¬ (k : Int) < (N0 : Int) := by omega
              clear hlt hk
              rename World => wf
              have HO := Lib.hid (own_below HO2.out HT.out.bel)
              have HB := Lib.hid (HB2.out.trans (HT.out.bel.mono HB2.out.size))
              clear HT
              go_upto_region 26 with (first
                | (go_at_call 8; refine (decode15 (W := w) HD.out (by rw [HL.out]; have := HL4.out; omega) HBY.out (own_cap HO.out) (Rd.own_ HO.out) HB.out).mono ?_; rintro en w7 ⟨a7, rfl, ho, hB, hb⟩
                   unfold stateV
                   have HS7 := Lib.hid (ho)
                   have HB7 := Lib.hid (hB)
                   have HO7 := Lib.hid (own_below HO.out hb)
                   clear ho hB hb)
                | (refine wpList_store_row rfl 34 (.tmp 17) (.tmp 105) rfl w7.heap.size (stateC a7 s) rfl rfl 34 #[.int .i64 0, .slice none 0 0, .slice none 0 0, .slice none 0 0, .slice none 0 0, .slice none 0 0, .slice none 0 0] (Blk.new w7 34 #[.int .i64 0, .slice none 0 0, .slice none 0 0, .slice none 0 0, .slice none 0 0, .slice none 0 0, .slice none 0 0]) (by kernel_rfl) rfl (by kernel_rfl) ?_)
                | fail)
              obtain ⟨g17, w8, hgE, hwE, hbE, hkE⟩ := boxed w7 #[.int .i64 0, .slice none 0 0, .slice none 0 0, .slice none 0 0, .slice none 0 0, .slice none 0 0, .slice none 0 0] (stateC a7 s) 34
              rw [hgE, hwE]
              have HBx := Lib.hid hbE
              have HK8 := Lib.hid hkE
              clear hgE hwE hbE hkE
              have HS8 := Lib.hid ((HS7.out.below HBx.out).rd)
              have HB8 := Lib.hid (HB7.out.trans (HBx.out.mono HB7.out.size))
              have HO8 := Lib.hid (own_below HO7.out HBx.out)
              clear HBx HS7 HB7 HO7 HO HB
              have s1 : (convert 23 9 (.slice A2 L c2)).run Tryz.prog w8 = .ok (.string (strB l)) w8 := str_of (Rd.own_ HO8.out)
              have q1 := strB_self l
              have q3 : ((strB l).toList == (strB l).toList) = true := by simp
              go_wp2_with (first
                | (refine wpList_load_rowV (by first | rfl | kernel_rfl) 34 (.tmp 17) rfl g17 rfl 34 (stateC a7 s) (0, 0) _ HK8.out Tryz.underlying34 rfl (by kernel_rfl) ?_)
                | (go_at_call 10; refine (encode15 (W := w) HE.out HF.out HS8.out HB8.out).mono ?_; rintro en w9 ⟨A9, c9, rfl, ho, hB, hb⟩
                   have HB9 := Lib.hid (hB)
                   have s9 : (convert 23 9 (.slice A9 l.length c9)).run Tryz.prog w9 = .ok (.string (strB l)) w9 := str_of (Rd.own_ ho)
                   clear ho hB hb)
                | (go_at_call 11; refine (blobAwake _).mono ?_; rintro e wz ⟨rfl, hBz⟩
                   have HBz := Lib.hid (HB9.out.trans (hBz.mono HB9.out.size))
                   clear hBz)
                | fail)
              go_ret
              exact ⟨rfl, HBz.out⟩
theorem blobOwn_walk (a0 : Option Addr) (len0 cap0 : Nat) (z0 : List Int) (a1 : Int) (a2 : Int) (w : World) (w0 : IsRow .i64 w a0 len0 cap0 z0) (w1 : (Lit.int .i64 a1).wf = true) (w2 : (Lit.int .i64 a2).wf = true) : Calls Tryz.prog 3 #[.slice a0 len0 cap0, .int .i64 a1, .int .i64 a2] w fun e w' => e = .returned (.bool true) ∧ Below w.heap.size w w' := by
  have h := w0.ints
  exact blobOwn_raw w a1 a2 (Nat.le_trans h.2.2.1 h.2.2.2) h.1
end Go.Proofs.YtmekamgohonffaaGreat

