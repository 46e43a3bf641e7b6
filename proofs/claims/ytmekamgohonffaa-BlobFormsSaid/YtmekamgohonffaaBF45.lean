/- BlobCode2 BlobCode3 -/
import Derived.Test.YtmekamgohonffaaBF23
import Derived.Test.YtmekamgohonffaaBF37
import Derived.Test.YtmekamgohonffaaBF40
import Derived.Test.YtmekamgohonffaaBF41
import Derived.Test.YtmekamgohonffaaBF42
import Derived.Test.YtmekamgohonffaaBF44
namespace Go.Proofs.Ytmekamgohonffaa
open Go.RowKit
set_option linter.unusedVariables false
set_option maxHeartbeats 4000000 in
set_option maxRecDepth 100000 in
theorem encode15_raw {w : World} {a : SA} {s : Sb} {B : Nat} (hf : s.Fine) (h : RdS w B a s) : Calls Try.prog 4 #[stateV a s] w (GotIn w w s.enc) := by
  obtain ⟨aM, Ar, cr⟩ := a
  obtain ⟨p, m, es⟩ := s
  have hbf := hf.body_facts
  have HF := Lib.hid hf
  have hmok := hf.m
  have hn1000 := hf.n
  simp only at hn1000 hmok
  obtain ⟨l0, e0⟩ : ∃ x, [] ++ Pk.enc (Pk.held p) = x := ⟨_, rfl⟩
  obtain ⟨lm, em⟩ : ∃ x, m.enc = x := ⟨_, rfl⟩
  obtain ⟨l1, e1⟩ : ∃ x, l0 ++ Pk.encB lm = x := ⟨_, rfl⟩
  obtain ⟨l2, e2⟩ : ∃ x, l1 ++ Pk.enc (Pk.held (es.length : Int)) = x := ⟨_, rfl⟩
  have hbody : Hid (Sb.body ⟨p, m, es⟩ = l2 ++ encE es) := Lib.hid (by unfold Sb.body encN; rw [← e2, ← e1, ← e0, ← em]; simp)
  have hl1 : l1.length ≤ 1300 := by
    have h1 := (Pk.enc_length (Pk.held p)).2
    have h2 := encB_length lm
    have h3 := hmok.enc_length
    rw [em] at h3
    rw [← e1, ← e0]; simp only [List.nil_append, List.length_append]; omega
  have hl2 : l2.length ≤ 1400 := by
    have h1 := (Pk.enc_length (Pk.held (es.length : Int))).2
    rw [← e2]; simp only [List.length_append]; omega
  have hlm : lm.length ≤ 1200 := by rw [← em]; exact hmok.enc_length
  have hl0 : l0.length ≤ 9 := by
    have h1 := (Pk.enc_length (Pk.held p)).2
    rw [← e0]; simpa using h1
  have E0 := Lib.hid e0
  have EM := Lib.hid em
  have E1 := Lib.hid e1
  have E2 := Lib.hid e2
  have HBF := Lib.hid hbf
  have HR := Lib.hid h.fit
  have HMOK := Lib.hid hmok
  have h63 : es.length ≤ 9223372036854775807 := by omega
  clear e0 em e1 e2 hbf hf h hmok
  unfold stateV stateC
  simp only
  go_enter Try.func4, Try.ntmps4
  go_upto_region 1 with fail
  obtain ⟨g, wa, hg, hwa, hk, hba⟩ : ∃ g wa, w.heap.size = g ∧ w.alloc (.cells #[.int .i64 p, .slice aM.o.A0 m.o.reg.length aM.o.c0, .slice aM.o.A1 m.o.q.length aM.o.c1, .slice aM.o.A2 m.o.lk.length aM.o.c2, .slice aM.o.A3 m.o.mp.length aM.o.c3, .slice aM.At m.t.length aM.ct, .slice Ar es.length cr] 37) = wa ∧ Blk wa g 37 #[.int .i64 p, .slice aM.o.A0 m.o.reg.length aM.o.c0, .slice aM.o.A1 m.o.q.length aM.o.c1, .slice aM.o.A2 m.o.lk.length aM.o.c2, .slice aM.o.A3 m.o.mp.length aM.o.c3, .slice aM.At m.t.length aM.ct, .slice Ar es.length cr] ∧ Below w.heap.size w wa := ⟨_, _, rfl, rfl, Blk.new _ _ _, (Below.refl _ _).alloc (Nat.le_refl _) _⟩
  rw [hg, hwa]
  have HK := Lib.hid hk
  have HBa := Lib.hid hba
  have HRa := Lib.hid (HR.out.below hba).fit
  clear hg hwa hk hba
  have x0 : wa.cell? ⟨g, 0, none⟩ = some (.int .i64 p) := HK.out.cell 0
  go_upto_region 2 with (first
    | (go_at_call 8; refine (put_in (W := w) (by unfold Lim; simp) (Rd.none_ _ 0 _) HBa.out E0.out).mono ?_
       rintro en w2 ⟨A2, n2, c2, rfl, ho2, hB2, hb2⟩
       obtain rfl := own_len ho2
       have HO2 := Lib.hid ho2
       have HB2 := Lib.hid hB2
       have HR2 := Lib.hid (HRa.out.below hb2).fit
       have HK2 := Lib.hid (HK.out.below hb2)
       clear ho2 hB2 hb2)
    | fail)
  clear x0 HK HBa HRa
  have xm : w2.rangeAt g 1 [.slice aM.o.A0 m.o.reg.length aM.o.c0, .slice aM.o.A1 m.o.q.length aM.o.c1, .slice aM.o.A2 m.o.lk.length aM.o.c2, .slice aM.o.A3 m.o.mp.length aM.o.c3, .slice aM.At m.t.length aM.ct] := by
    have := World.rangeAt_of_block HK2.out 1 5
    simpa using this
  have XM := Lib.hid xm
  clear xm
  go_upto_region 3 with (first
    | (refine wpList_load_mid rfl 35 (.tmp 10) rfl g 1 rfl [.slice aM.o.A0 m.o.reg.length aM.o.c0, .slice aM.o.A1 m.o.q.length aM.o.c1, .slice aM.o.A2 m.o.lk.length aM.o.c2, .slice aM.o.A3 m.o.mp.length aM.o.c3, .slice aM.At m.t.length aM.ct] _ XM.out Try.underlying35 rfl (by kernel_rfl) ?_)
    | (go_at_call 10; refine (encode10 (W := w) (a := aM) HMOK.out HR2.out.m HB2.out).mono ?_
       rw [EM.out]
       rintro en w3 ⟨A3, c3, rfl, ho3, hB3, hb3⟩
       have HO2 := Lib.hid (own_below HO2.out hb3)
       have HO3 := Lib.hid ho3
       have HB3 := Lib.hid hB3
       have HR3 := Lib.hid (HR2.out.below hb3).fit
       have HK3 := Lib.hid (HK2.out.below hb3)
       clear ho3 hB3 hb3)
    | (go_at_call 9; refine (putb_in (W := w) (Rd.own_ HO2.out) (Rd.own_ HO3.out) (by unfold Lim; omega) HB3.out E1.out).mono ?_
       rintro en w4 ⟨A4, n4, c4, rfl, ho4, hB4, hb4⟩
       obtain rfl := own_len ho4
       have HO4 := Lib.hid ho4
       have HB4 := Lib.hid hB4
       have HR4 := Lib.hid (HR3.out.below hb4).fit
       have HK4 := Lib.hid (HK3.out.below hb4)
       clear ho4 hB4 hb4)
    | fail)
  clear XM HO3 HO2 HR2 HR3 HK2 HK3 HB2 HB3
  have x6 : w4.cell? ⟨g, 6, none⟩ = some (.slice Ar es.length cr) := HK4.out.cell 6
  go_upto_region 4 with (first
    | (go_at_call 8; refine (put_in (W := w) (by unfold Lim; omega) (Rd.own_ HO4.out) HB4.out E2.out).mono ?_
       rintro en w5 ⟨A5, n5, c5, rfl, ho5, hB5, hb5⟩
       obtain rfl := own_len ho5
       have HO5 := Lib.hid ho5
       have HB5 := Lib.hid hB5
       have HK5 := Lib.hid (HK4.out.below hb5)
       clear ho5 hB5 hb5)
    | fail)
  clear x6 HO4 HR4 HK4 HB4
  have x6 : w5.cell? ⟨g, 6, none⟩ = some (.slice Ar es.length cr) := HK5.out.cell 6
  go_upto_region 5 with fail
  clear x6 HK5
  go_loopw [3, 5, 22] (fun s3 s5 s22 wr => ∃ (k : Nat) (A : Option Addr) (c : Nat) (l : List Nat), k ≤ es.length ∧ s22 = .int .i64 (k : Int) ∧ s3 = .slice A l.length c ∧ Hid (l = l2 ++ encE (es.take k)) ∧ Hid (OwnB w wr A l.length c l) ∧ Hid (Below w.heap.size w wr)) (fun _ _ s _ => es.length - (intOf s).toNat)
  case atStart => exact ⟨0, A5, c5, l2, by omega, rfl, rfl, Lib.hid (by simp [encE]), HO5, HB5⟩
  case round =>
    clear HO5 HB5
    obtain ⟨k, A, c, l, hk, rfl, rfl, HL, HO, HB⟩ := hrel
    by_cases hlt : k < es.length
    · obtain ⟨b, o, e, ca, rfl, hb, he, hr, hc⟩ := (HR.out.r.below HB.out).range hlt
      have HRG := Lib.hid hr
      have HC := Lib.hid hc
      have HE := Lib.hid he
      have hfe := HF.out.c e (List.mem_of_getElem? he)
      have HFE := Lib.hid hfe
      have hle : e.enc.length ≤ 400 := En.enc_400 hfe
      have hll : l.length ≤ 1000000 := by
        have h1 := encE_400 (es.take k) (fun x hx => HF.out.c x (List.mem_of_mem_take hx))
        rw [HL.out, List.length_append]
        rw [List.length_take] at h1
        omega
      obtain ⟨le, hle'⟩ : ∃ x, e.enc = x := ⟨_, rfl⟩
      have HLE := Lib.hid hle'
      rw [hle'] at hle
      clear hr hc he hfe hb hle'
      go_upto_region 7 with (first
        | (refine wpList_load_mid rfl 26 (.tmp 24) rfl b (o + k * 7) rfl (entL ca e) _ HRG.out Try.underlying26 rfl (by kernel_rfl) ?_)
        | (refine wpList_store_row rfl 26 (.tmp 5) (.tmp 25) rfl wr.heap.size (entC ca e) rfl rfl 26 #[.int .i64 0, .int .i64 0, .int .i64 0, .int .i64 0, .slice none 0 0, .slice none 0 0, .slice none 0 0] (Blk.new wr 26 #[.int .i64 0, .int .i64 0, .int .i64 0, .int .i64 0, .slice none 0 0, .slice none 0 0, .slice none 0 0]) (by kernel_rfl) rfl (by kernel_rfl) ?_)
        | fail)
      obtain ⟨g5, wb, hg5, hwb, hbb, hkb⟩ := boxed wr #[.int .i64 0, .int .i64 0, .int .i64 0, .int .i64 0, .slice none 0 0, .slice none 0 0, .slice none 0 0] (entC ca e) 26
      rw [hg5, hwb]
      have HKB := Lib.hid hkb
      have HO1 := Lib.hid (own_below HO.out hbb)
      have HC1 := Lib.hid (HC.out.below (hbb.mono HB.out.size))
      have HB1 := Lib.hid (HB.out.trans (hbb.mono HB.out.size))
      clear hg5 hwb hbb hkb HO HB HC HRG
      go_wp2_with (first
        | (refine wpList_load_row rfl 26 (.tmp 5) rfl g5 rfl 26 (entC ca e) (0, 0) _ HKB.out Try.underlying26 rfl (by kernel_rfl) ?_)
        | (go_at_call 11; refine (putEntry_any (W := w) (l := []) (by simp) HFE.out (Rd.none_ _ 0 _) HC1.out HB1.out).mono ?_
           rw [HLE.out, List.nil_append]
           rintro en w6 ⟨A6, c6, rfl, ho6, hB6, hb6⟩
           have HO6 := Lib.hid (own_below HO1.out hb6)
           have HP6 := Lib.hid ho6
           have HB6 := Lib.hid hB6
           clear ho6 hB6 hb6)
        | (at_builtin
           refine wpList_append_bytes (W := w) byteT (.tmp 26) (.tmp 28) rfl (by rfl) rfl HO6.out rfl (Rd.own_ HP6.out) (by omega) HB6.out ?_
           intro A7 c7 w7 ho7 hr7 hB7
           have HO7 := Lib.hid ho7
           have HB7 := Lib.hid hB7
           clear ho7 hr7 hB7)
        | fail)
      go_roundw
      case rel => exact ⟨k + 1, A7, c7, l ++ le, by omega, by go_num, (by first | rfl | rw [List.length_append]), Lib.hid (by rw [encE_take HE.out, HL.out, List.append_assoc, HLE.out]), (by simpa using HO7), HB7⟩
      case measure => simp only [intOf]; omega
    · obtain rfl : k = es.length := by omega
      have hbody2 : l = Sb.body ⟨p, m, es⟩ := by rw [hbody.out, HL.out, List.take_length]
      have HBD := Lib.hid hbody2
      have HLB : Hid (l.length ≤ 500000 ∧ ∀ x ∈ l, x < 256) := Lib.hid (by rw [hbody2]; exact HBF.out)
      clear hbody2
      go_wp2_with (first
        | (go_at_call 12; refine (seallay (W := w) rfl HLB.out.2 (by have := HLB.out.1; omega) (Rd.own_ HO.out) HB.out).mono ?_
           rintro en w6 ⟨A6, c6, rfl, ho6, hB6, hb6⟩)
        | fail)
      go_ret
      have he : Sb.enc ⟨p, m, es⟩ = Fr.lay l := by rw [HBD.out]; rfl
      rw [he]
      exact ⟨A6, c6, rfl, ho6, hB6, hB6⟩
theorem encode15 : EncodeC15 := fun {W w a s B l} he hf h hB => by
  subst he
  exact (encode15_raw hf h).mono fun e w' ⟨A, c, h1, h2, h3, h4⟩ => ⟨A, c, h1, own_of hB.size h2, hB.trans (h3.mono hB.size), h4⟩
end Go.Proofs.Ytmekamgohonffaa

namespace Go.Proofs.Ytmekamgohonffaa
open Go.RowKit
set_option linter.unusedVariables false
set_option maxHeartbeats 8000000 in
set_option maxRecDepth 100000 in
theorem decode15_raw {w : World} {A : Option Addr} {n c B : Nat} {l : List Nat} (hl : l.length ≤ 100000) (hby : ∀ x ∈ l, x < 256) (hc : n ≤ c ∧ c ≤ maxLen) (h : Rd w B A n (bv l)) : Calls Try.prog 5 #[.slice A n c] w (GotS w w (Sb.dec l)) := by
  have b1 : Below w.heap.size w (w.alloc (.cells #[.int .i64 0, .slice none 0 0, .slice none 0 0, .slice none 0 0, .slice none 0 0, .slice none 0 0, .slice none 0 0] 37)) := (Below.refl _ _).alloc (Nat.le_refl _) _
  have k1 := Blk.new w 37 #[.int .i64 0, .slice none 0 0, .slice none 0 0, .slice none 0 0, .slice none 0 0, .slice none 0 0, .slice none 0 0]
  have HK1 := Lib.hid k1
  have HB1 := Lib.hid b1
  have HRD := Lib.hid (h.fit.below b1).fit
  have HLT : Hid (w.heap.size < (w.alloc (.cells #[.int .i64 0, .slice none 0 0, .slice none 0 0, .slice none 0 0, .slice none 0 0, .slice none 0 0, .slice none 0 0] 37)).heap.size) := Lib.hid (by rw [World.size_alloc]; omega)
  clear b1 k1 h
  obtain ⟨R, hR⟩ : ∃ R, Sb.dec l = R := ⟨_, rfl⟩
  rw [hR]
  go_enter Try.func5, Try.ntmps5
  go_upto_region 1 with fail
  generalize w.alloc (.cells #[.int .i64 0, .slice none 0 0, .slice none 0 0, .slice none 0 0, .slice none 0 0, .slice none 0 0, .slice none 0 0] 37) = w1 at HK1 HB1 HRD HLT ⊢
  obtain ⟨g2, hg2⟩ : ∃ g2, w.heap.size = g2 := ⟨_, rfl⟩
  have HG2 := Lib.hid hg2
  rw [hg2] at HK1 HLT ⊢
  clear hg2
  cases hU : Fr.unf l with
  | none =>
    have hR0 : R = none := by rw [← hR]; exact Sb.dec_none hU
    subst hR0
    clear hR
    have CU := Lib.hid (seallift (W := w1) hU hby (by omega) hc.1 HRD.out (Below.refl _ _))
    go_wp2_with (first
      | (go_at_call 13; refine CU.out.mono ?_; rintro en w2 ⟨Au, cu, rfl, hou, hbu, hb2⟩
         have HK2 := Lib.hid (HK1.out.below hb2)
         have HB2 := Lib.hid (HB1.out.trans (hb2.mono HB1.out.size))
         clear hou hbu hb2)
      | (refine wpList_store_row rfl 37 (.tmp 2) (.tmp 17) rfl g2 #[.int .i64 0, .slice none 0 0, .slice none 0 0, .slice none 0 0, .slice none 0 0, .slice none 0 0, .slice none 0 0] rfl rfl 37 #[.int .i64 0, .slice none 0 0, .slice none 0 0, .slice none 0 0, .slice none 0 0, .slice none 0 0, .slice none 0 0] HK2.out (by kernel_rfl) rfl (by kernel_rfl) ?_)
      | fail)
    refine bodyPost_ret (results_cell_tmp rfl _ _ _ _ _ _ rfl (Blk.row HK2.out #[.int .i64 0, .slice none 0 0, .slice none 0 0, .slice none 0 0, .slice none 0 0, .slice none 0 0, .slice none 0 0]) Try.underlying37 rfl (by kernel_rfl)) rfl ?_
    have hb : Below w.heap.size w (w2.setRow g2 #[.int .i64 0, .slice none 0 0, .slice none 0 0, .slice none 0 0, .slice none 0 0, .slice none 0 0, .slice none 0 0]) := below_setRow HB2.out (by have := HG2.out; omega) _
    exact ⟨SA.zero, rfl, OwnS.zero _ _, hb, hb⟩
  | some x =>
    have hxl : x.length ≤ 100000 ∧ ∀ y ∈ x, y < 256 := by
      obtain ⟨rfl, _⟩ := Fr.unf_is hU
      exact ⟨by simp; omega, fun y hy => hby y (List.mem_of_mem_drop hy)⟩
    rw [Sb.dec_cdec hU (by omega)] at hR
    have CU := Lib.hid (seallift (W := w1) hU hby (by omega) hc.1 HRD.out (Below.refl _ _))
    have hxl' : Lim 40 x.length := by have := hxl.1; unfold Lim; omega
    have hx63 : x.length ≤ 9223372036854775807 := by have := hxl.1; omega
    have HXL := Lib.hid hxl
    clear hxl HRD hU
    go_upto_region 4 with (first
      | (go_at_call 13; refine CU.out.mono ?_; rintro en w2 ⟨Au, cu, rfl, hou, hbu, hb2⟩
         have HK2 := Lib.hid (HK1.out.below hb2)
         have HB2 := Lib.hid (HB1.out.trans (hb2.mono HB1.out.size))
         have HO2 := Lib.hid hou
         have HL2 : Hid (g2 < w2.heap.size) := Lib.hid (Nat.lt_of_lt_of_le HLT.out hb2.size)
         clear hou hbu hb2)
      | fail)
    clear CU HK1 HB1 HLT
    have hc0 := Sb.c_facts HXL.out.2
    have hcl := Sb.cmb_len x
    have hml := Sb.cmost_le x
    have hpl := Sb.cpos_le x
    obtain ⟨M, hM⟩ : ∃ M, Sb.cmost x = M := ⟨_, rfl⟩
    obtain ⟨p, hp⟩ : ∃ p, Sb.cpos x = p := ⟨_, rfl⟩
    have hmin : ∀ (w : World) ts t, (Builtin.min_ ts t #[.int .i64 64, .int .i64 (549755813888 - (p : Int))]).run Try.prog w = .ok (.int .i64 M) w := fun w ts t => by
      rw [run_min_int2, ← hM, ← hp]
      unfold Sb.cmost
      by_cases h : (549755813888 : Int) - (Sb.cpos x : Int) < 64
      · rw [if_pos h, show min (64 : Int) (549755813888 - (Sb.cpos x : Int)) = 549755813888 - (Sb.cpos x : Int) by omega]
      · rw [if_neg h, show min (64 : Int) (549755813888 - (Sb.cpos x : Int)) = 64 by omega]
    rw [hM] at hml
    rw [hp] at hpl
    have hsub : IntKind.i64.wrap (549755813888 - (p : Int)) = 549755813888 - (p : Int) := IntWalk.i64_in _ (by omega)
    obtain ⟨D, hD⟩ : ∃ D, Mc.dec (Sb.cmb x) = D := ⟨_, rfl⟩
    obtain ⟨es, hes⟩ : ∃ es, (Sb.ces x).1 = es := ⟨_, rfl⟩
    obtain ⟨s4, hs4⟩ : ∃ s4, (Sb.ces x).2 = s4 := ⟨_, rfl⟩
    have HR : Hid (Sb.cdec x = if (D.isSome && Pk.endOf s4) = true then some ⟨(p : Int), D.getD Mc.zero, es⟩ else none) := Lib.hid (by unfold Sb.cdec Sb.cgood; rw [hD, hes, hs4, hp])
    rw [hR] at HR
    clear hR
    have C1 := Lib.hid (fun w b (h : RdrAt w b (some x)) => rnum_is w b (some x) 549755813888 h p (Sb.c1 x) hp rfl)
    have C2 := Lib.hid (fun w b (h : RdrAt w b (Sb.c1 x)) => rbytes_is w b (Sb.c1 x) (x.length : Int) h (Sb.cmb x) (Sb.c2 x) rfl rfl)
    have C3 := Lib.hid (fun (w : World) b (h : RdrAt w b (Sb.c2 x)) => getRest15 w b (Sb.c2 x) (most := M) hml.1 (by omega) h (R := es) (s' := s4) (by rw [← hM, ← hes]; rfl) (by rw [← hM, ← hs4]; rfl))
    have hx1 := HXL.out.1
    have C4 := Lib.hid (fun (W w : World) (A : Option Addr) (n c B : Nat) (hc : n ≤ c ∧ c ≤ maxLen) (hr : Rd w B A n (bv (Sb.cmb x))) (hB : Below W.heap.size W w) => decode10 (W := W) (by omega) hc0.1 hc.1 hc.2 hr hB)
    rw [hD] at C4
    clear hM hp hD hes hs4 hc0 hcl hx1
    generalize Sb.cmb x = mb at C2 C4
    generalize Sb.c1 x = s1 at C1 C2
    generalize Sb.c2 x = s2 at C2 C3
    go_upto_region 5 with (first
      | (go_at_call 14; refine (read_in (W := w2) hxl' HXL.out.2 (Rd.own_ HO2.out) (Below.refl _ _)).mono ?_; rintro en w3 ⟨b, rfl, hr3, hwb, hwb', hB3, hb3⟩
         have HK3 := Lib.hid (HK2.out.below hb3)
         have HB3 := Lib.hid (HB2.out.trans (hb3.mono HB2.out.size))
         have HR3 := Lib.hid hr3
         have hgb : g2 < b := Nat.lt_of_lt_of_le HL2.out hwb
         clear hr3 hwb hwb' hB3 hb3)
      | fail)
    clear HO2 HK2 HB2 HL2 hxl'
    have HGB := Lib.hid hgb
    clear hgb
    go_upto_region 6 with (first
      | (go_at_call 15; refine (C1.out _ _ HR3.out).mono ?_; rintro en w4 ⟨rfl, hr4, hb4⟩
         have HK4 := Lib.hid (HK3.out.grown hb4 (by intro e; injection e with e; have := HGB.out; omega))
         have HB4 := Lib.hid (below_only HB3.out hb4 (by have := HGB.out; have := HG2.out; omega))
         have HR4 := Lib.hid hr4
         clear hr4 hb4)
      | fail)
    clear HK3 HB3 HR3 C1
    go_upto_region 7 with (first
      | (go_at_call 17; refine (C2.out _ _ HR4.out).mono ?_; rintro en w5 ⟨A5, n5, c5, rfl, ho5, hr5, hb5⟩
         have HK5 := Lib.hid (HK4.out.grown hb5 (by intro e; injection e with e; have := HGB.out; omega))
         have HB5 := Lib.hid (below_only HB4.out hb5 (by have := HGB.out; have := HG2.out; omega))
         have HR5 := Lib.hid hr5
         have HO5 := Lib.hid ho5
         clear hr5 hb5 ho5)
      | (go_at_call 16; refine (C4.out w5 w5 _ _ _ _ (own_cap HO5.out) (Rd.own_ HO5.out) (Below.refl _ _)).mono ?_; rintro en w6 ⟨aM, rfl, hom, hB6, hb6⟩
         unfold machV machC
         have HK6 := Lib.hid (HK5.out.below hb6)
         have HB6 := Lib.hid (HB5.out.trans (hb6.mono HB5.out.size))
         have HR6 := Lib.hid (HR5.out.below hb6)
         have HM6 := Lib.hid hom
         have HL6 : Hid (b < w5.heap.size ∧ w5.heap.size ≤ w6.heap.size) := Lib.hid ⟨HR5.out.lt, hb6.size⟩
         clear hom hB6 hb6)
      | (refine wpList_store_row rfl 35 (.tmp 8) (.tmp 28) rfl w6.heap.size (machC aM (D.getD Mc.zero)) rfl rfl 35 #[.slice none 0 0, .slice none 0 0, .slice none 0 0, .slice none 0 0, .slice none 0 0] (Blk.new w6 35 #[.slice none 0 0, .slice none 0 0, .slice none 0 0, .slice none 0 0, .slice none 0 0]) (by kernel_rfl) rfl (by kernel_rfl) ?_)
      | fail)
    obtain ⟨g8, w7, hg8, hw7, hb7, hk8⟩ := boxed w6 #[.slice none 0 0, .slice none 0 0, .slice none 0 0, .slice none 0 0, .slice none 0 0] (machC aM (D.getD Mc.zero)) 35
    rw [hg8, hw7]
    have HK7 := Lib.hid (HK6.out.below hb7)
    have HB7 := Lib.hid (HB6.out.trans (hb7.mono HB6.out.size))
    have HR7 := Lib.hid (HR6.out.below hb7)
    have HM7 := Lib.hid (HM6.out.below hb7)
    have HK8 := Lib.hid hk8
    have HL7 : Hid (b < w5.heap.size ∧ w5.heap.size ≤ g8 ∧ b < w7.heap.size ∧ g2 < b) := Lib.hid ⟨HL6.out.1, by have := HL6.out.2; omega, by have := HL6.out; have := hb7.size; omega, HGB.out⟩
    clear hg8 hw7 hb7 hk8 HK6 HB6 HR6 HM6 HL6 HK5 HB5 HR5 HO5 HK4 HB4 HR4 C2 C4 HGB
    go_upto_region 8 with (first
      | (go_at_call 18; refine (C3.out _ _ HR7.out).mono ?_; rintro en w8 ⟨Ar, cr, rfl, hor, hr8, hb8⟩
         have HK9 := Lib.hid (HK7.out.grown hb8 (by intro e; injection e with e; have := HL7.out.2.2.2; omega))
         have HB8 := Lib.hid (below_only HB7.out hb8 (by have := HL7.out.2.2.2; have := HG2.out; omega))
         have HR8 := Lib.hid hr8
         have HM8 := Lib.hid (HM7.out.old hb8 (Old.some HL7.out.1))
         have HK10 := Lib.hid (HK8.out.grown hb8 (by intro e; injection e with e; have := HL7.out; omega))
         have HE8 := Lib.hid hor
         clear hor hr8 hb8)
      | fail)
    clear HK7 HB7 HR7 HM7 HK8 C3
    have CE := Lib.hid (fun (h : RdrAt w8 b s4) => end_any w8 b s4 h)
    obtain ⟨fin, hfin⟩ : ∃ f, Pk.endOf s4 = f := ⟨_, rfl⟩
    rw [hfin] at CE HR
    clear hfin
    cases hD : D.isSome with
    | false =>
      rw [hD] at HR
      go_wp2_with (first
        | (refine wpList_store_row rfl 37 (.tmp 2) (.tmp 42) rfl g2 #[.int .i64 0, .slice none 0 0, .slice none 0 0, .slice none 0 0, .slice none 0 0, .slice none 0 0, .slice none 0 0] rfl rfl 37 #[.int .i64 0, .slice none 0 0, .slice none 0 0, .slice none 0 0, .slice none 0 0, .slice none 0 0, .slice none 0 0] HK9.out (by kernel_rfl) rfl (by kernel_rfl) ?_)
        | fail)
      refine bodyPost_ret (results_cell_tmp rfl _ _ _ _ _ _ rfl (Blk.row HK9.out #[.int .i64 0, .slice none 0 0, .slice none 0 0, .slice none 0 0, .slice none 0 0, .slice none 0 0, .slice none 0 0]) Try.underlying37 rfl (by kernel_rfl)) rfl ?_
      have hb : Below w.heap.size w (w8.setRow g2 #[.int .i64 0, .slice none 0 0, .slice none 0 0, .slice none 0 0, .slice none 0 0, .slice none 0 0, .slice none 0 0]) := below_setRow HB8.out (by have := HG2.out; omega) _
      have hr := HR.out
      rw [if_neg (by simp)] at hr
      subst hr
      exact ⟨SA.zero, rfl, OwnS.zero _ _, hb, hb⟩
    | true =>
      rw [hD] at HR
      cases fin with
      | false =>
        go_wp2_with (first
          | (go_at_call 19; refine (CE.out HR8.out).mono ?_; rintro en w9 ⟨rfl, rfl⟩)
          | (refine wpList_store_row rfl 37 (.tmp 2) (.tmp 42) rfl g2 #[.int .i64 0, .slice none 0 0, .slice none 0 0, .slice none 0 0, .slice none 0 0, .slice none 0 0, .slice none 0 0] rfl rfl 37 #[.int .i64 0, .slice none 0 0, .slice none 0 0, .slice none 0 0, .slice none 0 0, .slice none 0 0, .slice none 0 0] HK9.out (by kernel_rfl) rfl (by kernel_rfl) ?_)
          | fail)
        refine bodyPost_ret (results_cell_tmp rfl _ _ _ _ _ _ rfl (Blk.row HK9.out #[.int .i64 0, .slice none 0 0, .slice none 0 0, .slice none 0 0, .slice none 0 0, .slice none 0 0, .slice none 0 0]) Try.underlying37 rfl (by kernel_rfl)) rfl ?_
        have hb : Below w.heap.size w (w8.setRow g2 #[.int .i64 0, .slice none 0 0, .slice none 0 0, .slice none 0 0, .slice none 0 0, .slice none 0 0, .slice none 0 0]) := below_setRow HB8.out (by have := HG2.out; omega) _
        have hr := HR.out
        rw [if_neg (by simp)] at hr
        subst hr
        exact ⟨SA.zero, rfl, OwnS.zero _ _, hb, hb⟩
      | true =>
        obtain ⟨m, hm⟩ : ∃ m, D.getD Mc.zero = m := ⟨_, rfl⟩
        rw [hm] at HM8 HK10 HR
        clear hm hD
        unfold machC at HK10
        go_wp2_with (first
          | (go_at_call 19; refine (CE.out HR8.out).mono ?_; rintro en w9 ⟨rfl, rfl⟩)
          | (refine wpList_load_row rfl 35 (.tmp 8) rfl g8 rfl 35 #[.slice aM.o.A0 m.o.reg.length aM.o.c0, .slice aM.o.A1 m.o.q.length aM.o.c1, .slice aM.o.A2 m.o.lk.length aM.o.c2, .slice aM.o.A3 m.o.mp.length aM.o.c3, .slice aM.At m.t.length aM.ct] (0, 0) _ HK10.out Try.underlying35 rfl (by kernel_rfl) ?_)
          | (refine wpList_store_row rfl 37 (.tmp 2) (.tmp 46) rfl g2 #[.int .i64 (p : Int), .slice aM.o.A0 m.o.reg.length aM.o.c0, .slice aM.o.A1 m.o.q.length aM.o.c1, .slice aM.o.A2 m.o.lk.length aM.o.c2, .slice aM.o.A3 m.o.mp.length aM.o.c3, .slice aM.At m.t.length aM.ct, .slice Ar es.length cr] rfl rfl 37 #[.int .i64 0, .slice none 0 0, .slice none 0 0, .slice none 0 0, .slice none 0 0, .slice none 0 0, .slice none 0 0] HK9.out (by kernel_rfl) rfl (by kernel_rfl) ?_)
          | fail)
        refine bodyPost_ret (results_cell_tmp rfl _ _ _ _ _ _ rfl (Blk.row HK9.out #[.int .i64 (p : Int), .slice aM.o.A0 m.o.reg.length aM.o.c0, .slice aM.o.A1 m.o.q.length aM.o.c1, .slice aM.o.A2 m.o.lk.length aM.o.c2, .slice aM.o.A3 m.o.mp.length aM.o.c3, .slice aM.At m.t.length aM.ct, .slice Ar es.length cr]) Try.underlying37 rfl (by kernel_rfl)) rfl ?_
        have hb : Below w.heap.size w (w8.setRow g2 #[.int .i64 (p : Int), .slice aM.o.A0 m.o.reg.length aM.o.c0, .slice aM.o.A1 m.o.q.length aM.o.c1, .slice aM.o.A2 m.o.lk.length aM.o.c2, .slice aM.o.A3 m.o.mp.length aM.o.c3, .slice aM.At m.t.length aM.ct, .slice Ar es.length cr]) := below_setRow HB8.out (by have := HG2.out; omega) _
        have hr := HR.out
        rw [if_pos (by simp)] at hr
        subst hr
        have n1 := HL7.out
        have n2 := HG2.out
        have n3 := HK10.out.lt
        refine ⟨⟨aM, Ar, cr⟩, rfl, ⟨?_, ?_⟩, hb, hb⟩
        · exact (HM8.out.old (only_row w8 g2 _) (Old.some (by omega))).of (by omega)
        · exact (HE8.out.old (only_row w8 g2 _) (Old.some (by omega))).of (by omega)
theorem decode15 : DecodeC15 := fun {W w A n c B l r} he hl hby hc h hB => by
  subst he
  exact (decode15_raw hl hby hc h).mono fun e w' hh => GotS.of hB hh
end Go.Proofs.Ytmekamgohonffaa

