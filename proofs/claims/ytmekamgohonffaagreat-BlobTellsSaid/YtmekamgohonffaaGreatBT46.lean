/- BlobRefEnc BlobPartsMath -/
import Derived.Test.YtmekamgohonffaaGreatBT00
import Derived.Test.YtmekamgohonffaaGreatBT38
import Derived.Test.YtmekamgohonffaaGreatBT41
import Derived.Test.YtmekamgohonffaaGreatBT45
namespace Go.Proofs.YtmekamgohonffaaGreat
open Go.RowKit
set_option linter.unusedVariables false
theorem En.enc_400 {e : En} (h : e.c.Fits) : e.enc.length <= 400 := by
 have k1 := (Pk.enc_length (Pk.held e.s)).2
 have k2 := (Pk.enc_length (Pk.held e.q)).2
 have k3 := (Pk.enc_length (Pk.held e.c.kind)).2
 have k4 := (Pk.enc_length (Pk.held e.c.who)).2
 have b1 := encB_length e.c.key
 have b2 := encB_length e.c.val
 have b3 := encB_length e.c.old
 have := h.key.1; have := h.val.1; have := h.old.1
 unfold En.enc
 simp only [List.length_append]
 omega
theorem encE_400 : ∀ (es : List En), (∀ e ∈ es, e.c.Fits) -> (encE es).length <= 400 * es.length
 | [], _ => by simp [encE]
 | e :: es, h => by
   have h1 := En.enc_400 (h e (by simp))
   have h2 := encE_400 es (fun x hx => h x (List.mem_cons_of_mem _ hx))
   unfold encE at h2 |-
   rw [List.flatMap_cons, List.length_append, List.length_cons]; omega
theorem En.enc_lt0 {e : En} (h : e.c.Fits) : ∀ x ∈ e.enc, x < 256 := by
 intro x hx
 unfold En.enc at hx
 have hb : ∀ {l : List Nat}, l.length <= 100 -> (∀ y ∈ l, y < 256) -> ∀ x ∈ Pk.encB l, x < 256 := fun h1 h2 => Pk.encB_lt h2 (by unfold Pk.top; omega)
 have hn : ∀ z : Int, ∀ x ∈ Pk.enc (Pk.held z), x < 256 := fun z => Pk.enc_lt (Pk.held_le _)
 simp only [List.mem_append] at hx
 rcases hx with hx | hx | hx | hx | hx | hx | hx
 · exact hn _ x hx
 · exact hn _ x hx
 · exact hn _ x hx
 · exact hn _ x hx
 · exact hb h.key.1 h.key.2 x hx
 · exact hb h.val.1 h.val.2 x hx
 · exact hb h.old.1 h.old.2 x hx
theorem Sb.Fine.body_facts {s : Sb} (h : s.Fine) : s.body.length <= 500000 /\ ∀ x ∈ s.body, x < 256 := by
 have h1 := (Pk.enc_length (Pk.held s.pos)).2
 have h2 := encB_length s.m.enc
 have h3 := h.m.enc_length
 have h4 := encN_length s.rest.length
 have h5 := encE_400 s.rest h.c
 have h6 := h.n
 refine ⟨by unfold Sb.body; simp only [List.length_append]; omega, fun x hx => ?_⟩
 unfold Sb.body at hx
 simp only [List.mem_append] at hx
 rcases hx with hx | hx | hx | hx
 · exact Pk.enc_lt (Pk.held_le _) x hx
 · exact Pk.encB_lt h.m.enc_lt (by unfold Pk.top; omega) x hx
 · exact encN_lt _ x hx
 · obtain ⟨e, he, hxe⟩ := List.mem_flatMap.1 hx
   exact En.enc_lt0 (h.c e he) x hxe
theorem encE_take {es : List En} {k : Nat} {e : En} (h : es[k]? = some e) : encE (es.take (k + 1)) = encE (es.take k) ++ e.enc := by
 rw [List.take_add_one, h, <- encE_snoc]; rfl
set_option maxHeartbeats 4000000 in
set_option maxRecDepth 100000 in
theorem refEncode15_raw {w : World} {a : SA} {s : Sb} {B : Nat} (hf : s.Fine) (h : RdS w B a s) : Calls Tryz.prog 6 #[stateV a s] w (GotIn w w s.enc) := by
 obtain ⟨aM, Ar, cr⟩ := a
 obtain ⟨p, m, es⟩ := s
 have hbf := hf.body_facts
 have HF := hD hf
 have hmok := hf.m
 have hn1000 := hf.n
 simp only at hn1000 hmok
 obtain ⟨l0, e0⟩ : ∃ x, [] ++ Pk.enc (Pk.held p) = x := ⟨_, rfl⟩
 obtain ⟨lm, em⟩ : ∃ x, m.enc = x := ⟨_, rfl⟩
 obtain ⟨l1, e1⟩ : ∃ x, l0 ++ Pk.encB lm = x := ⟨_, rfl⟩
 obtain ⟨l2, e2⟩ : ∃ x, l1 ++ Pk.enc (Pk.held (es.length : Int)) = x := ⟨_, rfl⟩
 have hbody : Hid (Sb.body ⟨p, m, es⟩ = l2 ++ encE es) := hD (by unfold Sb.body encN; rw [<- e2, <- e1, <- e0, <- em]; simp)
 have hl1 : l1.length <= 1300 := by
  have h1 := (Pk.enc_length (Pk.held p)).2
  have h2 := encB_length lm
  have h3 := hmok.enc_length
  rw [em] at h3
  rw [<- e1, <- e0]; simp only [List.nil_append, List.length_append]; omega
 have hl2 : l2.length <= 1400 := by
  have h1 := (Pk.enc_length (Pk.held (es.length : Int))).2
  rw [<- e2]; simp only [List.length_append]; omega
 have hlm : lm.length <= 1200 := by rw [<- em]; exact hmok.enc_length
 have hl0 : l0.length <= 9 := by
  have h1 := (Pk.enc_length (Pk.held p)).2
  rw [<- e0]; simpa using h1
 have E0 := hD e0
 have EM := hD em
 have E1 := hD e1
 have E2 := hD e2
 have HBF := hD hbf
 have HR := hD h.fit
 have HMOK := hD hmok
 clear e0 em e1 e2 hbf hf h hmok
 unfold stateV stateC
 simp only
 go_enter Tryz.func6, Tryz.ntmps6
 go_upto_region 1 with fail
 obtain ⟨g, wa, hg, hwa, hk, hba⟩ : ∃ g wa, w.heap.size = g /\ w.alloc (.cells #[.int .i64 p, .slice aM.o.A0 m.o.reg.length aM.o.c0, .slice aM.o.A1 m.o.q.length aM.o.c1, .slice aM.o.A2 m.o.lk.length aM.o.c2, .slice aM.o.A3 m.o.mp.length aM.o.c3, .slice aM.At m.t.length aM.ct, .slice Ar es.length cr] 34) = wa /\ Blk wa g 34 #[.int .i64 p, .slice aM.o.A0 m.o.reg.length aM.o.c0, .slice aM.o.A1 m.o.q.length aM.o.c1, .slice aM.o.A2 m.o.lk.length aM.o.c2, .slice aM.o.A3 m.o.mp.length aM.o.c3, .slice aM.At m.t.length aM.ct, .slice Ar es.length cr] /\ Below w.heap.size w wa := ⟨_, _, rfl, rfl, Blk.new _ _ _, (Below.refl _ _).alloc lR _⟩
 rw [hg, hwa]
 have HK := hD hk
 have HBa := hD hba
 have HRa := hD (HR.out.below hba).fit
 clear hg hwa hk hba HR
 go_cut [3] from 5 to 11 (fun s3 wx => ∃ A c, s3 = .slice A l1.length c /\ Hid (OwnB w wx A l1.length c l1) /\ Hid (Below wa.heap.size wa wx))
 case first =>
  have hS0 : Below wa.heap.size wa wa.drew := (Below.refl _ _).drew
  refine wp_region_held_drew (S := fun w' => Below wa.heap.size wa w') (by kernel_rfl) hS0 (fun _ => ?_)
  have hS := hD hS0
  clear hS0
  generalize wa.drew = wd at hS |-
  have hgl := HK.out.lt
  have x0 : wa.cell? ⟨g, 0, none⟩ = some (.int .i64 p) := HK.out.cell 0
  have xm : wa.rangeAt g 1 [.slice aM.o.A0 m.o.reg.length aM.o.c0, .slice aM.o.A1 m.o.q.length aM.o.c1, .slice aM.o.A2 m.o.lk.length aM.o.c2, .slice aM.o.A3 m.o.mp.length aM.o.c3, .slice aM.At m.t.length aM.ct] := by
   have := World.rangeAt_of_block HK.out 1 5
   simpa using this
  refine tkL (i := 0) (v := .pointer (some ⟨g, 0, none⟩)) rfl (fun w _ => by go_simp) hS.out ?_
  refine tkL (i := 1) (v := .int .i64 p) rfl (fun w hw => by have hq := (hw.cell (p := ⟨g, 0, none⟩) hgl).trans x0; go_simp) hS.out ?_
  refine tkL (i := 3) (v := .pointer (some ⟨g, 1, none⟩)) rfl (fun w _ => by go_simp) hS.out ?_
  refine wpAnyH_take (i := 4) (v := machV aM m) rfl (by kernel_rfl) (by kernel_rfl) (by kernel_rfl) (fun _ _ _ h => h) (yieldsIf_load_mid (by kernel_rfl) 31 (.tmp 8) rfl g 1 rfl [.slice aM.o.A0 m.o.reg.length aM.o.c0, .slice aM.o.A1 m.o.q.length aM.o.c1, .slice aM.o.A2 m.o.lk.length aM.o.c2, .slice aM.o.A3 m.o.mp.length aM.o.c3, .slice aM.At m.t.length aM.ct] _ (fun w hw => rangeB xm hw hgl) Tryz.underlying31 rfl (by kernel_rfl)) hS.out ?_
  refine rdH (rs := [2]) ?_
  refine AllReadyH.cons rfl (fun K hK => ?_) AllReadyH.nil
  · go_simp
    refine (refput_in (W := w) E0.out (by unfold Lim; simp) (Rd.none_ _ 0 _) (HBa.out.trans (hS.out.mono HBa.out.size))).mono ?_
    rintro en w2 ⟨A2, c2, rfl, ho2, hB2, hb2⟩
    have hS := hD (hS.out.trans (hb2.mono hS.out.size))
    have HO2 := hD ho2
    have HB2 := hD hB2
    clear ho2 hB2 hb2
    go_simp
    refine hK.out _ _ hS.out (fun _ => ?_)
    clear hK K
    refine rdH (rs := [5]) ?_
    refine AllReadyH.cons rfl (fun K hK => ?_) AllReadyH.nil
    go_simp
    refine (refEncode_any (W := w) HMOK.out (HRa.out.m.below hS.out) HB2.out).mono ?_
    rw [EM.out]
    rintro en w3 ⟨A3, c3, rfl, ho3, hB3, hb3⟩
    have hS := hD (hS.out.trans (hb3.mono hS.out.size))
    have HO2 := hD (own_below HO2.out hb3)
    have HO3 := hD ho3
    have HB3 := hD hB3
    clear ho3 hB3 hb3
    go_simp
    refine hK.out _ _ hS.out (fun _ => ?_)
    clear hK K
    refine rdH (rs := [6]) ?_
    refine AllReadyH.cons rfl (fun K hK => ?_) AllReadyH.nil
    go_simp
    refine (refputb_in (W := w) E1.out (Rd.own_ HO2.out) (Rd.own_ HO3.out) (by unfold Lim; omega) HB3.out).mono ?_
    rintro en w4 ⟨A4, c4, rfl, ho4, hB4, hb4⟩
    have hS := hD (hS.out.trans (hb4.mono hS.out.size))
    have HO4 := hD ho4
    clear ho4 hB4 hb4
    go_simp
    refine hK.out _ _ hS.out (fun _ => ?_)
    clear hK K
    refine tkL (i := 7) (v := .slice A4 l1.length c4) rfl (fun w _ => by go_simp) hS.out ?_
    refine wpAnyH_done (by kernel_rfl) ?_ _
    go_wp2_with fail
    go_meet
    exact ⟨A4, c4, rfl, HO4, hS⟩
 case rest =>
  obtain ⟨A4, c4, rfl, HO4, HB4⟩ := hcut
  rename World => wx
  have x6 := (HK.out.below HB4.out).cell 6
  have x6' : wx.cell? ⟨g, 6, none⟩ = some (.slice Ar es.length cr) := x6
  have HRx := hD (HRa.out.below HB4.out).fit
  have HKx := hD (HK.out.below HB4.out)
  have HBx := hD (HBa.out.trans (HB4.out.mono HBa.out.size))
  have h63 : es.length <= 9223372036854775807 := by omega
  clear x6 HRa HBa HB4 HK
  go_upto_region 4 with (first
   | (go_at_call 17; refine (refput_in (W := w) E2.out (by unfold Lim; omega) (Rd.own_ HO4.out) HBx.out).mono ?_
      rintro en w5 ⟨A5, c5, rfl, ho5, hB5, hb5⟩
      have HO5 := hD ho5
      have HB5 := hD hB5
      have HR5 := hD (HRx.out.below hb5).fit
      have HK5 := hD (HKx.out.below hb5)
      clear ho5 hB5 hb5)
   | fail)
  go_loopw [3, 4] (fun s3 s4 wr => ∃ (k : Nat) (A : Option Addr) (c : Nat) (l : List Nat), k <= es.length /\ s4 = .int .i64 (k : Int) /\ s3 = .slice A l.length c /\ Hid (l = l2 ++ encE (es.take k)) /\ Hid (OwnB w wr A l.length c l) /\ Hid (RdE wr wr.heap.size Ar es.length es) /\ Hid (Blk wr g 34 #[.int .i64 p, .slice aM.o.A0 m.o.reg.length aM.o.c0, .slice aM.o.A1 m.o.q.length aM.o.c1, .slice aM.o.A2 m.o.lk.length aM.o.c2, .slice aM.o.A3 m.o.mp.length aM.o.c3, .slice aM.At m.t.length aM.ct, .slice Ar es.length cr]) /\ Hid (Below w.heap.size w wr)) (fun _ s _ => es.length - (intOf s).toNat)
  case atStart => exact ⟨0, A5, c5, l2, by omega, rfl, rfl, hD (by simp [encE]), HO5, hD HR5.out.r, HK5, HB5⟩
  case round =>
   clear HO5 HR5 HK5 HB5 HO4 HRx HKx HBx x6'
   obtain ⟨k, A, c, l, hk, rfl, rfl, HL, HO, HR, HK, HB⟩ := hrel
   have y6 : wr.cell? ⟨g, 6, none⟩ = some (.slice Ar es.length cr) := HK.out.cell 6
   by_cases hlt : k < es.length
   · obtain ⟨b, o, e, ca, rfl, hb, he, hr, hc⟩ := HR.out.range hlt
     have HRG := hD hr
     have HC := hD hc
     have HE := hD he
     have hfe := HF.out.c e (List.mem_of_getElem? he)
     have HFE := hD hfe
     have HLL : Hid (l.length <= 1000000) := hD (by
      have h1 := encE_400 (es.take k) (fun x hx => HF.out.c x (List.mem_of_mem_take hx))
      rw [HL.out, List.length_append]
      rw [List.length_take] at h1
      omega)
     clear hr hc he hfe hb
     go_wp2_with (first
      | (refine wpList_load_mid rfl 43 (.tmp 28) rfl b (o + k * 7) rfl (entL ca e) _ HRG.out Tryz.underlying43 rfl (by kernel_rfl) ?_)
      | (go_at_call 19; refine (refPutEntry_any (W := w) HLL.out HFE.out (Rd.own_ HO.out) HC.out HB.out).mono ?_
         rintro en w6 ⟨A6, c6, rfl, ho6, hB6, hb6⟩
         have HO6 := hD ho6
         have HB6 := hD hB6
         have HR6 := hD (HR.out.below hb6).fit
         have HK6 := hD (HK.out.below hb6)
         clear ho6 hB6 hb6)
      | fail)
     go_roundw
     case rel => exact ⟨k + 1, A6, c6, l ++ e.enc, by omega, by go_num, (by first | rfl | rw [List.length_append]), hD (by rw [encE_take HE.out, HL.out, List.append_assoc]), HO6, HR6, HK6, HB6⟩
     case measure => simp [intOf]; omega
   · obtain rfl : k = es.length := by omega
     have hbody2 : l = Sb.body ⟨p, m, es⟩ := by rw [hbody.out, HL.out, List.take_length]
     have HBD := hD hbody2
     have HLB : Hid (l.length <= 500000 /\ ∀ x ∈ l, x < 256) := hD (by rw [hbody2]; exact HBF.out)
     clear hbody2
     go_wp2_with (first
      | (go_at_call 20; refine (refFour (W := w) HLB.out.2 (by have := HLB.out.1; omega) (Rd.own_ HO.out) HB.out).mono ?_
         rintro en w6 ⟨A6, c6, rfl, ho6, hB6, hb6⟩)
      | fail)
     go_ret
     have he : Sb.enc ⟨p, m, es⟩ = Fr.four (Crc.sum l) ++ l := by rw [HBD.out]; rfl
     rw [he]
     refine ⟨A6, c6, ?_, ho6, hB6, hB6⟩
     first | rfl | (simp [List.length_append]; done) | (rw [List.length_append])
theorem refEncode15 {W w : World} {a : SA} {s : Sb} {B : Nat} {l : List Nat} (he : s.enc = l) (hf : s.Fine) (h : RdS w B a s) (hB : Below W.heap.size W w) : Calls Tryz.prog 6 #[stateV a s] w (GotIn W w l) := by
 subst he
 exact (refEncode15_raw hf h).mono fun e w' ⟨A, c, h1, h2, h3, h4⟩ => ⟨A, c, h1, own_of hB.size h2, hB.trans (h3.mono hB.size), h4⟩
theorem Sb.part_step {b : List Nat} {j : Nat} (h : j < b.length) : Sb.part b (j : Int) = some ((b.drop j).take 64) /\ b.take j ++ (b.drop j).take 64 = b.take (j + 64) /\ ((b.drop j).take 64).length = min 64 (b.length - j) := by
 refine ⟨?_, ?_, by rw [List.length_take, List.length_drop]⟩
 · unfold Sb.part
   rw [if_neg (by omega), Int.toNat_natCast]
 · rw [List.take_add]
theorem Sb.part_stop {b : List Nat} {j : Nat} (h : b.length <= j) : Sb.part b (j : Int) = none := by
 unfold Sb.part
 rw [if_pos (by omega)]
theorem Sb.dec_none {l : List Nat} (h : Fr.unf l = none) : Sb.dec l = none := by
 unfold Sb.dec Sb.good
 rw [h]; simp
theorem Sb.Fine.enc_facts {s : Sb} (h : s.Fine) : (∀ x ∈ s.enc, x < 256) /\ 4 <= s.enc.length /\ s.enc.length = s.body.length + 4 := by
 have hb := h.body_facts
 have hf := Fr.lay_len s.body
 refine ⟨?_, ?_, ?_⟩
 · intro x hx
   unfold Sb.enc Fr.lay at hx
   rcases List.mem_append.1 hx with hx | hx
   · exact Fr.four_lt _ x hx
   · exact hb.2 x hx
 · unfold Sb.enc; omega
 · unfold Sb.enc; omega
theorem Sb.Fine.body_small {s : Sb} (h : s.Fine) (hn : s.rest.length <= 31) : s.body.length <= 14000 := by
 have h1 := (Pk.enc_length (Pk.held s.pos)).2
 have h2 := encB_length s.m.enc
 have h3 := h.m.enc_length
 have h4 := encN_length s.rest.length
 have h5 := encE_400 s.rest h.c
 unfold Sb.body; simp only [List.length_append]; omega
end Go.Proofs.YtmekamgohonffaaGreat
