/- MachMk RefUnfour -/
import Derived.Test.YtmekamgohonffaaGreatBT00
import Derived.Test.YtmekamgohonffaaGreatBT31
import Derived.Test.YtmekamgohonffaaGreatBT37
import Derived.Test.YtmekamgohonffaaGreatBT41
import Derived.Deep.RegionHeld3
namespace Go.Proofs.YtmekamgohonffaaGreat
open Go.RowKit
set_option linter.unusedVariables false
set_option maxHeartbeats 4000000 in
set_option maxRecDepth 100000 in
theorem machine_any {A : Option Addr} {n c B : Nat} {zs : List Int} (hn : n <= maxLen) (w : World) (h : Rd w B A n (iv zs)) :
 Calls Tryz.prog 21 #[.slice A n c] w fun en w' => ∃ a m, en = .returned (machV a m) /\ m.Ok /\ OwnM w w' a m /\ Below w.heap.size w w' := by
 have hlen : zs.length = n := by have := h.1; rwa [iv_length] at this
 have HR := hD h.fit
 have hnn : n <= 9223372036854775807 := by unfold maxLen at hn; omega
 clear h hn
 have b0 : Below w.heap.size w ((w.alloc (.cells #[.slice none 0 0, .slice none 0 0, .slice none 0 0, .slice none 0 0, .slice none 0 0] 31)).alloc (.cells #[.slice none 0 0, .slice none 0 0, .slice none 0 0, .slice none 0 0, .slice none 0 0] 31)) := ((Below.refl _ _).alloc lR _).alloc (by simp) _
 have hk0 := Blk.new (w.alloc (.cells #[.slice none 0 0, .slice none 0 0, .slice none 0 0, .slice none 0 0, .slice none 0 0] 31)) 31 #[.slice none 0 0, .slice none 0 0, .slice none 0 0, .slice none 0 0, .slice none 0 0]
 rw [World.size_alloc] at hk0
 have HM0 : Hid (Blk ((w.alloc (.cells #[.slice none 0 0, .slice none 0 0, .slice none 0 0, .slice none 0 0, .slice none 0 0] 31)).alloc (.cells #[.slice none 0 0, .slice none 0 0, .slice none 0 0, .slice none 0 0, .slice none 0 0] 31)) (w.heap.size + 1) 31 (machC ⟨⟨none, 0, none, 0, none, 0, none, 0⟩, none, 0⟩ Mc.zero) /\ Blk ((w.alloc (.cells #[.slice none 0 0, .slice none 0 0, .slice none 0 0, .slice none 0 0, .slice none 0 0] 31)).alloc (.cells #[.slice none 0 0, .slice none 0 0, .slice none 0 0, .slice none 0 0, .slice none 0 0] 31)) w.heap.size 31 #[.slice none 0 0, .slice none 0 0, .slice none 0 0, .slice none 0 0, .slice none 0 0] /\ OwnM w ((w.alloc (.cells #[.slice none 0 0, .slice none 0 0, .slice none 0 0, .slice none 0 0, .slice none 0 0] 31)).alloc (.cells #[.slice none 0 0, .slice none 0 0, .slice none 0 0, .slice none 0 0, .slice none 0 0] 31)) ⟨⟨none, 0, none, 0, none, 0, none, 0⟩, none, 0⟩ Mc.zero /\ True /\ Below w.heap.size w ((w.alloc (.cells #[.slice none 0 0, .slice none 0 0, .slice none 0 0, .slice none 0 0, .slice none 0 0] 31)).alloc (.cells #[.slice none 0 0, .slice none 0 0, .slice none 0 0, .slice none 0 0, .slice none 0 0] 31))) := hD ⟨hk0, (Blk.new w _ _).alloc _, OwnM.zero _ _, trivial, b0⟩
 clear b0 hk0
 go_enter Tryz.func21, Tryz.ntmps21
 go_wp2_with fail
 go_loopw [4] (fun s4 wr => ∃ (i : Nat) (a : MA) (m : Mc), i <= n /\ i <= 60 /\ s4 = .int .i64 (i : Int) /\ Hid m.Ok /\ Hid (Blk wr (w.heap.size + 1) 31 (machC a m) /\ Blk wr w.heap.size 31 #[.slice none 0 0, .slice none 0 0, .slice none 0 0, .slice none 0 0, .slice none 0 0] /\ OwnM w wr a m /\ True /\ Below w.heap.size w wr)) (fun s4 _ => n - (intOf s4).toNat)
 case atStart => exact ⟨0, _, Mc.zero, Nat.zero_le _, by omega, rfl, hD Mc.Ok.zero, HM0⟩
 case round =>
  clear HM0
  obtain ⟨i, a, m, hi, hi6, rfl, HOK, HM⟩ := hrel
  by_cases hlt : i < n
  · by_cases h60 : i < 60
    · obtain ⟨z, hz⟩ : ∃ z, zs[i]? = some z := ⟨_, List.getElem?_eq_getElem (by omega)⟩
      obtain ⟨b, o, rfl, hbl⟩ := HR.out.int_at hlt
      have hcell := (HR.out.below HM.out.2.2.2.2).int_cell hlt hz
      have hcell0 := HR.out.int_cell hlt hz
      have HLT : Hid (b < w.heap.size) := hD (World.block_lt_of_cell? _ _ hcell0)
      have hii : (i : Int) < (n : Int) := by omega
      have hi0 : (0 : Int) <= (i : Int) := by omega
      have hv1 : IntKind.i64.wrap ((i : Int) + 1) = (i : Int) + 1 := IntWalk.i64_in _ (by omega)
      clear hz hcell0
      go_upto_region 5 with fail
      have hbd : Below wr.heap.size wr wr.drew := (Below.refl _ _).drew
      have HS := hD ((hbd.cell (p := ⟨b, o + i, none⟩) (Nat.lt_of_lt_of_le HLT.out HM.out.2.2.2.2.size)).trans hcell)
      have HM1 : Hid (Blk wr.drew (w.heap.size + 1) 31 (machC a m) /\ Blk wr.drew w.heap.size 31 #[.slice none 0 0, .slice none 0 0, .slice none 0 0, .slice none 0 0, .slice none 0 0] /\ OwnM w wr.drew a m /\ True /\ Below w.heap.size w wr.drew) := hD ⟨HM.out.1.below hbd, HM.out.2.1.below hbd, HM.out.2.2.1.below hbd, trivial, HM.out.2.2.2.2.trans (hbd.mono HM.out.2.2.2.2.size)⟩
      refine wp_region_held_drew (S := fun w' => w'.cell? ⟨b, o + i, none⟩ = some (.int .i64 z)) (by kernel_rfl) HS.out (fun _ => ?_)
      clear hbd HM hcell
      generalize wr.drew = w1 at HS HM1 |-
      refine tkL (i := 1) (v := .slice (some ⟨b, o, none⟩) n c) rfl (fun w _ => by go_simp) HS.out ?_
      refine tkL (i := 2) (v := .int .i64 (i : Int)) rfl (fun w _ => by go_simp) HS.out ?_
      refine tkL (i := 5) (v := .int .i64 (i : Int)) rfl (fun w _ => by go_simp) HS.out ?_
      refine tkL (i := 3) (v := .pointer (some ⟨b, o + i, none⟩)) rfl (fun w _ => by go_simp) HS.out ?_
      refine tkL (i := 4) (v := .int .i64 z) rfl (fun w h => by have q := h; go_simp) HS.out ?_
      refine rdH (rs := [0, 6]) ?_
      refine AllReadyH.cons rfl (fun K hK => ?_) (AllReadyH.cons rfl (fun K hK => ?_) AllReadyH.nil)
      · obtain ⟨x0, x1, x2, x3, x4⟩ := five (t := 31) HM1.out.1
        go_simp
        refine hK.out _ _ HS.out (fun _ => ?_)
        clear hK K x0 x1 x2 x3 x4
        refine rdH (rs := [6]) ?_
        refine AllReadyH.cons rfl (fun K hK => ?_) AllReadyH.nil
        go_simp
        refine (entry_any z i (by omega) _).mono ?_
        rintro en w2 ⟨ca, e, rfl, hf, hr, hb⟩
        unfold entV entC
        have HS := hD ((hb.cell (p := ⟨b, o + i, none⟩) (Nat.lt_of_lt_of_le HLT.out HM1.out.2.2.2.2.size)).trans HS.out)
        have HM2 : Hid (Blk w2 (w.heap.size + 1) 31 (machC a m) /\ Blk w2 w.heap.size 31 #[.slice none 0 0, .slice none 0 0, .slice none 0 0, .slice none 0 0, .slice none 0 0] /\ OwnM w w2 a m /\ True /\ Below w.heap.size w w2) := hD ⟨HM1.out.1.below hb, HM1.out.2.1.below hb, HM1.out.2.2.1.below hb, trivial, HM1.out.2.2.2.2.trans (hb.mono HM1.out.2.2.2.2.size)⟩
        have HF := hD hf
        have HRC := hD hr
        clear hf hr hb
        go_simp
        refine hK.out _ _ HS.out (fun _ => ?_)
        clear hK K
        obtain ⟨r, hr⟩ : ∃ r, m.step e = r := ⟨_, rfl⟩
        have HOKN : Hid r.m.Ok := hD (by rw [<- hr]; exact HOK.out.step HF.out)
        have C1 := hD (refStep_any (W := w) (a := a) (ca := ca) HOK.out HF.out HM2.out.2.2.1.rd HRC.out HM2.out.2.2.2.2)
        rw [hr] at C1
        clear hr
        refine rdH (rs := [7]) ?_
        refine AllReadyH.cons rfl (fun K hK => ?_) AllReadyH.nil
        go_simp
        refine C1.out.mono ?_
        rintro en w3 ⟨a2, A2, c2, rfl, ho, hv, hB, hb⟩
        unfold machV machC resV
        have HS := hD ((hb.cell (p := ⟨b, o + i, none⟩) (Nat.lt_of_lt_of_le HLT.out HM2.out.2.2.2.2.size)).trans HS.out)
        have HM3 := hD (And.intro (HM2.out.1.below hb) (HM2.out.2.1.below hb))
        have HO3 := hD ho
        have HB3 := hD hB
        clear ho hv hB hb C1
        go_simp
        refine hK.out _ _ HS.out (fun _ => ?_)
        clear hK K
        refine tkL (i := 8) (v := .tuple #[.agg #[.slice a2.o.A0 r.m.o.reg.length a2.o.c0, .slice a2.o.A1 r.m.o.q.length a2.o.c1, .slice a2.o.A2 r.m.o.lk.length a2.o.c2, .slice a2.o.A3 r.m.o.mp.length a2.o.c3, .slice a2.At r.m.t.length a2.ct], .agg #[.int .i64 r.e, .slice A2 r.v.length c2, .int .i64 r.n]]) rfl (fun w _ => by go_simp) HS.out ?_
        refine tkL (i := 9) (v := .agg #[.slice a2.o.A0 r.m.o.reg.length a2.o.c0, .slice a2.o.A1 r.m.o.q.length a2.o.c1, .slice a2.o.A2 r.m.o.lk.length a2.o.c2, .slice a2.o.A3 r.m.o.mp.length a2.o.c3, .slice a2.At r.m.t.length a2.ct]) rfl (fun w _ => by go_simp) HS.out ?_
        refine tkL (i := 10) (v := .agg #[.int .i64 r.e, .slice A2 r.v.length c2, .int .i64 r.n]) rfl (fun w _ => by go_simp) HS.out ?_
        have hm1 := HM3.out.1
        unfold machC at hm1
        obtain ⟨k1, k2, k3, k4, k5⟩ := put5 hm1 (.slice a2.o.A0 r.m.o.reg.length a2.o.c0) (.slice a2.o.A1 r.m.o.q.length a2.o.c1) (.slice a2.o.A2 r.m.o.lk.length a2.o.c2) (.slice a2.o.A3 r.m.o.mp.length a2.o.c3) (.slice a2.At r.m.t.length a2.ct)
        obtain ⟨x0, x1, x2, x3, x4⟩ := five hm1
        obtain ⟨f0, f1, f2, f3, f4⟩ := five_frozen hm1
        have HEND := hD (And.intro k1 (And.intro (k5 w.heap.size _ _ (by omega) HM3.out.2) (And.intro (k3 w a2 r.m HO3.out (by decide) (by decide) (by decide) (by decide) (by decide)) (k2 w (by omega) HB3.out))))
        have hbs : Below w.heap.size w3 (((((w3.setCell ⟨w.heap.size + 1, 0, none⟩ (.slice a2.o.A0 r.m.o.reg.length a2.o.c0)).setCell ⟨w.heap.size + 1, 1, none⟩ (.slice a2.o.A1 r.m.o.q.length a2.o.c1)).setCell ⟨w.heap.size + 1, 2, none⟩ (.slice a2.o.A2 r.m.o.lk.length a2.o.c2)).setCell ⟨w.heap.size + 1, 3, none⟩ (.slice a2.o.A3 r.m.o.mp.length a2.o.c3)).setCell ⟨w.heap.size + 1, 4, none⟩ (.slice a2.At r.m.t.length a2.ct)) := ((((((Below.refl _ _).setCell (p := ⟨w.heap.size + 1, 0, none⟩) (by show w.heap.size <= w.heap.size + 1; omega) _).setCell (p := ⟨w.heap.size + 1, 1, none⟩) (by show w.heap.size <= w.heap.size + 1; omega) _).setCell (p := ⟨w.heap.size + 1, 2, none⟩) (by show w.heap.size <= w.heap.size + 1; omega) _).setCell (p := ⟨w.heap.size + 1, 3, none⟩) (by show w.heap.size <= w.heap.size + 1; omega) _).setCell (p := ⟨w.heap.size + 1, 4, none⟩) (by show w.heap.size <= w.heap.size + 1; omega) _)
        have HS11 := hD ((hbs.cell (p := ⟨b, o + i, none⟩) HLT.out).trans HS.out)
        clear k1 k2 k3 k4 k5 hm1 hbs
        refine rdH (rs := [11]) ?_
        refine AllReadyH.cons rfl (fun K hK => ?_) AllReadyH.nil
        go_simp
        refine hK.out _ _ HS11.out (fun _ => ?_)
        clear hK K
        refine wpAnyH_done (by kernel_rfl) ?_ _
        go_wp2_with fail
        go_roundw
        case rel => exact ⟨i + 1, a2, r.m, by omega, by omega, by go_num, HOKN, hD ⟨HEND.out.1, HEND.out.2.1, HEND.out.2.2.1, trivial, HEND.out.2.2.2⟩⟩
        case measure => simp only [intOf]; omega
      · go_simp
        refine (entry_any z i (by omega) _).mono ?_
        rintro en w2 ⟨ca, e, rfl, hf, hr, hb⟩
        unfold entV entC
        have HS := hD ((hb.cell (p := ⟨b, o + i, none⟩) (Nat.lt_of_lt_of_le HLT.out HM1.out.2.2.2.2.size)).trans HS.out)
        have HM2 : Hid (Blk w2 (w.heap.size + 1) 31 (machC a m) /\ Blk w2 w.heap.size 31 #[.slice none 0 0, .slice none 0 0, .slice none 0 0, .slice none 0 0, .slice none 0 0] /\ OwnM w w2 a m /\ True /\ Below w.heap.size w w2) := hD ⟨HM1.out.1.below hb, HM1.out.2.1.below hb, HM1.out.2.2.1.below hb, trivial, HM1.out.2.2.2.2.trans (hb.mono HM1.out.2.2.2.2.size)⟩
        have HF := hD hf
        have HRC := hD hr
        clear hf hr hb
        go_simp
        refine hK.out _ _ HS.out (fun _ => ?_)
        clear hK K
        refine rdH (rs := [0]) ?_
        refine AllReadyH.cons rfl (fun K hK => ?_) AllReadyH.nil
        obtain ⟨x0, x1, x2, x3, x4⟩ := five (t := 31) HM2.out.1
        go_simp
        refine hK.out _ _ HS.out (fun _ => ?_)
        clear hK K x0 x1 x2 x3 x4
        obtain ⟨r, hr⟩ : ∃ r, m.step e = r := ⟨_, rfl⟩
        have HOKN : Hid r.m.Ok := hD (by rw [<- hr]; exact HOK.out.step HF.out)
        have C1 := hD (refStep_any (W := w) (a := a) (ca := ca) HOK.out HF.out HM2.out.2.2.1.rd HRC.out HM2.out.2.2.2.2)
        rw [hr] at C1
        clear hr
        refine rdH (rs := [7]) ?_
        refine AllReadyH.cons rfl (fun K hK => ?_) AllReadyH.nil
        go_simp
        refine C1.out.mono ?_
        rintro en w3 ⟨a2, A2, c2, rfl, ho, hv, hB, hb⟩
        unfold machV machC resV
        have HS := hD ((hb.cell (p := ⟨b, o + i, none⟩) (Nat.lt_of_lt_of_le HLT.out HM2.out.2.2.2.2.size)).trans HS.out)
        have HM3 := hD (And.intro (HM2.out.1.below hb) (HM2.out.2.1.below hb))
        have HO3 := hD ho
        have HB3 := hD hB
        clear ho hv hB hb C1
        go_simp
        refine hK.out _ _ HS.out (fun _ => ?_)
        clear hK K
        refine tkL (i := 8) (v := .tuple #[.agg #[.slice a2.o.A0 r.m.o.reg.length a2.o.c0, .slice a2.o.A1 r.m.o.q.length a2.o.c1, .slice a2.o.A2 r.m.o.lk.length a2.o.c2, .slice a2.o.A3 r.m.o.mp.length a2.o.c3, .slice a2.At r.m.t.length a2.ct], .agg #[.int .i64 r.e, .slice A2 r.v.length c2, .int .i64 r.n]]) rfl (fun w _ => by go_simp) HS.out ?_
        refine tkL (i := 9) (v := .agg #[.slice a2.o.A0 r.m.o.reg.length a2.o.c0, .slice a2.o.A1 r.m.o.q.length a2.o.c1, .slice a2.o.A2 r.m.o.lk.length a2.o.c2, .slice a2.o.A3 r.m.o.mp.length a2.o.c3, .slice a2.At r.m.t.length a2.ct]) rfl (fun w _ => by go_simp) HS.out ?_
        refine tkL (i := 10) (v := .agg #[.int .i64 r.e, .slice A2 r.v.length c2, .int .i64 r.n]) rfl (fun w _ => by go_simp) HS.out ?_
        have hm1 := HM3.out.1
        unfold machC at hm1
        obtain ⟨k1, k2, k3, k4, k5⟩ := put5 hm1 (.slice a2.o.A0 r.m.o.reg.length a2.o.c0) (.slice a2.o.A1 r.m.o.q.length a2.o.c1) (.slice a2.o.A2 r.m.o.lk.length a2.o.c2) (.slice a2.o.A3 r.m.o.mp.length a2.o.c3) (.slice a2.At r.m.t.length a2.ct)
        obtain ⟨x0, x1, x2, x3, x4⟩ := five hm1
        obtain ⟨f0, f1, f2, f3, f4⟩ := five_frozen hm1
        have HEND := hD (And.intro k1 (And.intro (k5 w.heap.size _ _ (by omega) HM3.out.2) (And.intro (k3 w a2 r.m HO3.out (by decide) (by decide) (by decide) (by decide) (by decide)) (k2 w (by omega) HB3.out))))
        have hbs : Below w.heap.size w3 (((((w3.setCell ⟨w.heap.size + 1, 0, none⟩ (.slice a2.o.A0 r.m.o.reg.length a2.o.c0)).setCell ⟨w.heap.size + 1, 1, none⟩ (.slice a2.o.A1 r.m.o.q.length a2.o.c1)).setCell ⟨w.heap.size + 1, 2, none⟩ (.slice a2.o.A2 r.m.o.lk.length a2.o.c2)).setCell ⟨w.heap.size + 1, 3, none⟩ (.slice a2.o.A3 r.m.o.mp.length a2.o.c3)).setCell ⟨w.heap.size + 1, 4, none⟩ (.slice a2.At r.m.t.length a2.ct)) := ((((((Below.refl _ _).setCell (p := ⟨w.heap.size + 1, 0, none⟩) (by show w.heap.size <= w.heap.size + 1; omega) _).setCell (p := ⟨w.heap.size + 1, 1, none⟩) (by show w.heap.size <= w.heap.size + 1; omega) _).setCell (p := ⟨w.heap.size + 1, 2, none⟩) (by show w.heap.size <= w.heap.size + 1; omega) _).setCell (p := ⟨w.heap.size + 1, 3, none⟩) (by show w.heap.size <= w.heap.size + 1; omega) _).setCell (p := ⟨w.heap.size + 1, 4, none⟩) (by show w.heap.size <= w.heap.size + 1; omega) _)
        have HS11 := hD ((hbs.cell (p := ⟨b, o + i, none⟩) HLT.out).trans HS.out)
        clear k1 k2 k3 k4 k5 hm1 hbs
        refine rdH (rs := [11]) ?_
        refine AllReadyH.cons rfl (fun K hK => ?_) AllReadyH.nil
        go_simp
        refine hK.out _ _ HS11.out (fun _ => ?_)
        clear hK K
        refine wpAnyH_done (by kernel_rfl) ?_ _
        go_wp2_with fail
        go_roundw
        case rel => exact ⟨i + 1, a2, r.m, by omega, by omega, by go_num, HOKN, hD ⟨HEND.out.1, HEND.out.2.1, HEND.out.2.2.1, trivial, HEND.out.2.2.2⟩⟩
        case measure => simp only [intOf]; omega
    · have h60' : ¬ (i : Int) < 60 := by omega
      unfold machC at HM
      obtain ⟨x0, x1, x2, x3, x4⟩ := five HM.out.1
      have hz2 := HM.out.2.1
      obtain ⟨y0, y1, y2, y3, y4⟩ := five hz2
      obtain ⟨f0, f1, f2, f3, f4⟩ := five_frozen hz2
      go_wp2_with fail
      obtain ⟨k1, k2, k3, k4, k5⟩ := put5 hz2 (.slice a.o.A0 m.o.reg.length a.o.c0) (.slice a.o.A1 m.o.q.length a.o.c1) (.slice a.o.A2 m.o.lk.length a.o.c2) (.slice a.o.A3 m.o.mp.length a.o.c3) (.slice a.At m.t.length a.ct)
      refine bodyPost_ret (results_cell_row rfl _ _ _ _ _ _ _ rfl k1 Tryz.underlying31 rfl (by kernel_rfl)) rfl ?_
      exact ⟨a, m, rfl, HOK.out, k3 w a m HM.out.2.2.1 (by decide) (by decide) (by decide) (by decide) (by decide), k2 w lR HM.out.2.2.2.2⟩
  · have hlt' : ¬ (i : Int) < (n : Int) := by omega
    unfold machC at HM
    obtain ⟨x0, x1, x2, x3, x4⟩ := five HM.out.1
    have hz2 := HM.out.2.1
    obtain ⟨y0, y1, y2, y3, y4⟩ := five hz2
    obtain ⟨f0, f1, f2, f3, f4⟩ := five_frozen hz2
    go_wp2_with fail
    obtain ⟨k1, k2, k3, k4, k5⟩ := put5 hz2 (.slice a.o.A0 m.o.reg.length a.o.c0) (.slice a.o.A1 m.o.q.length a.o.c1) (.slice a.o.A2 m.o.lk.length a.o.c2) (.slice a.o.A3 m.o.mp.length a.o.c3) (.slice a.At m.t.length a.ct)
    refine bodyPost_ret (results_cell_row rfl _ _ _ _ _ _ _ rfl k1 Tryz.underlying31 rfl (by kernel_rfl)) rfl ?_
    exact ⟨a, m, rfl, HOK.out, k3 w a m HM.out.2.2.1 (by decide) (by decide) (by decide) (by decide) (by decide), k2 w lR HM.out.2.2.2.2⟩
theorem u8_bne {x y : Nat} {D : Bool} (h : decide (x ≠ y) = D) : ((x : Int) != (y : Int)) = D := by
 rw [<- h, Bool.eq_iff_iff]
 simp only [bne_iff_ne, ne_eq, decide_eq_true_eq]
 omega
set_option maxHeartbeats 4000000 in
set_option maxRecDepth 100000 in
theorem refUnfour_raw {w : World} {A : Option Addr} {n c B : Nat} {l : List Nat} (hl : ∀ x ∈ l, x < 256) (hn : l.length <= 2000000) (hc : n <= c /\ c <= maxLen) (h : Rd w B A n (bv l)) : Calls Tryz.prog 36 #[.slice A n c] w (GotU w w (Fr.unf l)) := by
 have hln := h.length
 by_cases h4 : n < 4
 · have hu : Fr.unf l = none := by unfold Fr.unf; rw [if_pos (by omega)]
   rw [hu]
   clear hu h hl hn hln
   go_enter Tryz.func36, Tryz.ntmps36
   go_wp2
   go_ret2
   exact ⟨none, 0, rfl, own_nil _ _, Below.refl _ _, Below.refl _ _⟩
 · obtain ⟨x0, x1, x2, x3, D, rfl⟩ : ∃ x0 x1 x2 x3 D, l = x0 :: x1 :: x2 :: x3 :: D := by
    match l, hln with
    | x0 :: x1 :: x2 :: x3 :: D, _ => exact ⟨x0, x1, x2, x3, D, rfl⟩
    | [], e => simp at e; omega
    | [_], e => simp at e; omega
    | [_, _], e => simp at e; omega
    | [_, _, _], e => simp at e; omega
   obtain ⟨bl, o, rfl, _⟩ := h.bytes_at (k := 0) (by omega)
   have cell : ∀ k, (hk : k < n) -> (x : Nat) -> (x0 :: x1 :: x2 :: x3 :: D)[k]? = some x -> w.cell? ⟨bl, o + k, none⟩ = some (.int .u8 (x : Int)) := fun k hk x hx => by
    obtain ⟨b', o', e, hk', hcell⟩ := h.bytes_at (k := k) hk
    injection e with e
    injection e with e1 e2
    subst e1; subst e2
    rw [hcell]
    rw [List.getElem?_eq_getElem hk'] at hx
    injection hx with hx
    rw [hx]
   have y0 : w.cell? ⟨bl, o, none⟩ = some (.int .u8 (x0 : Int)) := cell 0 (by omega) x0 rfl
   have y1 : w.cell? ⟨bl, o + 1, none⟩ = some (.int .u8 (x1 : Int)) := cell 1 (by omega) x1 rfl
   have y2 : w.cell? ⟨bl, o + 2, none⟩ = some (.int .u8 (x2 : Int)) := cell 2 (by omega) x2 rfl
   have y3 : w.cell? ⟨bl, o + 3, none⟩ = some (.int .u8 (x3 : Int)) := cell 3 (by omega) x3 rfl
   have HRD : Hid (Rd w w.heap.size (cutAt (some ⟨bl, o, none⟩) c 4) (n - 4) (bv D)) := hD (by
    have q := h.fit.drop (k := 4) (by omega) hc.1
    exact q)
   have HDB : Hid (∀ x ∈ D, x < 256) := hD (fun x hx => hl x (by simp [hx]))
   have HDL : Hid (D.length = n - 4) := hD (by simp at hln; omega)
   obtain ⟨s, hs⟩ : ∃ s, Crc.sum D = s := ⟨_, rfl⟩
   have hu : Fr.unf (x0 :: x1 :: x2 :: x3 :: D) = if [x0, x1, x2, x3] = Fr.four s then some D else none := by
    unfold Fr.unf
    rw [if_neg (by simp), <- hs]
    rfl
   have C := hD (refsum_any D HDB.out (cutAt (some ⟨bl, o, none⟩) c 4) (n - 4) (c - 4) w.heap.size (by unfold maxLen; have := HDL.out; simp at hn; omega) w HRD.out)
   rw [hs] at C
   obtain ⟨i9, hi1, hi2, hi3, hi4⟩ := info_parts byteT.info
   have hs2 : ∀ w : World, (Instr.slice 23 (.slice (some ⟨bl, o, none⟩) n c) (some (.int .i64 4)) none none).run Tryz.prog w = .ok (.slice (cutAt (some ⟨bl, o, none⟩) c 4) (n - 4) (c - 4)) w := fun w => run_slice_from (P := Tryz.prog) (t := 23) byteT.under hi1 hi3 (some ⟨bl, o, none⟩) n c 4 (by omega) w
   obtain ⟨E0, d0⟩ : ∃ E, decide (x0 ≠ s % 256) = E := ⟨_, rfl⟩
   obtain ⟨E1, d1⟩ : ∃ E, decide (x1 ≠ s / 256 % 256) = E := ⟨_, rfl⟩
   obtain ⟨E2, d2⟩ : ∃ E, decide (x2 ≠ s / 65536 % 256) = E := ⟨_, rfl⟩
   obtain ⟨E3, d3⟩ : ∃ E, decide (x3 ≠ s / 16777216 % 256) = E := ⟨_, rfl⟩
   have hb0 : ((x0 : Int) != (s : Int) % 256) = E0 := u8_bne (y := s % 256) d0
   have hb1 : ((x1 : Int) != (s : Int) / 256 % 256) = E1 := u8_bne (y := s / 256 % 256) d1
   have hb2 : ((x2 : Int) != (s : Int) / 65536 % 256) = E2 := u8_bne (y := s / 65536 % 256) d2
   have hb3 : ((x3 : Int) != (s : Int) / 16777216 % 256) = E3 := u8_bne (y := s / 16777216 % 256) d3
   have hcut : ([x0, x1, x2, x3] = Fr.four s) ↔ E0 = false /\ E1 = false /\ E2 = false /\ E3 = false := by
    rw [<- d0, <- d1, <- d2, <- d3]
    simp only [Fr.four, List.cons.injEq, and_true, decide_eq_false_iff_not, ne_eq, Decidable.not_not]
   have HU := hD hu
   have HNN : Hid (n - 4 <= 2000000) := hD (by have := HDL.out; simp at hn; omega)
   have HCUT := hD hcut
   have hn4 : ¬ (n : Int) < 4 := by omega
   have i0 : (0 : Int) < (n : Int) := by omega
   have i1 : (1 : Int) < (n : Int) := by omega
   have i2 : (2 : Int) < (n : Int) := by omega
   have i3 : (3 : Int) < (n : Int) := by omega
   obtain ⟨AD, hAD⟩ : ∃ x, cutAt (some ⟨bl, o, none⟩) c 4 = x := ⟨_, rfl⟩
   rw [hAD] at HRD C hs2
   clear hl hc h hs hu cell hi1 hi2 hi3 hi4 d0 d1 d2 d3 hcut hAD hln hn
   rw [HU.out]
   go_enter Tryz.func36, Tryz.ntmps36
   go_upto_region 4 with (first
    | (go_at_call 45; refine C.out.mono ?_; rintro e w' ⟨rfl, rfl⟩)
    | fail)
   cases E0 with
   | true =>
     have HN : Hid (¬ [x0, x1, x2, x3] = Fr.four s) := hD (fun h => by have := HCUT.out.1 h; simp at this)
     go_wp2
     go_ret2
     try rw [if_neg HN.out]
     exact ⟨none, 0, rfl, own_nil _ _, Below.refl _ _, Below.refl _ _⟩
   | false =>
     cases E1 with
     | true =>
       have HN : Hid (¬ [x0, x1, x2, x3] = Fr.four s) := hD (fun h => by have := HCUT.out.1 h; simp at this)
       go_wp2
       go_ret2
       try rw [if_neg HN.out]
       exact ⟨none, 0, rfl, own_nil _ _, Below.refl _ _, Below.refl _ _⟩
     | false =>
       cases E2 with
       | true =>
         have HN : Hid (¬ [x0, x1, x2, x3] = Fr.four s) := hD (fun h => by have := HCUT.out.1 h; simp at this)
         go_wp2
         go_ret2
         try rw [if_neg HN.out]
         exact ⟨none, 0, rfl, own_nil _ _, Below.refl _ _, Below.refl _ _⟩
       | false =>
         cases E3 with
         | true =>
           have HN : Hid (¬ [x0, x1, x2, x3] = Fr.four s) := hD (fun h => by have := HCUT.out.1 h; simp at this)
           go_wp2
           go_ret2
           try rw [if_neg HN.out]
           exact ⟨none, 0, rfl, own_nil _ _, Below.refl _ _, Below.refl _ _⟩
         | false =>
           have HY : Hid ([x0, x1, x2, x3] = Fr.four s) := hD (HCUT.out.2 ⟨rfl, rfl, rfl, rfl⟩)
           have HNL : Hid (n - 4 <= 2000000) := hD HNN.out
           go_wp2_with (first
            | (at_builtin
               refine wpList_append_bytes (W := w) byteT (.tmp 44) (.tmp 46) rfl (by rfl) rfl (own_empty (Below.refl _ _) 5) rfl (HRD.out.alloc lR _) (by have := HNL.out; omega) ((Below.refl _ _).alloc lR _) ?_
               intro A3 c3 w3 ho3 hr3 hB3
               simp only [Nat.zero_add, List.nil_append] at ho3 hr3
               have HO3 := hD ho3
               have HB3 := hD hB3
               clear ho3 hr3 hB3)
            | fail)
           go_ret2
           try rw [if_pos HY.out]
           have e := HDL.out
           refine ⟨A3, c3, by rw [show ((some D).getD []).length = n - 4 from e]; rfl, ?_, HB3.out, HB3.out⟩
           show OwnB w w3 A3 D.length c3 D
           rw [e]
           exact HO3.out
theorem refUnfour {W w : World} {A : Option Addr} {n c B : Nat} {l : List Nat} (hl : ∀ x ∈ l, x < 256) (hn : l.length <= 2000000) (hc : n <= c /\ c <= maxLen) (h : Rd w B A n (bv l)) (hB : Below W.heap.size W w) : Calls Tryz.prog 36 #[.slice A n c] w (GotU W w (Fr.unf l)) :=
 (refUnfour_raw hl hn hc h).mono fun e w' ⟨A, c, h1, h2, h3, h4⟩ => ⟨A, c, h1, own_of hB.size h2, hB.trans (h3.mono hB.size), h4⟩
end Go.Proofs.YtmekamgohonffaaGreat
