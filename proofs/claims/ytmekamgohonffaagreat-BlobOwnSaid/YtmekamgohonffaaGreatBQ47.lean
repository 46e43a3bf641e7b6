/- BlobRefSame MachMk -/
import Derived.Test.YtmekamgohonffaaGreatBQ31
import Derived.Test.YtmekamgohonffaaGreatBQ36
import Derived.Test.YtmekamgohonffaaGreatBQ37
import Derived.Deep.RegionHeld3
namespace Go.Proofs.YtmekamgohonffaaGreat
open Go.RowKit
set_option linter.unusedVariables false
deriving instance DecidableEq for Sb
set_option maxHeartbeats 4000000 in
set_option maxRecDepth 100000 in
theorem refSame15 (w : World) {a a' : SA} {s s' : Sb} {B B' : Nat} (hm : s.m.Ok) (hm' : s'.m.Ok) (hf : ∀ e ∈ s.rest, e.c.Fits) (hf' : ∀ e ∈ s'.rest, e.c.Fits) (hn : s.rest.length ≤ 1000000) (h : RdS w B a s) (h' : RdS w B' a' s') :
    Calls Tryz.prog 13 #[stateV a s, stateV a' s'] w fun e w' => e = .returned (.bool (decide (s = s'))) ∧ Below w.heap.size w w' := by
  obtain ⟨⟨⟨A0, C0, A1, C1, A2, C2, A3, C3⟩, At, Ct⟩, Ar, Cr⟩ := a
  obtain ⟨⟨⟨D0, E0, D1, E1, D2, E2, D3, E3⟩, Dt, Et⟩, Dr, Er⟩ := a'
  obtain ⟨p, m, es⟩ := s
  obtain ⟨p', m', es'⟩ := s'
  simp only at hm hm' hf hf' hn
  obtain ⟨sm, hsm⟩ : ∃ x, decide (m = m') = x := ⟨_, rfl⟩
  obtain ⟨se, hse⟩ : ∃ x, decide (es = es') = x := ⟨_, rfl⟩
  have CM : Hid (∀ W : World, Below w.heap.size w W → Calls Tryz.prog 15 #[.agg #[.slice A0 m.o.reg.length C0, .slice A1 m.o.q.length C1, .slice A2 m.o.lk.length C2, .slice A3 m.o.mp.length C3, .slice At m.t.length Ct], .agg #[.slice D0 m'.o.reg.length E0, .slice D1 m'.o.q.length E1, .slice D2 m'.o.lk.length E2, .slice D3 m'.o.mp.length E3, .slice Dt m'.t.length Et]] W fun e w' => e = .returned (.bool sm) ∧ Below W.heap.size W w') := Lib.hid (fun W hW => by
    rw [← hsm]
    exact refSame_any W (a := ⟨⟨A0, C0, A1, C1, A2, C2, A3, C3⟩, At, Ct⟩) (a' := ⟨⟨D0, E0, D1, E1, D2, E2, D3, E3⟩, Dt, Et⟩) hm hm' (RdM.below (RdM.fit h.m) hW) (RdM.below (RdM.fit h'.m) hW))
  have CE : Hid (∀ W : World, Below w.heap.size w W → Calls Tryz.prog 42 #[.slice Ar es.length Cr, .slice Dr es'.length Er] W fun e w' => e = .returned (.bool se) ∧ Below W.heap.size W w') := Lib.hid (fun W hW => by
    rw [← hse]
    exact refSameEntries W hf hf' (h.fit.r.below hW) (h'.fit.r.below hW) hn)
  have HFIN : Hid (decide ((⟨p, m, es⟩ : Sb) = ⟨p', m', es'⟩) = (decide (p = p') && (sm && se))) := Lib.hid (by
    rw [← hsm, ← hse]
    simp only [Sb.mk.injEq, Bool.decide_and])
  clear h h' hsm hse hm hm' hf hf'
  obtain ⟨g, hg⟩ : ∃ g, w.heap.size = g := ⟨_, rfl⟩
  have k0 : Blk ((w.alloc (.cells #[.int .i64 p, .slice A0 m.o.reg.length C0, .slice A1 m.o.q.length C1, .slice A2 m.o.lk.length C2, .slice A3 m.o.mp.length C3, .slice At m.t.length Ct, .slice Ar es.length Cr] 34)).alloc (.cells #[.int .i64 p', .slice D0 m'.o.reg.length E0, .slice D1 m'.o.q.length E1, .slice D2 m'.o.lk.length E2, .slice D3 m'.o.mp.length E3, .slice Dt m'.t.length Et, .slice Dr es'.length Er] 34)) w.heap.size 34 #[.int .i64 p, .slice A0 m.o.reg.length C0, .slice A1 m.o.q.length C1, .slice A2 m.o.lk.length C2, .slice A3 m.o.mp.length C3, .slice At m.t.length Ct, .slice Ar es.length Cr] := (Blk.new w 34 _).alloc _
  have k1 : Blk ((w.alloc (.cells #[.int .i64 p, .slice A0 m.o.reg.length C0, .slice A1 m.o.q.length C1, .slice A2 m.o.lk.length C2, .slice A3 m.o.mp.length C3, .slice At m.t.length Ct, .slice Ar es.length Cr] 34)).alloc (.cells #[.int .i64 p', .slice D0 m'.o.reg.length E0, .slice D1 m'.o.q.length E1, .slice D2 m'.o.lk.length E2, .slice D3 m'.o.mp.length E3, .slice Dt m'.t.length Et, .slice Dr es'.length Er] 34)) (w.heap.size + 1) 34 #[.int .i64 p', .slice D0 m'.o.reg.length E0, .slice D1 m'.o.q.length E1, .slice D2 m'.o.lk.length E2, .slice D3 m'.o.mp.length E3, .slice Dt m'.t.length Et, .slice Dr es'.length Er] := by
    have := Blk.new (w.alloc (.cells #[.int .i64 p, .slice A0 m.o.reg.length C0, .slice A1 m.o.q.length C1, .slice A2 m.o.lk.length C2, .slice A3 m.o.mp.length C3, .slice At m.t.length Ct, .slice Ar es.length Cr] 34)) 34 #[.int .i64 p', .slice D0 m'.o.reg.length E0, .slice D1 m'.o.q.length E1, .slice D2 m'.o.lk.length E2, .slice D3 m'.o.mp.length E3, .slice Dt m'.t.length Et, .slice Dr es'.length Er]
    rwa [World.size_alloc] at this
  have bb : Below w.heap.size w ((w.alloc (.cells #[.int .i64 p, .slice A0 m.o.reg.length C0, .slice A1 m.o.q.length C1, .slice A2 m.o.lk.length C2, .slice A3 m.o.mp.length C3, .slice At m.t.length Ct, .slice Ar es.length Cr] 34)).alloc (.cells #[.int .i64 p', .slice D0 m'.o.reg.length E0, .slice D1 m'.o.q.length E1, .slice D2 m'.o.lk.length E2, .slice D3 m'.o.mp.length E3, .slice Dt m'.t.length Et, .slice Dr es'.length Er] 34)) := ((Below.refl _ _).alloc (Nat.le_refl _) _).alloc (by rw [World.size_alloc]; omega) _
  have HK0 := Lib.hid k0
  have HK1 := Lib.hid k1
  have HB := Lib.hid bb
  clear k0 k1 bb
  unfold stateV stateC
  simp only
  go_enter Tryz.func13, Tryz.ntmps13
  go_upto_region 1 with fail
  generalize ((w.alloc (.cells #[.int .i64 p, .slice A0 m.o.reg.length C0, .slice A1 m.o.q.length C1, .slice A2 m.o.lk.length C2, .slice A3 m.o.mp.length C3, .slice At m.t.length Ct, .slice Ar es.length Cr] 34)).alloc (.cells #[.int .i64 p', .slice D0 m'.o.reg.length E0, .slice D1 m'.o.q.length E1, .slice D2 m'.o.lk.length E2, .slice D3 m'.o.mp.length E3, .slice Dt m'.t.length Et, .slice Dr es'.length Er] 34)) = wx at HK0 HK1 HB ⊢
  rw [hg] at HK0 HK1
  obtain ⟨g1, hg1⟩ : ∃ g1, g + 1 = g1 := ⟨_, rfl⟩
  rw [hg1] at HK1 ⊢
  clear hg1
  have HG := Lib.hid hg
  clear hg
  obtain ⟨x0, x1, x2, x3, x4, x5, x6⟩ := seven HK0.out
  obtain ⟨y0, y1, y2, y3, y4, y5, y6⟩ := seven HK1.out
  obtain ⟨q, hq⟩ : ∃ q, decide (p = p') = q := ⟨_, rfl⟩
  have hq' : (p == p') = q := by rw [← hq]; by_cases h : p = p' <;> simp [h]
  rw [hq] at HFIN
  clear hq
  cases q with
  | false =>
    go_wp2_with fail
    go_ret
    exact ⟨by rw [HFIN.out]; rfl, HB.out⟩
  | true =>
    cases sm with
    | false =>
      go_wp2_with (first
        | (go_at_call 15; refine (CM.out _ HB.out).mono ?_; rintro en w2 ⟨rfl, hb2⟩)
        | fail)
      go_ret
      exact ⟨by rw [HFIN.out]; rfl, HB.out.trans (hb2.mono HB.out.size)⟩
    | true =>
      go_wp2_with (first
        | (go_at_call 15; refine (CM.out _ HB.out).mono ?_; rintro en w2 ⟨rfl, hb2⟩
           have HB2 := Lib.hid (HB.out.trans (hb2.mono HB.out.size))
           obtain ⟨x0', x1', x2', x3', x4', x5', x6'⟩ := seven (HK0.out.below hb2)
           obtain ⟨y0', y1', y2', y3', y4', y5', y6'⟩ := seven (HK1.out.below hb2))
        | (go_at_call 42; refine (CE.out _ HB2.out).mono ?_; rintro en w3 ⟨rfl, hb3⟩)
        | fail)
      go_ret
      exact ⟨by rw [HFIN.out]; simp, HB2.out.trans (hb3.mono HB2.out.size)⟩
end Go.Proofs.YtmekamgohonffaaGreat

namespace Go.Proofs.YtmekamgohonffaaGreat
open Go.RowKit
set_option linter.unusedVariables false
set_option maxHeartbeats 4000000 in
set_option maxRecDepth 100000 in
theorem machine_any {A : Option Addr} {n c B : Nat} {zs : List Int} (hn : n ≤ maxLen) (w : World) (h : Rd w B A n (iv zs)) :
    Calls Tryz.prog 21 #[.slice A n c] w fun en w' => ∃ a m, en = .returned (machV a m) ∧ m.Ok ∧ OwnM w w' a m ∧ Below w.heap.size w w' := by
  have hlen : zs.length = n := by have := h.1; rwa [iv_length] at this
  have HR := Lib.hid h.fit
  have hnn : n ≤ 9223372036854775807 := by unfold maxLen at hn; omega
  clear h hn
  have b0 : Below w.heap.size w ((w.alloc (.cells #[.slice none 0 0, .slice none 0 0, .slice none 0 0, .slice none 0 0, .slice none 0 0] 31)).alloc (.cells #[.slice none 0 0, .slice none 0 0, .slice none 0 0, .slice none 0 0, .slice none 0 0] 31)) := ((Below.refl _ _).alloc (Nat.le_refl _) _).alloc (by simp) _
  have hk0 := Blk.new (w.alloc (.cells #[.slice none 0 0, .slice none 0 0, .slice none 0 0, .slice none 0 0, .slice none 0 0] 31)) 31 #[.slice none 0 0, .slice none 0 0, .slice none 0 0, .slice none 0 0, .slice none 0 0]
  rw [World.size_alloc] at hk0
  have HM0 : Hid (Blk ((w.alloc (.cells #[.slice none 0 0, .slice none 0 0, .slice none 0 0, .slice none 0 0, .slice none 0 0] 31)).alloc (.cells #[.slice none 0 0, .slice none 0 0, .slice none 0 0, .slice none 0 0, .slice none 0 0] 31)) (w.heap.size + 1) 31 (machC ⟨⟨none, 0, none, 0, none, 0, none, 0⟩, none, 0⟩ Mc.zero) ∧ Blk ((w.alloc (.cells #[.slice none 0 0, .slice none 0 0, .slice none 0 0, .slice none 0 0, .slice none 0 0] 31)).alloc (.cells #[.slice none 0 0, .slice none 0 0, .slice none 0 0, .slice none 0 0, .slice none 0 0] 31)) w.heap.size 31 #[.slice none 0 0, .slice none 0 0, .slice none 0 0, .slice none 0 0, .slice none 0 0] ∧ OwnM w ((w.alloc (.cells #[.slice none 0 0, .slice none 0 0, .slice none 0 0, .slice none 0 0, .slice none 0 0] 31)).alloc (.cells #[.slice none 0 0, .slice none 0 0, .slice none 0 0, .slice none 0 0, .slice none 0 0] 31)) ⟨⟨none, 0, none, 0, none, 0, none, 0⟩, none, 0⟩ Mc.zero ∧ True ∧ Below w.heap.size w ((w.alloc (.cells #[.slice none 0 0, .slice none 0 0, .slice none 0 0, .slice none 0 0, .slice none 0 0] 31)).alloc (.cells #[.slice none 0 0, .slice none 0 0, .slice none 0 0, .slice none 0 0, .slice none 0 0] 31))) := Lib.hid ⟨hk0, (Blk.new w _ _).alloc _, OwnM.zero _ _, trivial, b0⟩
  clear b0 hk0
  go_enter Tryz.func21, Tryz.ntmps21
  go_wp2_with fail
  go_loopw [4] (fun s4 wr => ∃ (i : Nat) (a : MA) (m : Mc), i ≤ n ∧ i ≤ 60 ∧ s4 = .int .i64 (i : Int) ∧ Hid m.Ok ∧ Hid (Blk wr (w.heap.size + 1) 31 (machC a m) ∧ Blk wr w.heap.size 31 #[.slice none 0 0, .slice none 0 0, .slice none 0 0, .slice none 0 0, .slice none 0 0] ∧ OwnM w wr a m ∧ True ∧ Below w.heap.size w wr)) (fun s4 _ => n - (intOf s4).toNat)
  case atStart => exact ⟨0, _, Mc.zero, Nat.zero_le _, by omega, rfl, Lib.hid Mc.Ok.zero, HM0⟩
  case round =>
    clear HM0
    obtain ⟨i, a, m, hi, hi6, rfl, HOK, HM⟩ := hrel
    by_cases hlt : i < n
    · by_cases h60 : i < 60
      · obtain ⟨z, hz⟩ : ∃ z, zs[i]? = some z := ⟨_, List.getElem?_eq_getElem (by omega)⟩
        obtain ⟨b, o, rfl, hbl⟩ := HR.out.int_at hlt
        have hcell := (HR.out.below HM.out.2.2.2.2).int_cell hlt hz
        have hcell0 := HR.out.int_cell hlt hz
        have HLT : Hid (b < w.heap.size) := Lib.hid (World.block_lt_of_cell? _ _ hcell0)
        have hii : (i : Int) < (n : Int) := by omega
        have hi0 : (0 : Int) ≤ (i : Int) := by omega
        have hv1 : IntKind.i64.wrap ((i : Int) + 1) = (i : Int) + 1 := IntWalk.i64_in _ (by omega)
        clear hz hcell0
        go_upto_region 5 with fail
        have hbd : Below wr.heap.size wr wr.drew := (Below.refl _ _).drew
        have HS := Lib.hid ((hbd.cell (p := ⟨b, o + i, none⟩) (Nat.lt_of_lt_of_le HLT.out HM.out.2.2.2.2.size)).trans hcell)
        have HM1 : Hid (Blk wr.drew (w.heap.size + 1) 31 (machC a m) ∧ Blk wr.drew w.heap.size 31 #[.slice none 0 0, .slice none 0 0, .slice none 0 0, .slice none 0 0, .slice none 0 0] ∧ OwnM w wr.drew a m ∧ True ∧ Below w.heap.size w wr.drew) := Lib.hid ⟨HM.out.1.below hbd, HM.out.2.1.below hbd, HM.out.2.2.1.below hbd, trivial, HM.out.2.2.2.2.trans (hbd.mono HM.out.2.2.2.2.size)⟩
        refine wp_region_held_drew (S := fun w' => w'.cell? ⟨b, o + i, none⟩ = some (.int .i64 z)) (by kernel_rfl) HS.out (fun _ => ?_)
        clear hbd HM hcell
        generalize wr.drew = w1 at HS HM1 ⊢
        refine wpAnyH_take (i := 1) (v := .slice (some ⟨b, o, none⟩) n c) rfl (by kernel_rfl) (by kernel_rfl) (by kernel_rfl) (fun _ _ _ h => h) (Or.inl ⟨by kernel_rfl, fun w _ => by go_simp⟩) HS.out ?_
        refine wpAnyH_take (i := 2) (v := .int .i64 (i : Int)) rfl (by kernel_rfl) (by kernel_rfl) (by kernel_rfl) (fun _ _ _ h => h) (Or.inl ⟨by kernel_rfl, fun w _ => by go_simp⟩) HS.out ?_
        refine wpAnyH_take (i := 5) (v := .int .i64 (i : Int)) rfl (by kernel_rfl) (by kernel_rfl) (by kernel_rfl) (fun _ _ _ h => h) (Or.inl ⟨by kernel_rfl, fun w _ => by go_simp⟩) HS.out ?_
        refine wpAnyH_take (i := 3) (v := .pointer (some ⟨b, o + i, none⟩)) rfl (by kernel_rfl) (by kernel_rfl) (by kernel_rfl) (fun _ _ _ h => h) (Or.inl ⟨by kernel_rfl, fun w _ => by go_simp⟩) HS.out ?_
        refine wpAnyH_take (i := 4) (v := .int .i64 z) rfl (by kernel_rfl) (by kernel_rfl) (by kernel_rfl) (fun _ _ _ h => h) (Or.inl ⟨by kernel_rfl, fun w h => by have q := h; go_simp⟩) HS.out ?_
        refine wpAnyH_ready (rs := [0, 6]) (by kernel_rfl) (by simp) ?_
        refine AllReadyH.cons rfl (fun K hK => ?_) (AllReadyH.cons rfl (fun K hK => ?_) AllReadyH.nil)
        · obtain ⟨x0, x1, x2, x3, x4⟩ := five (t := 31) HM1.out.1
          go_simp
          refine hK.out _ _ HS.out (fun _ => ?_)
          clear hK K x0 x1 x2 x3 x4
          refine wpAnyH_ready (rs := [6]) (by kernel_rfl) (by simp) ?_
          refine AllReadyH.cons rfl (fun K hK => ?_) AllReadyH.nil
          go_simp
          refine (entry_any z i (by omega) _).mono ?_
          rintro en w2 ⟨ca, e, rfl, hf, hr, hb⟩
          unfold entV entC
          have HS := Lib.hid ((hb.cell (p := ⟨b, o + i, none⟩) (Nat.lt_of_lt_of_le HLT.out HM1.out.2.2.2.2.size)).trans HS.out)
          have HM2 : Hid (Blk w2 (w.heap.size + 1) 31 (machC a m) ∧ Blk w2 w.heap.size 31 #[.slice none 0 0, .slice none 0 0, .slice none 0 0, .slice none 0 0, .slice none 0 0] ∧ OwnM w w2 a m ∧ True ∧ Below w.heap.size w w2) := Lib.hid ⟨HM1.out.1.below hb, HM1.out.2.1.below hb, HM1.out.2.2.1.below hb, trivial, HM1.out.2.2.2.2.trans (hb.mono HM1.out.2.2.2.2.size)⟩
          have HF := Lib.hid hf
          have HRC := Lib.hid hr
          clear hf hr hb
          go_simp
          refine hK.out _ _ HS.out (fun _ => ?_)
          clear hK K
          obtain ⟨r, hr⟩ : ∃ r, m.step e = r := ⟨_, rfl⟩
          have HOKN : Hid r.m.Ok := Lib.hid (by rw [← hr]; exact HOK.out.step HF.out)
          have C1 := Lib.hid (refStep_any (W := w) (a := a) (ca := ca) HOK.out HF.out HM2.out.2.2.1.rd HRC.out HM2.out.2.2.2.2)
          rw [hr] at C1
          clear hr
          refine wpAnyH_ready (rs := [7]) (by kernel_rfl) (by simp) ?_
          refine AllReadyH.cons rfl (fun K hK => ?_) AllReadyH.nil
          go_simp
          refine C1.out.mono ?_
          rintro en w3 ⟨a2, A2, c2, rfl, ho, hv, hB, hb⟩
          unfold machV machC resV
          have HS := Lib.hid ((hb.cell (p := ⟨b, o + i, none⟩) (Nat.lt_of_lt_of_le HLT.out HM2.out.2.2.2.2.size)).trans HS.out)
          have HM3 := Lib.hid (And.intro (HM2.out.1.below hb) (HM2.out.2.1.below hb))
          have HO3 := Lib.hid ho
          have HB3 := Lib.hid hB
          clear ho hv hB hb C1
          go_simp
          refine hK.out _ _ HS.out (fun _ => ?_)
          clear hK K
          refine wpAnyH_take (i := 8) (v := .tuple #[.agg #[.slice a2.o.A0 r.m.o.reg.length a2.o.c0, .slice a2.o.A1 r.m.o.q.length a2.o.c1, .slice a2.o.A2 r.m.o.lk.length a2.o.c2, .slice a2.o.A3 r.m.o.mp.length a2.o.c3, .slice a2.At r.m.t.length a2.ct], .agg #[.int .i64 r.e, .slice A2 r.v.length c2, .int .i64 r.n]]) rfl (by kernel_rfl) (by kernel_rfl) (by kernel_rfl) (fun _ _ _ h => h) (Or.inl ⟨by kernel_rfl, fun w _ => by go_simp⟩) HS.out ?_
          refine wpAnyH_take (i := 9) (v := .agg #[.slice a2.o.A0 r.m.o.reg.length a2.o.c0, .slice a2.o.A1 r.m.o.q.length a2.o.c1, .slice a2.o.A2 r.m.o.lk.length a2.o.c2, .slice a2.o.A3 r.m.o.mp.length a2.o.c3, .slice a2.At r.m.t.length a2.ct]) rfl (by kernel_rfl) (by kernel_rfl) (by kernel_rfl) (fun _ _ _ h => h) (Or.inl ⟨by kernel_rfl, fun w _ => by go_simp⟩) HS.out ?_
          refine wpAnyH_take (i := 10) (v := .agg #[.int .i64 r.e, .slice A2 r.v.length c2, .int .i64 r.n]) rfl (by kernel_rfl) (by kernel_rfl) (by kernel_rfl) (fun _ _ _ h => h) (Or.inl ⟨by kernel_rfl, fun w _ => by go_simp⟩) HS.out ?_
          have hm1 := HM3.out.1
          unfold machC at hm1
          obtain ⟨k1, k2, k3, k4, k5⟩ := put5 hm1 (.slice a2.o.A0 r.m.o.reg.length a2.o.c0) (.slice a2.o.A1 r.m.o.q.length a2.o.c1) (.slice a2.o.A2 r.m.o.lk.length a2.o.c2) (.slice a2.o.A3 r.m.o.mp.length a2.o.c3) (.slice a2.At r.m.t.length a2.ct)
          obtain ⟨x0, x1, x2, x3, x4⟩ := five hm1
          obtain ⟨f0, f1, f2, f3, f4⟩ := five_frozen hm1
          have HEND := Lib.hid (And.intro k1 (And.intro (k5 w.heap.size _ _ (by omega) HM3.out.2) (And.intro (k3 w a2 r.m HO3.out (by decide) (by decide) (by decide) (by decide) (by decide)) (k2 w (by omega) HB3.out))))
          have hbs : Below w.heap.size w3 (((((w3.setCell ⟨w.heap.size + 1, 0, none⟩ (.slice a2.o.A0 r.m.o.reg.length a2.o.c0)).setCell ⟨w.heap.size + 1, 1, none⟩ (.slice a2.o.A1 r.m.o.q.length a2.o.c1)).setCell ⟨w.heap.size + 1, 2, none⟩ (.slice a2.o.A2 r.m.o.lk.length a2.o.c2)).setCell ⟨w.heap.size + 1, 3, none⟩ (.slice a2.o.A3 r.m.o.mp.length a2.o.c3)).setCell ⟨w.heap.size + 1, 4, none⟩ (.slice a2.At r.m.t.length a2.ct)) := ((((((Below.refl _ _).setCell (p := ⟨w.heap.size + 1, 0, none⟩) (by show w.heap.size ≤ w.heap.size + 1; omega) _).setCell (p := ⟨w.heap.size + 1, 1, none⟩) (by show w.heap.size ≤ w.heap.size + 1; omega) _).setCell (p := ⟨w.heap.size + 1, 2, none⟩) (by show w.heap.size ≤ w.heap.size + 1; omega) _).setCell (p := ⟨w.heap.size + 1, 3, none⟩) (by show w.heap.size ≤ w.heap.size + 1; omega) _).setCell (p := ⟨w.heap.size + 1, 4, none⟩) (by show w.heap.size ≤ w.heap.size + 1; omega) _)
          have HS11 := Lib.hid ((hbs.cell (p := ⟨b, o + i, none⟩) HLT.out).trans HS.out)
          clear k1 k2 k3 k4 k5 hm1 hbs
          refine wpAnyH_ready (rs := [11]) (by kernel_rfl) (by simp) ?_
          refine AllReadyH.cons rfl (fun K hK => ?_) AllReadyH.nil
          go_simp
          refine hK.out _ _ HS11.out (fun _ => ?_)
          clear hK K
          refine wpAnyH_done (by kernel_rfl) ?_ _
          go_wp2_with fail
          go_roundw
          case rel => exact ⟨i + 1, a2, r.m, by omega, by omega, by go_num, HOKN, Lib.hid ⟨HEND.out.1, HEND.out.2.1, HEND.out.2.2.1, trivial, HEND.out.2.2.2⟩⟩
          case measure => simp only [intOf]; omega
        · go_simp
          refine (entry_any z i (by omega) _).mono ?_
          rintro en w2 ⟨ca, e, rfl, hf, hr, hb⟩
          unfold entV entC
          have HS := Lib.hid ((hb.cell (p := ⟨b, o + i, none⟩) (Nat.lt_of_lt_of_le HLT.out HM1.out.2.2.2.2.size)).trans HS.out)
          have HM2 : Hid (Blk w2 (w.heap.size + 1) 31 (machC a m) ∧ Blk w2 w.heap.size 31 #[.slice none 0 0, .slice none 0 0, .slice none 0 0, .slice none 0 0, .slice none 0 0] ∧ OwnM w w2 a m ∧ True ∧ Below w.heap.size w w2) := Lib.hid ⟨HM1.out.1.below hb, HM1.out.2.1.below hb, HM1.out.2.2.1.below hb, trivial, HM1.out.2.2.2.2.trans (hb.mono HM1.out.2.2.2.2.size)⟩
          have HF := Lib.hid hf
          have HRC := Lib.hid hr
          clear hf hr hb
          go_simp
          refine hK.out _ _ HS.out (fun _ => ?_)
          clear hK K
          refine wpAnyH_ready (rs := [0]) (by kernel_rfl) (by simp) ?_
          refine AllReadyH.cons rfl (fun K hK => ?_) AllReadyH.nil
          obtain ⟨x0, x1, x2, x3, x4⟩ := five (t := 31) HM2.out.1
          go_simp
          refine hK.out _ _ HS.out (fun _ => ?_)
          clear hK K x0 x1 x2 x3 x4
          obtain ⟨r, hr⟩ : ∃ r, m.step e = r := ⟨_, rfl⟩
          have HOKN : Hid r.m.Ok := Lib.hid (by rw [← hr]; exact HOK.out.step HF.out)
          have C1 := Lib.hid (refStep_any (W := w) (a := a) (ca := ca) HOK.out HF.out HM2.out.2.2.1.rd HRC.out HM2.out.2.2.2.2)
          rw [hr] at C1
          clear hr
          refine wpAnyH_ready (rs := [7]) (by kernel_rfl) (by simp) ?_
          refine AllReadyH.cons rfl (fun K hK => ?_) AllReadyH.nil
          go_simp
          refine C1.out.mono ?_
          rintro en w3 ⟨a2, A2, c2, rfl, ho, hv, hB, hb⟩
          unfold machV machC resV
          have HS := Lib.hid ((hb.cell (p := ⟨b, o + i, none⟩) (Nat.lt_of_lt_of_le HLT.out HM2.out.2.2.2.2.size)).trans HS.out)
          have HM3 := Lib.hid (And.intro (HM2.out.1.below hb) (HM2.out.2.1.below hb))
          have HO3 := Lib.hid ho
          have HB3 := Lib.hid hB
          clear ho hv hB hb C1
          go_simp
          refine hK.out _ _ HS.out (fun _ => ?_)
          clear hK K
          refine wpAnyH_take (i := 8) (v := .tuple #[.agg #[.slice a2.o.A0 r.m.o.reg.length a2.o.c0, .slice a2.o.A1 r.m.o.q.length a2.o.c1, .slice a2.o.A2 r.m.o.lk.length a2.o.c2, .slice a2.o.A3 r.m.o.mp.length a2.o.c3, .slice a2.At r.m.t.length a2.ct], .agg #[.int .i64 r.e, .slice A2 r.v.length c2, .int .i64 r.n]]) rfl (by kernel_rfl) (by kernel_rfl) (by kernel_rfl) (fun _ _ _ h => h) (Or.inl ⟨by kernel_rfl, fun w _ => by go_simp⟩) HS.out ?_
          refine wpAnyH_take (i := 9) (v := .agg #[.slice a2.o.A0 r.m.o.reg.length a2.o.c0, .slice a2.o.A1 r.m.o.q.length a2.o.c1, .slice a2.o.A2 r.m.o.lk.length a2.o.c2, .slice a2.o.A3 r.m.o.mp.length a2.o.c3, .slice a2.At r.m.t.length a2.ct]) rfl (by kernel_rfl) (by kernel_rfl) (by kernel_rfl) (fun _ _ _ h => h) (Or.inl ⟨by kernel_rfl, fun w _ => by go_simp⟩) HS.out ?_
          refine wpAnyH_take (i := 10) (v := .agg #[.int .i64 r.e, .slice A2 r.v.length c2, .int .i64 r.n]) rfl (by kernel_rfl) (by kernel_rfl) (by kernel_rfl) (fun _ _ _ h => h) (Or.inl ⟨by kernel_rfl, fun w _ => by go_simp⟩) HS.out ?_
          have hm1 := HM3.out.1
          unfold machC at hm1
          obtain ⟨k1, k2, k3, k4, k5⟩ := put5 hm1 (.slice a2.o.A0 r.m.o.reg.length a2.o.c0) (.slice a2.o.A1 r.m.o.q.length a2.o.c1) (.slice a2.o.A2 r.m.o.lk.length a2.o.c2) (.slice a2.o.A3 r.m.o.mp.length a2.o.c3) (.slice a2.At r.m.t.length a2.ct)
          obtain ⟨x0, x1, x2, x3, x4⟩ := five hm1
          obtain ⟨f0, f1, f2, f3, f4⟩ := five_frozen hm1
          have HEND := Lib.hid (And.intro k1 (And.intro (k5 w.heap.size _ _ (by omega) HM3.out.2) (And.intro (k3 w a2 r.m HO3.out (by decide) (by decide) (by decide) (by decide) (by decide)) (k2 w (by omega) HB3.out))))
          have hbs : Below w.heap.size w3 (((((w3.setCell ⟨w.heap.size + 1, 0, none⟩ (.slice a2.o.A0 r.m.o.reg.length a2.o.c0)).setCell ⟨w.heap.size + 1, 1, none⟩ (.slice a2.o.A1 r.m.o.q.length a2.o.c1)).setCell ⟨w.heap.size + 1, 2, none⟩ (.slice a2.o.A2 r.m.o.lk.length a2.o.c2)).setCell ⟨w.heap.size + 1, 3, none⟩ (.slice a2.o.A3 r.m.o.mp.length a2.o.c3)).setCell ⟨w.heap.size + 1, 4, none⟩ (.slice a2.At r.m.t.length a2.ct)) := ((((((Below.refl _ _).setCell (p := ⟨w.heap.size + 1, 0, none⟩) (by show w.heap.size ≤ w.heap.size + 1; omega) _).setCell (p := ⟨w.heap.size + 1, 1, none⟩) (by show w.heap.size ≤ w.heap.size + 1; omega) _).setCell (p := ⟨w.heap.size + 1, 2, none⟩) (by show w.heap.size ≤ w.heap.size + 1; omega) _).setCell (p := ⟨w.heap.size + 1, 3, none⟩) (by show w.heap.size ≤ w.heap.size + 1; omega) _).setCell (p := ⟨w.heap.size + 1, 4, none⟩) (by show w.heap.size ≤ w.heap.size + 1; omega) _)
          have HS11 := Lib.hid ((hbs.cell (p := ⟨b, o + i, none⟩) HLT.out).trans HS.out)
          clear k1 k2 k3 k4 k5 hm1 hbs
          refine wpAnyH_ready (rs := [11]) (by kernel_rfl) (by simp) ?_
          refine AllReadyH.cons rfl (fun K hK => ?_) AllReadyH.nil
          go_simp
          refine hK.out _ _ HS11.out (fun _ => ?_)
          clear hK K
          refine wpAnyH_done (by kernel_rfl) ?_ _
          go_wp2_with fail
          go_roundw
          case rel => exact ⟨i + 1, a2, r.m, by omega, by omega, by go_num, HOKN, Lib.hid ⟨HEND.out.1, HEND.out.2.1, HEND.out.2.2.1, trivial, HEND.out.2.2.2⟩⟩
          case measure => simp only [intOf]; omega
      · have h60' : ¬ (i : Int) < 60 := by omega
        unfold machC at HM
        obtain ⟨x0, x1, x2, x3, x4⟩ := five HM.out.1
        have hz2 := HM.out.2.1
        obtain ⟨y0, y1, y2, y3, y4⟩ := five hz2
        obtain ⟨f0, f1, f2, f3, f4⟩ := five_frozen hz2
        go_wp2_with fail
        obtain ⟨k1, k2, k3, k4, k5⟩ := put5 hz2 (.slice a.o.A0 m.o.reg.length a.o.c0) (.slice a.o.A1 m.o.q.length a.o.c1) (.slice a.o.A2 m.o.lk.length a.o.c2) (.slice a.o.A3 m.o.mp.length a.o.c3) (.slice a.At m.t.length a.ct)
        refine bodyPost_ret (results_cell_row rfl _ _ _ _ _ _ _ rfl k1 Tryz.underlying31 rfl (by kernel_rfl)) rfl ?_
        exact ⟨a, m, rfl, HOK.out, k3 w a m HM.out.2.2.1 (by decide) (by decide) (by decide) (by decide) (by decide), k2 w (Nat.le_refl _) HM.out.2.2.2.2⟩
    · have hlt' : ¬ (i : Int) < (n : Int) := by omega
      unfold machC at HM
      obtain ⟨x0, x1, x2, x3, x4⟩ := five HM.out.1
      have hz2 := HM.out.2.1
      obtain ⟨y0, y1, y2, y3, y4⟩ := five hz2
      obtain ⟨f0, f1, f2, f3, f4⟩ := five_frozen hz2
      go_wp2_with fail
      obtain ⟨k1, k2, k3, k4, k5⟩ := put5 hz2 (.slice a.o.A0 m.o.reg.length a.o.c0) (.slice a.o.A1 m.o.q.length a.o.c1) (.slice a.o.A2 m.o.lk.length a.o.c2) (.slice a.o.A3 m.o.mp.length a.o.c3) (.slice a.At m.t.length a.ct)
      refine bodyPost_ret (results_cell_row rfl _ _ _ _ _ _ _ rfl k1 Tryz.underlying31 rfl (by kernel_rfl)) rfl ?_
      exact ⟨a, m, rfl, HOK.out, k3 w a m HM.out.2.2.1 (by decide) (by decide) (by decide) (by decide) (by decide), k2 w (Nat.le_refl _) HM.out.2.2.2.2⟩
end Go.Proofs.YtmekamgohonffaaGreat

