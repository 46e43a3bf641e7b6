/- MachDecode BlobRefSame -/
import Derived.Test.YtmekamgohonffaaGreatBT00
import Derived.Test.YtmekamgohonffaaGreatBT32
import Derived.Test.YtmekamgohonffaaGreatBT38
import Derived.Test.YtmekamgohonffaaGreatBT43
import Derived.Test.YtmekamgohonffaaGreatBT48
import Derived.Deep.CutBlock
namespace Go.Proofs.YtmekamgohonffaaGreat
open Go.RowKit
set_option linter.unusedVariables false
structure DcSt (w w1 wx : World) (rb g2 : Nat) (a : MA) (m : Mc) (s : Pk.St) : Prop where
 res : Blk wx w.heap.size 31 #[.slice none 0 0, .slice none 0 0, .slice none 0 0, .slice none 0 0, .slice none 0 0]
 blk : Blk wx g2 31 (machC a m)
 own : OwnM w1 wx a m
 rd : RgSt w1 wx rb s
section
variable {w w1 wx wy : World} {rb g2 : Nat} {a : MA} {m : Mc} {s s' : Pk.St}
theorem DcSt.call (h : DcSt w w1 wx rb g2 a m s) (hb : rb < w1.heap.size) (h0 : w.heap.size ≠ rb) (h2 : g2 ≠ rb) (hr : RdrAt wy rb s') (ho : Only rb wx wy) : DcSt w w1 wy rb g2 a m s' :=
 ⟨h.res.grown ho (by simpa using h0), h.blk.grown ho (by simpa using h2), h.own.old ho (Old.some hb), h.rd.call hr ho⟩
theorem DcSt.put {a' : MA} {m' : Mc} {i : Nat} {u : Value} (h : DcSt w w1 wx rb g2 a m s) (ho : OwnM w1 wx a' m') (h0 : w.heap.size ≠ g2) (hg : w1.heap.size <= g2) (hc : (machC a m).setIfInBounds i u = machC a' m') : DcSt w w1 (wx.setCell ⟨g2, i, none⟩ u) rb g2 a' m' s :=
 ⟨h.res.set_other h0, hc ▸ h.blk.set_ i u, ho.set_t h.blk (by decide) (by decide) (by decide) (by decide) (by decide), h.rd.set h.blk (by decide) (by decide) hg⟩
end
theorem dec_end {w wx : World} (hk : Blk wx w.heap.size 31 #[.slice none 0 0, .slice none 0 0, .slice none 0 0, .slice none 0 0, .slice none 0 0]) (hB : Below w.heap.size w wx) {a : MA} {m : Mc} (ho : OwnM w wx a m) :
 let wy := (((((wx.setCell ⟨w.heap.size, 0, none⟩ (.slice a.o.A0 m.o.reg.length a.o.c0)).setCell ⟨w.heap.size, 1, none⟩ (.slice a.o.A1 m.o.q.length a.o.c1)).setCell ⟨w.heap.size, 2, none⟩ (.slice a.o.A2 m.o.lk.length a.o.c2)).setCell ⟨w.heap.size, 3, none⟩ (.slice a.o.A3 m.o.mp.length a.o.c3)).setCell ⟨w.heap.size, 4, none⟩ (.slice a.At m.t.length a.ct))
 Blk wy w.heap.size 31 (machC a m) /\ OwnM w wy a m /\ Below w.heap.size w wy := by
 intro wy
 obtain ⟨k1, k2, k3, _, _⟩ := put5 hk (.slice a.o.A0 m.o.reg.length a.o.c0) (.slice a.o.A1 m.o.q.length a.o.c1) (.slice a.o.A2 m.o.lk.length a.o.c2) (.slice a.o.A3 m.o.mp.length a.o.c3) (.slice a.At m.t.length a.ct)
 exact ⟨k1, k3 w a m ho (by decide) (by decide) (by decide) (by decide) (by decide), k2 w lR hB⟩
set_option maxHeartbeats 8000000 in
set_option maxRecDepth 100000 in
theorem decode_raw {w : World} {A : Option Addr} {n c B : Nat} {l : List Nat} (hl : l.length <= 100000) (hb : ∀ x ∈ l, x < 256) (h : Rd w B A n (bv l)) :
 Calls Tryz.prog 26 #[.slice A n c] w (GotMB w w (Mc.dec l)) := by
 obtain rfl := h.length
 have HN := hD (Mc.get_near (s := some l) (fun l' hl' => by injection hl' with hl'; subst hl'; exact hb))
 have HDEC : Hid (Mc.dec l = if (Mc.get (some l)).1.wf = true /\ (Mc.get (some l)).2 = some [] then some (Mc.get (some l)).1 else none) := hD rfl
 obtain ⟨R, hR⟩ : ∃ R, Mc.dec l = R := ⟨_, rfl⟩
 rw [hR] at HDEC |-
 -- the names of what is read
 obtain ⟨v0, d0⟩ : ∃ x, Pk.bytV (some l) 16 = x := ⟨_, rfl⟩
 obtain ⟨s1, e1⟩ : ∃ x, Pk.bytS (some l) 16 = x := ⟨_, rfl⟩
 obtain ⟨qs, d1⟩ : ∃ x, (stQ s1).1 = x := ⟨_, rfl⟩
 obtain ⟨s2, e2⟩ : ∃ x, (stQ s1).2 = x := ⟨_, rfl⟩
 obtain ⟨zs, d2⟩ : ∃ x, (stI s2).1 = x := ⟨_, rfl⟩
 obtain ⟨s3, e3⟩ : ∃ x, (stI s2).2 = x := ⟨_, rfl⟩
 obtain ⟨ps, d3⟩ : ∃ x, (stP s3).1 = x := ⟨_, rfl⟩
 obtain ⟨s4, e4⟩ : ∃ x, (stP s3).2 = x := ⟨_, rfl⟩
 obtain ⟨ts, d4⟩ : ∃ x, (stT s4).1 = x := ⟨_, rfl⟩
 obtain ⟨s5, e5⟩ : ∃ x, (stT s4).2 = x := ⟨_, rfl⟩
 have HGET : Hid (Mc.get (some l) = (⟨⟨v0, qs, zs, ps⟩, ts⟩, s5)) := hD (by
  unfold Mc.get getO
  simp only [d0, e1, d1, e2, d2, e3, d3, e4, d4, e5])
 rw [HGET.out] at HN HDEC
 simp only [] at HN HDEC
 have C0 := hD (fun w rb h => getVal_any w rb (some l) h d0 e1)
 have C1 := hD (fun w rb h => getEachQ_any w rb s1 (most := 8) (by omega) (by omega) h d1 e2)
 have C2 := hD (fun w rb h => getEachI_any w rb s2 (most := 5) (by omega) (by omega) h d2 e3)
 have C3 := hD (fun w rb h => getEachP_any w rb s3 (most := 8) (by omega) (by omega) h d3 e4)
 have C4 := hD (fun w rb h => getEachT_any w rb s4 (most := 8) (by omega) (by omega) h d4 e5)
 have k1 : zs.length <= 5 := HN.out.ll
 have k2 : ps.length <= 8 := HN.out.ml
 have k3 : ts.length <= 8 := HN.out.tl
 clear d0 e1 d1 e2 d2 e3 d3 e4 d4 e5 hR HGET
 have HREAD : Hid (∀ wx, Below w.heap.size w wx -> Calls Tryz.prog 24 #[.slice A l.length c] wx fun e w' => ∃ b, e = .returned (.pointer (some ⟨b, 0, none⟩)) /\ RdrAt w' b (some l) /\ wx.heap.size <= b /\ Below wx.heap.size wx w') :=
  hD (fun wx hbx => (read_in (W := wx) (c := c) (by unfold Lim; omega) hb (h.fit.below hbx) (Below.refl _ _)).mono fun e w' ⟨b, h1, h2, h3, h4, h5, h6⟩ => ⟨b, h1, h2, h4, h6⟩)
 have HB0 : Hid (Below w.heap.size w (w.alloc (.cells #[.slice none 0 0, .slice none 0 0, .slice none 0 0, .slice none 0 0, .slice none 0 0] 31))) := hD ((Below.refl _ _).alloc lR _)
 have HK0 := hD (Blk.new w 31 #[.slice none 0 0, .slice none 0 0, .slice none 0 0, .slice none 0 0, .slice none 0 0])
 clear h hb hl
 go_enter Tryz.func26, Tryz.ntmps26
 go_upto_region 3 with (first
  | (go_at_call 24; refine (HREAD.out _ HB0.out).mono ?_; rintro en w1 ⟨rb, rfl, hr1, hrb, hb1⟩)
  | fail)
 have hsz : w.heap.size + 1 <= rb := by simpa using hrb
 have hlt1 : rb < w1.heap.size := hr1.lt
 have HB1 : Hid (Below w.heap.size w w1) := hD (HB0.out.trans (hb1.mono HB0.out.size))
 have bb : Below w1.heap.size w1 (w1.alloc (.cells #[.slice none 0 0, .slice none 0 0, .slice none 0 0, .slice none 0 0, .slice none 0 0] 31)) := (Below.refl _ _).alloc lR _
 have HD : Hid (DcSt w w1 (w1.alloc (.cells #[.slice none 0 0, .slice none 0 0, .slice none 0 0, .slice none 0 0, .slice none 0 0] 31)) rb w1.heap.size ⟨⟨none, 0, none, 0, none, 0, none, 0⟩, none, 0⟩ Mc.zero (some l)) :=
  hD ⟨(HK0.out.below hb1).below bb, Blk.new _ _ _, OwnM.zero _ _, ⟨hr1.below bb, only_below (only_refl rb w1) bb lR⟩⟩
 obtain ⟨g2, hg2⟩ : ∃ x, w1.heap.size = x := ⟨_, rfl⟩
 rw [hg2] at HD
 rw [hg2]
 have HG2 : Hid (w1.heap.size <= g2) := hD (by omega)
 have HN0 : Hid (w.heap.size ≠ rb) := hD (by omega)
 have HN2 : Hid (g2 ≠ rb) := hD (by omega)
 have HN1 : Hid (w.heap.size ≠ g2) := hD (by omega)
 have HRB : Hid (rb < w1.heap.size) := hD hlt1
 have HRW : Hid (w.heap.size <= rb) := hD (by omega)
 have HZ1 : Hid (w.heap.size <= w1.heap.size) := hD (by omega)
 clear hr1 hrb hb1 bb hsz hlt1 hg2 HREAD HB0 HK0
 generalize w1.alloc (.cells #[.slice none 0 0, .slice none 0 0, .slice none 0 0, .slice none 0 0, .slice none 0 0] 31) = wx0 at HD |-
 have HDX := HD
 go_upto_region 4 with (first
  | (go_at_call 54; refine (C0.out _ _ HD.out.rd.r).mono ?_; rintro en w2 ⟨A0, c0, rfl, hv, hr, ho⟩
     have HDC := hD (HD.out.call HRB.out HN0.out HN2.out hr ho)
     have HOW : Hid (OwnM w1 w2 ⟨⟨A0, c0, none, 0, none, 0, none, 0⟩, none, 0⟩ ⟨⟨v0, [], [], []⟩, []⟩) := hD ⟨⟨own_of HDX.out.rd.size hv, HDC.out.own.o.o1, HDC.out.own.o.o2, HDC.out.own.o.o3⟩, HDC.out.own.t⟩
     obtain ⟨x0, x1, x2, x3, x4⟩ := five HDC.out.blk
     obtain ⟨f0, f1, f2, f3, f4⟩ := five_frozen HDC.out.blk
     clear hv hr ho C0)
  | fail)
 have HD : Hid (DcSt w w1 (w2.setCell ⟨g2, 0, none⟩ (.slice A0 v0.length c0)) rb g2 ⟨⟨A0, c0, none, 0, none, 0, none, 0⟩, none, 0⟩ ⟨⟨v0, [], [], []⟩, []⟩ s1) := hD (HDC.out.put HOW.out HN1.out HG2.out rfl)
 clear HDC HOW HDX x0 x1 x2 x3 x4 f0 f1 f2 f3 f4
 generalize w2.setCell ⟨g2, 0, none⟩ (.slice A0 v0.length c0) = wx1 at HD |-
 have HDX := HD
 go_upto_region 5 with (first
  | (go_at_call 55; refine (C1.out _ _ HD.out.rd.r).mono ?_; rintro en w2 ⟨A1, c1, rfl, hv, hr, ho⟩
     have HDC := hD (HD.out.call HRB.out HN0.out HN2.out hr ho)
     have HOW : Hid (OwnM w1 w2 ⟨⟨A0, c0, A1, c1, none, 0, none, 0⟩, none, 0⟩ ⟨⟨v0, qs, [], []⟩, []⟩) := hD ⟨⟨HDC.out.own.o.o0, hv.of HDX.out.rd.size, HDC.out.own.o.o2, HDC.out.own.o.o3⟩, HDC.out.own.t⟩
     obtain ⟨x0, x1, x2, x3, x4⟩ := five HDC.out.blk
     obtain ⟨f0, f1, f2, f3, f4⟩ := five_frozen HDC.out.blk
     clear hv hr ho C1)
  | fail)
 have HD : Hid (DcSt w w1 (w2.setCell ⟨g2, 1, none⟩ (.slice A1 qs.length c1)) rb g2 ⟨⟨A0, c0, A1, c1, none, 0, none, 0⟩, none, 0⟩ ⟨⟨v0, qs, [], []⟩, []⟩ s2) := hD (HDC.out.put HOW.out HN1.out HG2.out rfl)
 clear HDC HOW HDX x0 x1 x2 x3 x4 f0 f1 f2 f3 f4
 generalize w2.setCell ⟨g2, 1, none⟩ (.slice A1 qs.length c1) = wx2 at HD |-
 have HDX := HD
 go_upto_region 6 with (first
  | (go_at_call 56; refine (C2.out _ _ HD.out.rd.r).mono ?_; rintro en w2 ⟨A2, c2, rfl, hv, hr, ho⟩
     have HDC := hD (HD.out.call HRB.out HN0.out HN2.out hr ho)
     have HOW : Hid (OwnM w1 w2 ⟨⟨A0, c0, A1, c1, A2, c2, none, 0⟩, none, 0⟩ ⟨⟨v0, qs, zs, []⟩, []⟩) := hD ⟨⟨HDC.out.own.o.o0, HDC.out.own.o.o1, own_of HDX.out.rd.size hv, HDC.out.own.o.o3⟩, HDC.out.own.t⟩
     obtain ⟨x0, x1, x2, x3, x4⟩ := five HDC.out.blk
     obtain ⟨f0, f1, f2, f3, f4⟩ := five_frozen HDC.out.blk
     clear hv hr ho C2)
  | fail)
 have HD : Hid (DcSt w w1 (w2.setCell ⟨g2, 2, none⟩ (.slice A2 zs.length c2)) rb g2 ⟨⟨A0, c0, A1, c1, A2, c2, none, 0⟩, none, 0⟩ ⟨⟨v0, qs, zs, []⟩, []⟩ s3) := hD (HDC.out.put HOW.out HN1.out HG2.out rfl)
 clear HDC HOW HDX x0 x1 x2 x3 x4 f0 f1 f2 f3 f4
 generalize w2.setCell ⟨g2, 2, none⟩ (.slice A2 zs.length c2) = wx3 at HD |-
 have HDX := HD
 go_upto_region 7 with (first
  | (go_at_call 58; refine (C3.out _ _ HD.out.rd.r).mono ?_; rintro en w2 ⟨A3, c3, rfl, hv, hr, ho⟩
     have HDC := hD (HD.out.call HRB.out HN0.out HN2.out hr ho)
     have HOW : Hid (OwnM w1 w2 ⟨⟨A0, c0, A1, c1, A2, c2, A3, c3⟩, none, 0⟩ ⟨⟨v0, qs, zs, ps⟩, []⟩) := hD ⟨⟨HDC.out.own.o.o0, HDC.out.own.o.o1, HDC.out.own.o.o2, hv.of HDX.out.rd.size⟩, HDC.out.own.t⟩
     obtain ⟨x0, x1, x2, x3, x4⟩ := five HDC.out.blk
     obtain ⟨f0, f1, f2, f3, f4⟩ := five_frozen HDC.out.blk
     clear hv hr ho C3)
  | fail)
 have HD : Hid (DcSt w w1 (w2.setCell ⟨g2, 3, none⟩ (.slice A3 ps.length c3)) rb g2 ⟨⟨A0, c0, A1, c1, A2, c2, A3, c3⟩, none, 0⟩ ⟨⟨v0, qs, zs, ps⟩, []⟩ s4) := hD (HDC.out.put HOW.out HN1.out HG2.out rfl)
 clear HDC HOW HDX x0 x1 x2 x3 x4 f0 f1 f2 f3 f4
 generalize w2.setCell ⟨g2, 3, none⟩ (.slice A3 ps.length c3) = wx4 at HD |-
 have HDX := HD
 go_upto_region 8 with (first
  | (go_at_call 60; refine (C4.out _ _ HD.out.rd.r).mono ?_; rintro en w2 ⟨A4, c4, rfl, hv, hr, ho⟩
     have HDC := hD (HD.out.call HRB.out HN0.out HN2.out hr ho)
     have HOW : Hid (OwnM w1 w2 ⟨⟨A0, c0, A1, c1, A2, c2, A3, c3⟩, A4, c4⟩ ⟨⟨v0, qs, zs, ps⟩, ts⟩) := hD ⟨HDC.out.own.o, hv.of HDX.out.rd.size⟩
     obtain ⟨x0, x1, x2, x3, x4⟩ := five HDC.out.blk
     obtain ⟨f0, f1, f2, f3, f4⟩ := five_frozen HDC.out.blk
     clear hv hr ho C4)
  | fail)
 have HD : Hid (DcSt w w1 (w2.setCell ⟨g2, 4, none⟩ (.slice A4 ts.length c4)) rb g2 ⟨⟨A0, c0, A1, c1, A2, c2, A3, c3⟩, A4, c4⟩ ⟨⟨v0, qs, zs, ps⟩, ts⟩ s5) := hD (HDC.out.put HOW.out HN1.out HG2.out rfl)
 clear HDC HOW HDX x0 x1 x2 x3 x4 f0 f1 f2 f3 f4
 generalize w2.setCell ⟨g2, 4, none⟩ (.slice A4 ts.length c4) = wx5 at HD |-
 have HBX : Hid (Below w.heap.size w wx5) := hD (below_only HB1.out HD.out.rd.only HRW.out)
 have HOWN : Hid (OwnM w wx5 ⟨⟨A0, c0, A1, c1, A2, c2, A3, c3⟩, A4, c4⟩ ⟨⟨v0, qs, zs, ps⟩, ts⟩) := hD (HD.out.own.of HZ1.out)
 have HRES := hD HD.out.res
 have HBLK := hD HD.out.blk
 have HRDR := hD HD.out.rd.r
 unfold machC at HBLK
 have hq2 : OwnI w wx5 A2 zs.length c2 zs := HOWN.out.o.o2
 have CE := hD (end_any _ _ _ HRDR.out)
 have CO := hD (isOnce_any wx5 (c := c2) (Rd.own_ hq2) (by omega) (own_cap hq2).1)
 have CP : Hid (∀ wy, Below wx5.heap.size wx5 wy -> Calls Tryz.prog 63 #[.slice A3 ps.length c3, .func (.func 64) #[] #[]] wy fun e w' => e = .returned (.bool (okP ps)) /\ Below wy.heap.size wy w') :=
  hD (fun wy hb => isRisingP_any wy (fun p hp => (HN.out.mp p hp).2.1) (HOWN.out.o.o3.rd.below hb) (by have := HN.out.ml; simp only [] at this; omega))
 have CT : Hid (∀ wy, Below wx5.heap.size wx5 wy -> Calls Tryz.prog 65 #[.slice A4 ts.length c4] wy fun e w' => e = .returned (.bool (okT ts)) /\ Below wy.heap.size wy w') :=
  hD (fun wy hb => isTable_any wy (fun t ht => ⟨(HN.out.t t ht).1.2.1, (HN.out.t t ht).1.2.2.2⟩) (by have := HN.out.tl; simp only [] at this; omega) (HOWN.out.t.rd.below hb))
 have HWF : Hid (R = if (decide zs.Nodup && okP ps && okT ts) = true /\ s5 = some [] then some ⟨⟨v0, qs, zs, ps⟩, ts⟩ else none) := HDEC
 obtain ⟨E, hE⟩ : ∃ E, Pk.endOf s5 = E := ⟨_, rfl⟩
 have HE : Hid (E = true ↔ s5 = some []) := hD (by rw [<- hE]; unfold Pk.endOf; exact decide_eq_true_iff)
 rw [hE] at CE
 obtain ⟨O, hO⟩ : ∃ O : Bool, decide zs.Nodup = O := ⟨_, rfl⟩
 rw [hO] at CO HWF
 obtain ⟨P, hP⟩ : ∃ P, okP ps = P := ⟨_, rfl⟩
 rw [hP] at CP HWF
 obtain ⟨T, hT⟩ : ∃ T, okT ts = T := ⟨_, rfl⟩
 rw [hT] at CT HWF
 clear hE hO hP hT HDEC HN hq2 k1 k2 k3
 cases E with
 | false =>
   go_upto_region 9 with (first
    | (go_at_call 29; refine CE.out.mono ?_; rintro en wq ⟨rfl, rfl⟩; obtain ⟨x0, x1, x2, x3, x4⟩ := five HBLK.out)
    | (go_at_call 62; refine CO.out.mono ?_; rintro en wq ⟨rfl, rfl⟩)
    | (go_at_call 63; refine (CP.out _ (Below.refl _ _)).mono ?_; rintro en w6 ⟨rfl, hb6⟩; obtain ⟨x0, x1, x2, x3, x4⟩ := five (HBLK.out.below hb6); have HB6 := hD hb6; clear hb6)
    | (go_at_call 65; refine (CT.out _ HB6.out).mono ?_; rintro en w7 ⟨rfl, hb7⟩; have HB7 := hD (HB6.out.trans (hb7.mono HB6.out.size)); clear hb7)
    | fail)
   have HRF : Hid (R = none) := hD (by rw [HWF.out, if_neg (by rw [<- HE.out]; simp)])
   obtain ⟨y0, y1, y2, y3, y4⟩ := five (HRES.out)
   obtain ⟨f0, f1, f2, f3, f4⟩ := five_frozen (HRES.out)
   go_wp2_with fail
   obtain ⟨p1, p2, p3⟩ := dec_end (HRES.out) (HBX.out) (OwnM.zero w _)
   refine bodyPost_ret (results_cell_tmp rfl _ _ _ _ _ _ rfl p1 Tryz.underlying31 rfl (by kernel_rfl)) rfl ?_
   rw [HRF.out]
   exact ⟨_, rfl, p2, p3, p3⟩
 | true =>
 cases O with
 | false =>
   go_upto_region 9 with (first
    | (go_at_call 29; refine CE.out.mono ?_; rintro en wq ⟨rfl, rfl⟩; obtain ⟨x0, x1, x2, x3, x4⟩ := five HBLK.out)
    | (go_at_call 62; refine CO.out.mono ?_; rintro en wq ⟨rfl, rfl⟩)
    | (go_at_call 63; refine (CP.out _ (Below.refl _ _)).mono ?_; rintro en w6 ⟨rfl, hb6⟩; obtain ⟨x0, x1, x2, x3, x4⟩ := five (HBLK.out.below hb6); have HB6 := hD hb6; clear hb6)
    | (go_at_call 65; refine (CT.out _ HB6.out).mono ?_; rintro en w7 ⟨rfl, hb7⟩; have HB7 := hD (HB6.out.trans (hb7.mono HB6.out.size)); clear hb7)
    | fail)
   have HRF : Hid (R = none) := hD (by rw [HWF.out, if_neg (by rw [<- HE.out]; simp)])
   obtain ⟨y0, y1, y2, y3, y4⟩ := five (HRES.out)
   obtain ⟨f0, f1, f2, f3, f4⟩ := five_frozen (HRES.out)
   go_wp2_with fail
   obtain ⟨p1, p2, p3⟩ := dec_end (HRES.out) (HBX.out) (OwnM.zero w _)
   refine bodyPost_ret (results_cell_tmp rfl _ _ _ _ _ _ rfl p1 Tryz.underlying31 rfl (by kernel_rfl)) rfl ?_
   rw [HRF.out]
   exact ⟨_, rfl, p2, p3, p3⟩
 | true =>
 cases P with
 | false =>
   go_upto_region 9 with (first
    | (go_at_call 29; refine CE.out.mono ?_; rintro en wq ⟨rfl, rfl⟩; obtain ⟨x0, x1, x2, x3, x4⟩ := five HBLK.out)
    | (go_at_call 62; refine CO.out.mono ?_; rintro en wq ⟨rfl, rfl⟩)
    | (go_at_call 63; refine (CP.out _ (Below.refl _ _)).mono ?_; rintro en w6 ⟨rfl, hb6⟩; obtain ⟨x0, x1, x2, x3, x4⟩ := five (HBLK.out.below hb6); have HB6 := hD hb6; clear hb6)
    | (go_at_call 65; refine (CT.out _ HB6.out).mono ?_; rintro en w7 ⟨rfl, hb7⟩; have HB7 := hD (HB6.out.trans (hb7.mono HB6.out.size)); clear hb7)
    | fail)
   have HRF : Hid (R = none) := hD (by rw [HWF.out, if_neg (by rw [<- HE.out]; simp)])
   obtain ⟨y0, y1, y2, y3, y4⟩ := five (HRES.out.below HB6.out)
   obtain ⟨f0, f1, f2, f3, f4⟩ := five_frozen (HRES.out.below HB6.out)
   go_wp2_with fail
   obtain ⟨p1, p2, p3⟩ := dec_end (HRES.out.below HB6.out) (HBX.out.trans (HB6.out.mono HBX.out.size)) (OwnM.zero w _)
   refine bodyPost_ret (results_cell_tmp rfl _ _ _ _ _ _ rfl p1 Tryz.underlying31 rfl (by kernel_rfl)) rfl ?_
   rw [HRF.out]
   exact ⟨_, rfl, p2, p3, p3⟩
 | true =>
 cases T with
 | false =>
   go_upto_region 9 with (first
    | (go_at_call 29; refine CE.out.mono ?_; rintro en wq ⟨rfl, rfl⟩; obtain ⟨x0, x1, x2, x3, x4⟩ := five HBLK.out)
    | (go_at_call 62; refine CO.out.mono ?_; rintro en wq ⟨rfl, rfl⟩)
    | (go_at_call 63; refine (CP.out _ (Below.refl _ _)).mono ?_; rintro en w6 ⟨rfl, hb6⟩; obtain ⟨x0, x1, x2, x3, x4⟩ := five (HBLK.out.below hb6); have HB6 := hD hb6; clear hb6)
    | (go_at_call 65; refine (CT.out _ HB6.out).mono ?_; rintro en w7 ⟨rfl, hb7⟩; have HB7 := hD (HB6.out.trans (hb7.mono HB6.out.size)); clear hb7)
    | fail)
   have HRF : Hid (R = none) := hD (by rw [HWF.out, if_neg (by rw [<- HE.out]; simp)])
   obtain ⟨y0, y1, y2, y3, y4⟩ := five (HRES.out.below HB7.out)
   obtain ⟨f0, f1, f2, f3, f4⟩ := five_frozen (HRES.out.below HB7.out)
   go_wp2_with fail
   obtain ⟨p1, p2, p3⟩ := dec_end (HRES.out.below HB7.out) (HBX.out.trans (HB7.out.mono HBX.out.size)) (OwnM.zero w _)
   refine bodyPost_ret (results_cell_tmp rfl _ _ _ _ _ _ rfl p1 Tryz.underlying31 rfl (by kernel_rfl)) rfl ?_
   rw [HRF.out]
   exact ⟨_, rfl, p2, p3, p3⟩
 | true =>
   go_upto_region 10 with (first
    | (go_at_call 29; refine CE.out.mono ?_; rintro en wq ⟨rfl, rfl⟩; obtain ⟨x0, x1, x2, x3, x4⟩ := five HBLK.out)
    | (go_at_call 62; refine CO.out.mono ?_; rintro en wq ⟨rfl, rfl⟩)
    | (go_at_call 63; refine (CP.out _ (Below.refl _ _)).mono ?_; rintro en w6 ⟨rfl, hb6⟩; obtain ⟨x0, x1, x2, x3, x4⟩ := five (HBLK.out.below hb6); have HB6 := hD hb6; clear hb6)
    | (go_at_call 65; refine (CT.out _ HB6.out).mono ?_; rintro en w7 ⟨rfl, hb7⟩; have HB7 := hD (HB6.out.trans (hb7.mono HB6.out.size)); clear hb7)
    | fail)
   have HRF : Hid (R = some ⟨⟨v0, qs, zs, ps⟩, ts⟩) := hD (by rw [HWF.out, if_pos ⟨rfl, HE.out.1 (by trivial)⟩])
   obtain ⟨y0, y1, y2, y3, y4⟩ := five (HRES.out.below HB7.out)
   obtain ⟨f0, f1, f2, f3, f4⟩ := five_frozen (HRES.out.below HB7.out)
   obtain ⟨z0, z1, z2, z3, z4⟩ := five (HBLK.out.below HB7.out)
   go_wp2_with fail
   obtain ⟨p1, p2, p3⟩ := dec_end (HRES.out.below HB7.out) (HBX.out.trans (HB7.out.mono HBX.out.size)) (HOWN.out.below HB7.out)
   refine bodyPost_ret (results_cell_tmp rfl _ _ _ _ _ _ rfl p1 Tryz.underlying31 rfl (by kernel_rfl)) rfl ?_
   rw [HRF.out]
   exact ⟨_, rfl, p2, p3, p3⟩
theorem decode10 : DecodeC10 := fun hl hb hn hc h hB => (decode_raw hl hb h).mono fun e w' h => GotMB.of hB h
deriving instance DecidableEq for Sb
set_option maxHeartbeats 4000000 in
set_option maxRecDepth 100000 in
theorem refSame15 (w : World) {a a' : SA} {s s' : Sb} {B B' : Nat} (hm : s.m.Ok) (hm' : s'.m.Ok) (hf : ∀ e ∈ s.rest, e.c.Fits) (hf' : ∀ e ∈ s'.rest, e.c.Fits) (hn : s.rest.length <= 1000000) (h : RdS w B a s) (h' : RdS w B' a' s') :
 Calls Tryz.prog 13 #[stateV a s, stateV a' s'] w fun e w' => e = .returned (.bool (decide (s = s'))) /\ Below w.heap.size w w' := by
 obtain ⟨⟨⟨A0, C0, A1, C1, A2, C2, A3, C3⟩, At, Ct⟩, Ar, Cr⟩ := a
 obtain ⟨⟨⟨D0, E0, D1, E1, D2, E2, D3, E3⟩, Dt, Et⟩, Dr, Er⟩ := a'
 obtain ⟨p, m, es⟩ := s
 obtain ⟨p', m', es'⟩ := s'
 simp only at hm hm' hf hf' hn
 obtain ⟨sm, hsm⟩ : ∃ x, decide (m = m') = x := ⟨_, rfl⟩
 obtain ⟨se, hse⟩ : ∃ x, decide (es = es') = x := ⟨_, rfl⟩
 have CM : Hid (∀ W : World, Below w.heap.size w W -> Calls Tryz.prog 15 #[.agg #[.slice A0 m.o.reg.length C0, .slice A1 m.o.q.length C1, .slice A2 m.o.lk.length C2, .slice A3 m.o.mp.length C3, .slice At m.t.length Ct], .agg #[.slice D0 m'.o.reg.length E0, .slice D1 m'.o.q.length E1, .slice D2 m'.o.lk.length E2, .slice D3 m'.o.mp.length E3, .slice Dt m'.t.length Et]] W fun e w' => e = .returned (.bool sm) /\ Below W.heap.size W w') := hD (fun W hW => by
  rw [<- hsm]
  exact refSame_any W (a := ⟨⟨A0, C0, A1, C1, A2, C2, A3, C3⟩, At, Ct⟩) (a' := ⟨⟨D0, E0, D1, E1, D2, E2, D3, E3⟩, Dt, Et⟩) hm hm' (RdM.below (RdM.fit h.m) hW) (RdM.below (RdM.fit h'.m) hW))
 have CE : Hid (∀ W : World, Below w.heap.size w W -> Calls Tryz.prog 42 #[.slice Ar es.length Cr, .slice Dr es'.length Er] W fun e w' => e = .returned (.bool se) /\ Below W.heap.size W w') := hD (fun W hW => by
  rw [<- hse]
  exact refSameEntries W hf hf' (h.fit.r.below hW) (h'.fit.r.below hW) hn)
 have HFIN : Hid (decide ((⟨p, m, es⟩ : Sb) = ⟨p', m', es'⟩) = (decide (p = p') && (sm && se))) := hD (by
  rw [<- hsm, <- hse]
  simp only [Sb.mk.injEq, Bool.decide_and])
 clear h h' hsm hse hm hm' hf hf'
 obtain ⟨g, hg⟩ : ∃ g, w.heap.size = g := ⟨_, rfl⟩
 have k0 : Blk ((w.alloc (.cells #[.int .i64 p, .slice A0 m.o.reg.length C0, .slice A1 m.o.q.length C1, .slice A2 m.o.lk.length C2, .slice A3 m.o.mp.length C3, .slice At m.t.length Ct, .slice Ar es.length Cr] 34)).alloc (.cells #[.int .i64 p', .slice D0 m'.o.reg.length E0, .slice D1 m'.o.q.length E1, .slice D2 m'.o.lk.length E2, .slice D3 m'.o.mp.length E3, .slice Dt m'.t.length Et, .slice Dr es'.length Er] 34)) w.heap.size 34 #[.int .i64 p, .slice A0 m.o.reg.length C0, .slice A1 m.o.q.length C1, .slice A2 m.o.lk.length C2, .slice A3 m.o.mp.length C3, .slice At m.t.length Ct, .slice Ar es.length Cr] := (Blk.new w 34 _).alloc _
 have k1 : Blk ((w.alloc (.cells #[.int .i64 p, .slice A0 m.o.reg.length C0, .slice A1 m.o.q.length C1, .slice A2 m.o.lk.length C2, .slice A3 m.o.mp.length C3, .slice At m.t.length Ct, .slice Ar es.length Cr] 34)).alloc (.cells #[.int .i64 p', .slice D0 m'.o.reg.length E0, .slice D1 m'.o.q.length E1, .slice D2 m'.o.lk.length E2, .slice D3 m'.o.mp.length E3, .slice Dt m'.t.length Et, .slice Dr es'.length Er] 34)) (w.heap.size + 1) 34 #[.int .i64 p', .slice D0 m'.o.reg.length E0, .slice D1 m'.o.q.length E1, .slice D2 m'.o.lk.length E2, .slice D3 m'.o.mp.length E3, .slice Dt m'.t.length Et, .slice Dr es'.length Er] := by
  have := Blk.new (w.alloc (.cells #[.int .i64 p, .slice A0 m.o.reg.length C0, .slice A1 m.o.q.length C1, .slice A2 m.o.lk.length C2, .slice A3 m.o.mp.length C3, .slice At m.t.length Ct, .slice Ar es.length Cr] 34)) 34 #[.int .i64 p', .slice D0 m'.o.reg.length E0, .slice D1 m'.o.q.length E1, .slice D2 m'.o.lk.length E2, .slice D3 m'.o.mp.length E3, .slice Dt m'.t.length Et, .slice Dr es'.length Er]
  rwa [World.size_alloc] at this
 have bb : Below w.heap.size w ((w.alloc (.cells #[.int .i64 p, .slice A0 m.o.reg.length C0, .slice A1 m.o.q.length C1, .slice A2 m.o.lk.length C2, .slice A3 m.o.mp.length C3, .slice At m.t.length Ct, .slice Ar es.length Cr] 34)).alloc (.cells #[.int .i64 p', .slice D0 m'.o.reg.length E0, .slice D1 m'.o.q.length E1, .slice D2 m'.o.lk.length E2, .slice D3 m'.o.mp.length E3, .slice Dt m'.t.length Et, .slice Dr es'.length Er] 34)) := ((Below.refl _ _).alloc lR _).alloc (by rw [World.size_alloc]; omega) _
 have HK0 := hD k0
 have HK1 := hD k1
 have HB := hD bb
 clear k0 k1 bb
 unfold stateV stateC
 simp only
 go_enter Tryz.func13, Tryz.ntmps13
 go_upto_region 1 with fail
 generalize ((w.alloc (.cells #[.int .i64 p, .slice A0 m.o.reg.length C0, .slice A1 m.o.q.length C1, .slice A2 m.o.lk.length C2, .slice A3 m.o.mp.length C3, .slice At m.t.length Ct, .slice Ar es.length Cr] 34)).alloc (.cells #[.int .i64 p', .slice D0 m'.o.reg.length E0, .slice D1 m'.o.q.length E1, .slice D2 m'.o.lk.length E2, .slice D3 m'.o.mp.length E3, .slice Dt m'.t.length Et, .slice Dr es'.length Er] 34)) = wx at HK0 HK1 HB |-
 rw [hg] at HK0 HK1
 obtain ⟨g1, hg1⟩ : ∃ g1, g + 1 = g1 := ⟨_, rfl⟩
 rw [hg1] at HK1 |-
 clear hg1
 have HG := hD hg
 clear hg
 obtain ⟨x0, x1, x2, x3, x4, x5, x6⟩ := seven HK0.out
 obtain ⟨y0, y1, y2, y3, y4, y5, y6⟩ := seven HK1.out
 obtain ⟨q, hq⟩ : ∃ q, decide (p = p') = q := ⟨_, rfl⟩
 have hq' : (p == p') = q := by rw [<- hq]; by_cases h : p = p' <;> simp [h]
 rw [hq] at HFIN
 clear hq
 cases q with
 | false =>
   go_wp2_with fail
   go_ret
   exact ⟨by rw [HFIN.out]; rfl, HB.out⟩
 | true =>
   cases sm with
   | false =>
     go_wp2_with (first
      | (go_at_call 15; refine (CM.out _ HB.out).mono ?_; rintro en w2 ⟨rfl, hb2⟩)
      | fail)
     go_ret
     exact ⟨by rw [HFIN.out]; rfl, HB.out.trans (hb2.mono HB.out.size)⟩
   | true =>
     go_wp2_with (first
      | (go_at_call 15; refine (CM.out _ HB.out).mono ?_; rintro en w2 ⟨rfl, hb2⟩
         have HB2 := hD (HB.out.trans (hb2.mono HB.out.size))
         obtain ⟨x0', x1', x2', x3', x4', x5', x6'⟩ := seven (HK0.out.below hb2)
         obtain ⟨y0', y1', y2', y3', y4', y5', y6'⟩ := seven (HK1.out.below hb2))
      | (go_at_call 42; refine (CE.out _ HB2.out).mono ?_; rintro en w3 ⟨rfl, hb3⟩)
      | fail)
     go_ret
     exact ⟨by rw [HFIN.out]; simp, HB2.out.trans (hb3.mono HB2.out.size)⟩
end Go.Proofs.YtmekamgohonffaaGreat
