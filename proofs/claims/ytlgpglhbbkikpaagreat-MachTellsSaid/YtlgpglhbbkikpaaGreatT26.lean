/- MachDecode ObjsEq ObjsSame MachSameC MachCode -/
import Derived.Test.YtlgpglhbbkikpaaGreatT0H
import Derived.Test.YtlgpglhbbkikpaaGreatT00
import Derived.Test.YtlgpglhbbkikpaaGreatT10
import Derived.Test.YtlgpglhbbkikpaaGreatT17
import Derived.Test.YtlgpglhbbkikpaaGreatT19
import Derived.Test.YtlgpglhbbkikpaaGreatT23
import Derived.Test.YtlgpglhbbkikpaaGreatT25
import Derived.Deep.CutBlock
import Derived.BigQuiet
import Derived.Deep.QuietTactic
import Derived.WalkSmall
namespace Go.Proofs.YtlgpglhbbkikpaaGreat
open Go.RowKit
set_option linter.unusedVariables false
structure DcSt (w w1 wx : World) (rb g2 : Nat) (a : MA) (m : Mc) (s : Pk.St) : Prop where
 res : Blk wx w.heap.size 36 #[.slice none 0 0, .slice none 0 0, .slice none 0 0, .slice none 0 0, .slice none 0 0]
 blk : Blk wx g2 36 (machC a m)
 own : OwnM w1 wx a m
 rd : RgSt w1 wx rb s
section
variable {w w1 wx wy : World} {rb g2 : Nat} {a : MA} {m : Mc} {s s' : Pk.St}
theorem DcSt.call (h : DcSt w w1 wx rb g2 a m s) (hb : rb < w1.heap.size) (h0 : w.heap.size ≠ rb) (h2 : g2 ≠ rb) (hr : RdrAt wy rb s') (ho : Only rb wx wy) : DcSt w w1 wy rb g2 a m s' :=
 ⟨h.res.grown ho (by simpa using h0), h.blk.grown ho (by simpa using h2), h.own.old ho (Old.some hb), h.rd.call hr ho⟩
theorem DcSt.put {a' : MA} {m' : Mc} {i : Nat} {u : Value} (h : DcSt w w1 wx rb g2 a m s) (ho : OwnM w1 wx a' m') (h0 : w.heap.size ≠ g2) (hg : w1.heap.size <= g2) (hc : (machC a m).setIfInBounds i u = machC a' m') : DcSt w w1 (wx.setCell ⟨g2, i, none⟩ u) rb g2 a' m' s :=
 ⟨h.res.set_other h0, hc ▸ h.blk.set_ i u, ho.set_t h.blk (by decide) (by decide) (by decide) (by decide) (by decide), h.rd.set h.blk (by decide) (by decide) hg⟩
end
theorem dec_end {w wx : World} (hk : Blk wx w.heap.size 36 #[.slice none 0 0, .slice none 0 0, .slice none 0 0, .slice none 0 0, .slice none 0 0]) (hB : Below w.heap.size w wx) {a : MA} {m : Mc} (ho : OwnM w wx a m) :
 let wy := (((((wx.setCell ⟨w.heap.size, 0, none⟩ (.slice a.o.A0 m.o.reg.length a.o.c0)).setCell ⟨w.heap.size, 1, none⟩ (.slice a.o.A1 m.o.q.length a.o.c1)).setCell ⟨w.heap.size, 2, none⟩ (.slice a.o.A2 m.o.lk.length a.o.c2)).setCell ⟨w.heap.size, 3, none⟩ (.slice a.o.A3 m.o.mp.length a.o.c3)).setCell ⟨w.heap.size, 4, none⟩ (.slice a.At m.t.length a.ct))
 Blk wy w.heap.size 36 (machC a m) /\ OwnM w wy a m /\ Below w.heap.size w wy := by
 intro wy
 obtain ⟨k1, k2, k3, _, _⟩ := put5 hk (.slice a.o.A0 m.o.reg.length a.o.c0) (.slice a.o.A1 m.o.q.length a.o.c1) (.slice a.o.A2 m.o.lk.length a.o.c2) (.slice a.o.A3 m.o.mp.length a.o.c3) (.slice a.At m.t.length a.ct)
 exact ⟨k1, k3 w a m ho (by decide) (by decide) (by decide) (by decide) (by decide), k2 w lR hB⟩
set_option maxHeartbeats 8000000 in
set_option maxRecDepth 100000 in
theorem decode_raw {w : World} {A : Option Addr} {n c B : Nat} {l : List Nat} (hl : l.length <= 100000) (hb : ∀ x ∈ l, x < 256) (h : Rd w B A n (bv l)) :
 Calls Tryz.prog 19 #[.slice A n c] w (GotMB w w (Mc.dec l)) := by
 obtain rfl := h.length
 have HN := zH (Mc.get_near (s := some l) (fun l' hl' => by injection hl' with hl'; subst hl'; exact hb))
 have HDEC : Hid (Mc.dec l = if (Mc.get (some l)).1.wf = true /\ (Mc.get (some l)).2 = some [] then some (Mc.get (some l)).1 else none) := zH rfl
 obtain ⟨R, hR⟩ : ∃ R, Mc.dec l = R := ⟨_, rfl⟩
 rw [hR] at HDEC |-
 -- the names of what is read
 obtain ⟨v0, d0⟩ : ∃ x, Pk.bytV (some l) 16 = x := ⟨_, rfl⟩
 obtain ⟨s1, e1⟩ : ∃ x, Pk.bytS (some l) 16 = x := ⟨_, rfl⟩
 obtain ⟨qs, d1⟩ : ∃ x, (stQ s1).1 = x := ⟨_, rfl⟩
 obtain ⟨s2, e2⟩ : ∃ x, (stQ s1).2 = x := ⟨_, rfl⟩
 obtain ⟨zs, d2⟩ : ∃ x, (stI s2).1 = x := ⟨_, rfl⟩
 obtain ⟨s3, e3⟩ : ∃ x, (stI s2).2 = x := ⟨_, rfl⟩
 obtain ⟨ps, d3⟩ : ∃ x, (stP s3).1 = x := ⟨_, rfl⟩
 obtain ⟨s4, e4⟩ : ∃ x, (stP s3).2 = x := ⟨_, rfl⟩
 obtain ⟨ts, d4⟩ : ∃ x, (stT s4).1 = x := ⟨_, rfl⟩
 obtain ⟨s5, e5⟩ : ∃ x, (stT s4).2 = x := ⟨_, rfl⟩
 have HGET : Hid (Mc.get (some l) = (⟨⟨v0, qs, zs, ps⟩, ts⟩, s5)) := zH (by
  unfold Mc.get getO
  simp only [d0, e1, d1, e2, d2, e3, d3, e4, d4, e5])
 rw [HGET.out] at HN HDEC
 simp only [] at HN HDEC
 have C0 := zH (fun w rb h => getVal_any w rb (some l) h d0 e1)
 have C1 := zH (fun w rb h => getEachQ_any w rb s1 (most := 8) (by omega) (by omega) h d1 e2)
 have C2 := zH (fun w rb h => getEachI_any w rb s2 (most := 5) (by omega) (by omega) h d2 e3)
 have C3 := zH (fun w rb h => getEachP_any w rb s3 (most := 8) (by omega) (by omega) h d3 e4)
 have C4 := zH (fun w rb h => getEachT_any w rb s4 (most := 8) (by omega) (by omega) h d4 e5)
 have k1 : zs.length <= 5 := HN.out.ll
 have k2 : ps.length <= 8 := HN.out.ml
 have k3 : ts.length <= 8 := HN.out.tl
 clear d0 e1 d1 e2 d2 e3 d3 e4 d4 e5 hR HGET
 have HREAD : Hid (∀ wx, Below w.heap.size w wx -> Calls Tryz.prog 12 #[.slice A l.length c] wx fun e w' => ∃ b, e = .returned (.pointer (some ⟨b, 0, none⟩)) /\ RdrAt w' b (some l) /\ wx.heap.size <= b /\ Below wx.heap.size wx w') :=
  zH (fun wx hbx => (read_in (W := wx) (c := c) (by unfold Lim; omega) hb (h.fit.below hbx) (Below.refl _ _)).mono fun e w' ⟨b, h1, h2, h3, h4, h5, h6⟩ => ⟨b, h1, h2, h4, h6⟩)
 have HB0 : Hid (Below w.heap.size w (w.alloc (.cells #[.slice none 0 0, .slice none 0 0, .slice none 0 0, .slice none 0 0, .slice none 0 0] 36))) := zH ((Below.refl _ _).alloc lR _)
 have HK0 := zH (Blk.new w 36 #[.slice none 0 0, .slice none 0 0, .slice none 0 0, .slice none 0 0, .slice none 0 0])
 clear h hb hl
 go_enter Tryz.func19, Tryz.ntmps19
 go_upto_region 3 with (first
  | (go_at_call 12; refine (HREAD.out _ HB0.out).mono ?_; rintro en w1 ⟨rb, rfl, hr1, hrb, hb1⟩)
  | fail)
 have hsz : w.heap.size + 1 <= rb := by simpa using hrb
 have hlt1 : rb < w1.heap.size := hr1.lt
 have HB1 : Hid (Below w.heap.size w w1) := zH (HB0.out.trans (hb1.mono HB0.out.size))
 have bb : Below w1.heap.size w1 (w1.alloc (.cells #[.slice none 0 0, .slice none 0 0, .slice none 0 0, .slice none 0 0, .slice none 0 0] 36)) := (Below.refl _ _).alloc lR _
 have HD : Hid (DcSt w w1 (w1.alloc (.cells #[.slice none 0 0, .slice none 0 0, .slice none 0 0, .slice none 0 0, .slice none 0 0] 36)) rb w1.heap.size ⟨⟨none, 0, none, 0, none, 0, none, 0⟩, none, 0⟩ Mc.zero (some l)) :=
  zH ⟨(HK0.out.below hb1).below bb, Blk.new _ _ _, OwnM.zero _ _, ⟨hr1.below bb, only_below (only_refl rb w1) bb lR⟩⟩
 obtain ⟨g2, hg2⟩ : ∃ x, w1.heap.size = x := ⟨_, rfl⟩
 rw [hg2] at HD
 rw [hg2]
 have HG2 : Hid (w1.heap.size <= g2) := zH (by omega)
 have HN0 : Hid (w.heap.size ≠ rb) := zH (by omega)
 have HN2 : Hid (g2 ≠ rb) := zH (by omega)
 have HN1 : Hid (w.heap.size ≠ g2) := zH (by omega)
 have HRB : Hid (rb < w1.heap.size) := zH hlt1
 have HRW : Hid (w.heap.size <= rb) := zH (by omega)
 have HZ1 : Hid (w.heap.size <= w1.heap.size) := zH (by omega)
 clear hr1 hrb hb1 bb hsz hlt1 hg2 HREAD HB0 HK0
 generalize w1.alloc (.cells #[.slice none 0 0, .slice none 0 0, .slice none 0 0, .slice none 0 0, .slice none 0 0] 36) = wx0 at HD |-
 have HDX := HD
 go_upto_region 4 with (first
  | (go_at_call 47; refine (C0.out _ _ HD.out.rd.r).mono ?_; rintro en w2 ⟨A0, c0, rfl, hv, hr, ho⟩
     have HDC := zH (HD.out.call HRB.out HN0.out HN2.out hr ho)
     have HOW : Hid (OwnM w1 w2 ⟨⟨A0, c0, none, 0, none, 0, none, 0⟩, none, 0⟩ ⟨⟨v0, [], [], []⟩, []⟩) := zH ⟨⟨own_of HDX.out.rd.size hv, HDC.out.own.o.o1, HDC.out.own.o.o2, HDC.out.own.o.o3⟩, HDC.out.own.t⟩
     obtain ⟨x0, x1, x2, x3, x4⟩ := five HDC.out.blk
     obtain ⟨f0, f1, f2, f3, f4⟩ := five_frozen HDC.out.blk
     clear hv hr ho C0)
  | fail)
 have HD : Hid (DcSt w w1 (w2.setCell ⟨g2, 0, none⟩ (.slice A0 v0.length c0)) rb g2 ⟨⟨A0, c0, none, 0, none, 0, none, 0⟩, none, 0⟩ ⟨⟨v0, [], [], []⟩, []⟩ s1) := zH (HDC.out.put HOW.out HN1.out HG2.out rfl)
 clear HDC HOW HDX x0 x1 x2 x3 x4 f0 f1 f2 f3 f4
 generalize w2.setCell ⟨g2, 0, none⟩ (.slice A0 v0.length c0) = wx1 at HD |-
 have HDX := HD
 go_upto_region 5 with (first
  | (go_at_call 48; refine (C1.out _ _ HD.out.rd.r).mono ?_; rintro en w2 ⟨A1, c1, rfl, hv, hr, ho⟩
     have HDC := zH (HD.out.call HRB.out HN0.out HN2.out hr ho)
     have HOW : Hid (OwnM w1 w2 ⟨⟨A0, c0, A1, c1, none, 0, none, 0⟩, none, 0⟩ ⟨⟨v0, qs, [], []⟩, []⟩) := zH ⟨⟨HDC.out.own.o.o0, hv.of HDX.out.rd.size, HDC.out.own.o.o2, HDC.out.own.o.o3⟩, HDC.out.own.t⟩
     obtain ⟨x0, x1, x2, x3, x4⟩ := five HDC.out.blk
     obtain ⟨f0, f1, f2, f3, f4⟩ := five_frozen HDC.out.blk
     clear hv hr ho C1)
  | fail)
 have HD : Hid (DcSt w w1 (w2.setCell ⟨g2, 1, none⟩ (.slice A1 qs.length c1)) rb g2 ⟨⟨A0, c0, A1, c1, none, 0, none, 0⟩, none, 0⟩ ⟨⟨v0, qs, [], []⟩, []⟩ s2) := zH (HDC.out.put HOW.out HN1.out HG2.out rfl)
 clear HDC HOW HDX x0 x1 x2 x3 x4 f0 f1 f2 f3 f4
 generalize w2.setCell ⟨g2, 1, none⟩ (.slice A1 qs.length c1) = wx2 at HD |-
 have HDX := HD
 go_upto_region 6 with (first
  | (go_at_call 49; refine (C2.out _ _ HD.out.rd.r).mono ?_; rintro en w2 ⟨A2, c2, rfl, hv, hr, ho⟩
     have HDC := zH (HD.out.call HRB.out HN0.out HN2.out hr ho)
     have HOW : Hid (OwnM w1 w2 ⟨⟨A0, c0, A1, c1, A2, c2, none, 0⟩, none, 0⟩ ⟨⟨v0, qs, zs, []⟩, []⟩) := zH ⟨⟨HDC.out.own.o.o0, HDC.out.own.o.o1, own_of HDX.out.rd.size hv, HDC.out.own.o.o3⟩, HDC.out.own.t⟩
     obtain ⟨x0, x1, x2, x3, x4⟩ := five HDC.out.blk
     obtain ⟨f0, f1, f2, f3, f4⟩ := five_frozen HDC.out.blk
     clear hv hr ho C2)
  | fail)
 have HD : Hid (DcSt w w1 (w2.setCell ⟨g2, 2, none⟩ (.slice A2 zs.length c2)) rb g2 ⟨⟨A0, c0, A1, c1, A2, c2, none, 0⟩, none, 0⟩ ⟨⟨v0, qs, zs, []⟩, []⟩ s3) := zH (HDC.out.put HOW.out HN1.out HG2.out rfl)
 clear HDC HOW HDX x0 x1 x2 x3 x4 f0 f1 f2 f3 f4
 generalize w2.setCell ⟨g2, 2, none⟩ (.slice A2 zs.length c2) = wx3 at HD |-
 have HDX := HD
 go_upto_region 7 with (first
  | (go_at_call 51; refine (C3.out _ _ HD.out.rd.r).mono ?_; rintro en w2 ⟨A3, c3, rfl, hv, hr, ho⟩
     have HDC := zH (HD.out.call HRB.out HN0.out HN2.out hr ho)
     have HOW : Hid (OwnM w1 w2 ⟨⟨A0, c0, A1, c1, A2, c2, A3, c3⟩, none, 0⟩ ⟨⟨v0, qs, zs, ps⟩, []⟩) := zH ⟨⟨HDC.out.own.o.o0, HDC.out.own.o.o1, HDC.out.own.o.o2, hv.of HDX.out.rd.size⟩, HDC.out.own.t⟩
     obtain ⟨x0, x1, x2, x3, x4⟩ := five HDC.out.blk
     obtain ⟨f0, f1, f2, f3, f4⟩ := five_frozen HDC.out.blk
     clear hv hr ho C3)
  | fail)
 have HD : Hid (DcSt w w1 (w2.setCell ⟨g2, 3, none⟩ (.slice A3 ps.length c3)) rb g2 ⟨⟨A0, c0, A1, c1, A2, c2, A3, c3⟩, none, 0⟩ ⟨⟨v0, qs, zs, ps⟩, []⟩ s4) := zH (HDC.out.put HOW.out HN1.out HG2.out rfl)
 clear HDC HOW HDX x0 x1 x2 x3 x4 f0 f1 f2 f3 f4
 generalize w2.setCell ⟨g2, 3, none⟩ (.slice A3 ps.length c3) = wx4 at HD |-
 have HDX := HD
 go_upto_region 8 with (first
  | (go_at_call 53; refine (C4.out _ _ HD.out.rd.r).mono ?_; rintro en w2 ⟨A4, c4, rfl, hv, hr, ho⟩
     have HDC := zH (HD.out.call HRB.out HN0.out HN2.out hr ho)
     have HOW : Hid (OwnM w1 w2 ⟨⟨A0, c0, A1, c1, A2, c2, A3, c3⟩, A4, c4⟩ ⟨⟨v0, qs, zs, ps⟩, ts⟩) := zH ⟨HDC.out.own.o, hv.of HDX.out.rd.size⟩
     obtain ⟨x0, x1, x2, x3, x4⟩ := five HDC.out.blk
     obtain ⟨f0, f1, f2, f3, f4⟩ := five_frozen HDC.out.blk
     clear hv hr ho C4)
  | fail)
 have HD : Hid (DcSt w w1 (w2.setCell ⟨g2, 4, none⟩ (.slice A4 ts.length c4)) rb g2 ⟨⟨A0, c0, A1, c1, A2, c2, A3, c3⟩, A4, c4⟩ ⟨⟨v0, qs, zs, ps⟩, ts⟩ s5) := zH (HDC.out.put HOW.out HN1.out HG2.out rfl)
 clear HDC HOW HDX x0 x1 x2 x3 x4 f0 f1 f2 f3 f4
 generalize w2.setCell ⟨g2, 4, none⟩ (.slice A4 ts.length c4) = wx5 at HD |-
 have HBX : Hid (Below w.heap.size w wx5) := zH (below_only HB1.out HD.out.rd.only HRW.out)
 have HOWN : Hid (OwnM w wx5 ⟨⟨A0, c0, A1, c1, A2, c2, A3, c3⟩, A4, c4⟩ ⟨⟨v0, qs, zs, ps⟩, ts⟩) := zH (HD.out.own.of HZ1.out)
 have HRES := zH HD.out.res
 have HBLK := zH HD.out.blk
 have HRDR := zH HD.out.rd.r
 unfold machC at HBLK
 have hq2 : OwnI w wx5 A2 zs.length c2 zs := HOWN.out.o.o2
 have CE := zH (end_any _ _ _ HRDR.out)
 have CO := zH (isOnce_any wx5 (c := c2) (Rd.own_ hq2) (by omega) (own_cap hq2).1)
 have CP : Hid (∀ wy, Below wx5.heap.size wx5 wy -> Calls Tryz.prog 57 #[.slice A3 ps.length c3, .func (.func 58) #[] #[]] wy fun e w' => e = .returned (.bool (okP ps)) /\ Below wy.heap.size wy w') :=
  zH (fun wy hb => isRisingP_any wy (fun p hp => (HN.out.mp p hp).2.1) (HOWN.out.o.o3.rd.below hb) (by have := HN.out.ml; simp only [] at this; omega))
 have CT : Hid (∀ wy, Below wx5.heap.size wx5 wy -> Calls Tryz.prog 59 #[.slice A4 ts.length c4] wy fun e w' => e = .returned (.bool (okT ts)) /\ Below wy.heap.size wy w') :=
  zH (fun wy hb => isTable_any wy (fun t ht => ⟨(HN.out.t t ht).1.2.1, (HN.out.t t ht).1.2.2.2⟩) (by have := HN.out.tl; simp only [] at this; omega) (HOWN.out.t.rd.below hb))
 have HWF : Hid (R = if (decide zs.Nodup && okP ps && okT ts) = true /\ s5 = some [] then some ⟨⟨v0, qs, zs, ps⟩, ts⟩ else none) := HDEC
 obtain ⟨E, hE⟩ : ∃ E, Pk.endOf s5 = E := ⟨_, rfl⟩
 have HE : Hid (E = true ↔ s5 = some []) := zH (by rw [<- hE]; unfold Pk.endOf; exact decide_eq_true_iff)
 rw [hE] at CE
 obtain ⟨O, hO⟩ : ∃ O : Bool, decide zs.Nodup = O := ⟨_, rfl⟩
 rw [hO] at CO HWF
 obtain ⟨P, hP⟩ : ∃ P, okP ps = P := ⟨_, rfl⟩
 rw [hP] at CP HWF
 obtain ⟨T, hT⟩ : ∃ T, okT ts = T := ⟨_, rfl⟩
 rw [hT] at CT HWF
 clear hE hO hP hT HDEC HN hq2 k1 k2 k3
 cases E with
 | false =>
   go_upto_region 9 with (first
    | (go_at_call 55; refine CE.out.mono ?_; rintro en wq ⟨rfl, rfl⟩; obtain ⟨x0, x1, x2, x3, x4⟩ := five HBLK.out)
    | (go_at_call 56; refine CO.out.mono ?_; rintro en wq ⟨rfl, rfl⟩)
    | (go_at_call 57; refine (CP.out _ (Below.refl _ _)).mono ?_; rintro en w6 ⟨rfl, hb6⟩; obtain ⟨x0, x1, x2, x3, x4⟩ := five (HBLK.out.below hb6); have HB6 := zH hb6; clear hb6)
    | (go_at_call 59; refine (CT.out _ HB6.out).mono ?_; rintro en w7 ⟨rfl, hb7⟩; have HB7 := zH (HB6.out.trans (hb7.mono HB6.out.size)); clear hb7)
    | fail)
   have HRF : Hid (R = none) := zH (by rw [HWF.out, if_neg (by rw [<- HE.out]; simp)])
   obtain ⟨y0, y1, y2, y3, y4⟩ := five (HRES.out)
   obtain ⟨f0, f1, f2, f3, f4⟩ := five_frozen (HRES.out)
   go_wp2_with fail
   obtain ⟨p1, p2, p3⟩ := dec_end (HRES.out) (HBX.out) (OwnM.zero w _)
   refine bodyPost_ret (results_cell_tmp rfl _ _ _ _ _ _ rfl p1 Tryz.underlying36 rfl (by kernel_rfl)) rfl ?_
   rw [HRF.out]
   exact ⟨_, rfl, p2, p3, p3⟩
 | true =>
 cases O with
 | false =>
   go_upto_region 9 with (first
    | (go_at_call 55; refine CE.out.mono ?_; rintro en wq ⟨rfl, rfl⟩; obtain ⟨x0, x1, x2, x3, x4⟩ := five HBLK.out)
    | (go_at_call 56; refine CO.out.mono ?_; rintro en wq ⟨rfl, rfl⟩)
    | (go_at_call 57; refine (CP.out _ (Below.refl _ _)).mono ?_; rintro en w6 ⟨rfl, hb6⟩; obtain ⟨x0, x1, x2, x3, x4⟩ := five (HBLK.out.below hb6); have HB6 := zH hb6; clear hb6)
    | (go_at_call 59; refine (CT.out _ HB6.out).mono ?_; rintro en w7 ⟨rfl, hb7⟩; have HB7 := zH (HB6.out.trans (hb7.mono HB6.out.size)); clear hb7)
    | fail)
   have HRF : Hid (R = none) := zH (by rw [HWF.out, if_neg (by rw [<- HE.out]; simp)])
   obtain ⟨y0, y1, y2, y3, y4⟩ := five (HRES.out)
   obtain ⟨f0, f1, f2, f3, f4⟩ := five_frozen (HRES.out)
   go_wp2_with fail
   obtain ⟨p1, p2, p3⟩ := dec_end (HRES.out) (HBX.out) (OwnM.zero w _)
   refine bodyPost_ret (results_cell_tmp rfl _ _ _ _ _ _ rfl p1 Tryz.underlying36 rfl (by kernel_rfl)) rfl ?_
   rw [HRF.out]
   exact ⟨_, rfl, p2, p3, p3⟩
 | true =>
 cases P with
 | false =>
   go_upto_region 9 with (first
    | (go_at_call 55; refine CE.out.mono ?_; rintro en wq ⟨rfl, rfl⟩; obtain ⟨x0, x1, x2, x3, x4⟩ := five HBLK.out)
    | (go_at_call 56; refine CO.out.mono ?_; rintro en wq ⟨rfl, rfl⟩)
    | (go_at_call 57; refine (CP.out _ (Below.refl _ _)).mono ?_; rintro en w6 ⟨rfl, hb6⟩; obtain ⟨x0, x1, x2, x3, x4⟩ := five (HBLK.out.below hb6); have HB6 := zH hb6; clear hb6)
    | (go_at_call 59; refine (CT.out _ HB6.out).mono ?_; rintro en w7 ⟨rfl, hb7⟩; have HB7 := zH (HB6.out.trans (hb7.mono HB6.out.size)); clear hb7)
    | fail)
   have HRF : Hid (R = none) := zH (by rw [HWF.out, if_neg (by rw [<- HE.out]; simp)])
   obtain ⟨y0, y1, y2, y3, y4⟩ := five (HRES.out.below HB6.out)
   obtain ⟨f0, f1, f2, f3, f4⟩ := five_frozen (HRES.out.below HB6.out)
   go_wp2_with fail
   obtain ⟨p1, p2, p3⟩ := dec_end (HRES.out.below HB6.out) (HBX.out.trans (HB6.out.mono HBX.out.size)) (OwnM.zero w _)
   refine bodyPost_ret (results_cell_tmp rfl _ _ _ _ _ _ rfl p1 Tryz.underlying36 rfl (by kernel_rfl)) rfl ?_
   rw [HRF.out]
   exact ⟨_, rfl, p2, p3, p3⟩
 | true =>
 cases T with
 | false =>
   go_upto_region 9 with (first
    | (go_at_call 55; refine CE.out.mono ?_; rintro en wq ⟨rfl, rfl⟩; obtain ⟨x0, x1, x2, x3, x4⟩ := five HBLK.out)
    | (go_at_call 56; refine CO.out.mono ?_; rintro en wq ⟨rfl, rfl⟩)
    | (go_at_call 57; refine (CP.out _ (Below.refl _ _)).mono ?_; rintro en w6 ⟨rfl, hb6⟩; obtain ⟨x0, x1, x2, x3, x4⟩ := five (HBLK.out.below hb6); have HB6 := zH hb6; clear hb6)
    | (go_at_call 59; refine (CT.out _ HB6.out).mono ?_; rintro en w7 ⟨rfl, hb7⟩; have HB7 := zH (HB6.out.trans (hb7.mono HB6.out.size)); clear hb7)
    | fail)
   have HRF : Hid (R = none) := zH (by rw [HWF.out, if_neg (by rw [<- HE.out]; simp)])
   obtain ⟨y0, y1, y2, y3, y4⟩ := five (HRES.out.below HB7.out)
   obtain ⟨f0, f1, f2, f3, f4⟩ := five_frozen (HRES.out.below HB7.out)
   go_wp2_with fail
   obtain ⟨p1, p2, p3⟩ := dec_end (HRES.out.below HB7.out) (HBX.out.trans (HB7.out.mono HBX.out.size)) (OwnM.zero w _)
   refine bodyPost_ret (results_cell_tmp rfl _ _ _ _ _ _ rfl p1 Tryz.underlying36 rfl (by kernel_rfl)) rfl ?_
   rw [HRF.out]
   exact ⟨_, rfl, p2, p3, p3⟩
 | true =>
   go_upto_region 10 with (first
    | (go_at_call 55; refine CE.out.mono ?_; rintro en wq ⟨rfl, rfl⟩; obtain ⟨x0, x1, x2, x3, x4⟩ := five HBLK.out)
    | (go_at_call 56; refine CO.out.mono ?_; rintro en wq ⟨rfl, rfl⟩)
    | (go_at_call 57; refine (CP.out _ (Below.refl _ _)).mono ?_; rintro en w6 ⟨rfl, hb6⟩; obtain ⟨x0, x1, x2, x3, x4⟩ := five (HBLK.out.below hb6); have HB6 := zH hb6; clear hb6)
    | (go_at_call 59; refine (CT.out _ HB6.out).mono ?_; rintro en w7 ⟨rfl, hb7⟩; have HB7 := zH (HB6.out.trans (hb7.mono HB6.out.size)); clear hb7)
    | fail)
   have HRF : Hid (R = some ⟨⟨v0, qs, zs, ps⟩, ts⟩) := zH (by rw [HWF.out, if_pos ⟨rfl, HE.out.1 (by trivial)⟩])
   obtain ⟨y0, y1, y2, y3, y4⟩ := five (HRES.out.below HB7.out)
   obtain ⟨f0, f1, f2, f3, f4⟩ := five_frozen (HRES.out.below HB7.out)
   obtain ⟨z0, z1, z2, z3, z4⟩ := five (HBLK.out.below HB7.out)
   go_wp2_with fail
   obtain ⟨p1, p2, p3⟩ := dec_end (HRES.out.below HB7.out) (HBX.out.trans (HB7.out.mono HBX.out.size)) (HOWN.out.below HB7.out)
   refine bodyPost_ret (results_cell_tmp rfl _ _ _ _ _ _ rfl p1 Tryz.underlying36 rfl (by kernel_rfl)) rfl ?_
   rw [HRF.out]
   exact ⟨_, rfl, p2, p3, p3⟩
theorem decode10 : DecodeC10 := fun hl hb hn hc h hB => (decode_raw hl hb h).mono fun e w' h => GotMB.of hB h
set_option maxHeartbeats 1000000 in
theorem equalI_any (w : World) (A A' : Option Addr) (n c n' c' B B' : Nat) (zs zs' : List Int) (h : Rd w B A n (iv zs)) (h' : Rd w B' A' n' (iv zs')) (hn : n <= maxLen) (hn' : n' <= maxLen) :
 Calls Tryz.prog 117 #[.slice A n c, .slice A' n' c'] w fun e w' => e = .returned (.bool (decide (zs = zs'))) /\ Below w.heap.size w w' := by
 have hl : zs.length = n := by have := h.1; rwa [iv_length] at this
 have hl' : zs'.length = n' := by have := h'.1; rwa [iv_length] at this
 unfold maxLen at hn hn'
 by_cases hne : n = n'
 · subst hne
   have HN : Hid (n <= 9223372036854775807) := zH (by omega)
   have HL := zH hl
   have HL' := zH hl'
   have H := zH h
   have H' := zH h'
   clear h h' hl hl' hn hn'
   go_enter Tryz.func117, Tryz.ntmps117
   go_wp2
   go_loopw [5, 13] (fun _ i wr => ∃ k : Nat, k <= n /\ i = .int .i64 k /\ (∀ j, j < k -> zs[j]? = zs'[j]?) /\ ∃ m, wr = w.drewN m) (fun _ i _ => n - (intOf i).toNat)
   case atStart => exact ⟨0, Nat.zero_le _, rfl, fun j hj => absurd hj (by omega), 0, rfl⟩
   case round =>
    obtain ⟨k, hk, rfl, hs, m, hm⟩ := hrel
    have hkm : (k : Int) <= 9223372036854775806 \/ k = n := by have := HN.out; omega
    by_cases hlt : k < n
    · obtain ⟨z, hz⟩ : ∃ z, zs[k]? = some z := ⟨_, List.getElem?_eq_getElem (by have := HL.out; omega)⟩
      obtain ⟨z', hz'⟩ : ∃ z, zs'[k]? = some z := ⟨_, List.getElem?_eq_getElem (by have := HL'.out; omega)⟩
      obtain ⟨b, o, rfl, _⟩ := H.out.int_at hlt
      obtain ⟨b', o', rfl, _⟩ := H'.out.int_at hlt
      have hc : wr.cell? ⟨b, o + k, none⟩ = some (.int .i64 z) := by rw [hm]; exact H.out.int_cell hlt hz
      have hc' : wr.cell? ⟨b', o' + k, none⟩ = some (.int .i64 z') := by rw [hm]; exact H'.out.int_cell hlt hz'
      have hv : IntKind.i64.wrap ((k : Int) + 1) = (k : Int) + 1 := IntWalk.i64_in _ (by have := HN.out; omega)
      have HS := zH hs
      have HZ := zH hz
      have HZ' := zH hz'
      have HM := zH hm
      clear hs hz hz' hm hkm
      by_cases he : z = z'
      · subst he
        go_wp2
        go_quiet (fail)
        go_wp2
        go_roundw
        case rel =>
         refine ⟨k + 1, by omega, by go_num, fun j hj => ?_, m + nq, by rw [HM.out, World.drewN_drewN]⟩
         rcases Nat.lt_or_ge j k with h1 | h1
         · exact HS.out j h1
         · obtain rfl : j = k := by omega
           rw [HZ.out, HZ'.out]
        case measure => simp [intOf]; omega
      · have he' : (z == z') = false := by simpa using he
        have he2 : (z != z') = true := by simpa using he
        have HE := zH (show decide (zs = zs') = false by
         rw [decide_eq_false_iff_not]
         rintro rfl
         have h1 := HZ.out
         rw [HZ'.out] at h1
         injection h1 with h1
         exact he h1.symm)
        clear he
        go_wp2
        go_quiet (fail)
        go_wp2
        go_ret
        exact ⟨ret_bool HE.out.symm, by rw [HM.out, World.drewN_drewN]; exact belowN_d _⟩
    · have hkn : k = n := by omega
      have HE := zH (show decide (zs = zs') = true by
       rw [decide_eq_true_iff]
       apply List.ext_getElem?
       intro j
       rcases Nat.lt_or_ge j n with h1 | h1
       · exact hs j (by omega)
       · rw [List.getElem?_eq_none (by have := HL.out; omega), List.getElem?_eq_none (by have := HL'.out; omega)])
      have HM := zH hm
      clear hs hkn hm hkm
      go_wp2
      go_ret
      exact ⟨ret_bool HE.out.symm, by rw [HM.out]; exact belowN_d m⟩
 · have HE := zH (show decide (zs = zs') = false by
    rw [decide_eq_false_iff_not]; rintro rfl; omega)
   have hd : ((n : Int) == (n' : Int)) = false := by simp; omega
   have hd2 : ((n : Int) != (n' : Int)) = true := by simp; omega
   clear h h' hl hl' hn hn' hne
   go_enter Tryz.func117, Tryz.ntmps117
   go_wp2
   go_ret
   exact ⟨ret_bool HE.out.symm, Below.refl _ _⟩
set_option maxHeartbeats 1000000 in
set_option maxRecDepth 100000 in
theorem equalQ_any (w : World) {A A' : Option Addr} {n c n' c' B B' : Nat} {qs qs' : List (List Nat)} (hb : BytesL qs) (hb' : BytesL qs') (h : RdQ w B A n qs) (h' : RdQ w B' A' n' qs') (hn : n <= maxLen) (hn' : n' <= maxLen) :
 Calls Tryz.prog 116 #[.slice A n c, .slice A' n' c', .func (.func 115) #[] #[]] w fun e w' => e = .returned (.bool (decide (qs = qs'))) /\ Below w.heap.size w w' := by
 have hl : qs.length = n := h.length
 have hl' : qs'.length = n' := h'.length
 unfold maxLen at hn hn'
 by_cases hne : n = n'
 · subst hne
   have HN : Hid (n <= 9223372036854775807) := zH (by omega)
   have HL := zH hl
   have HL' := zH hl'
   have H := zH h
   have H' := zH h'
   have HBY := zH hb
   have HBY' := zH hb'
   clear h h' hl hl' hn hn' hb hb'
   go_enter Tryz.func116, Tryz.ntmps116
   go_wp2
   go_loopw [7, 8, 9, 17] (fun _ _ _ i wr => ∃ k : Nat, k <= n /\ i = .int .i64 k /\ Hid (∀ j, j < k -> qs[j]? = qs'[j]?) /\ w = wr) (fun _ _ _ i _ => n - (intOf i).toNat)
   case atStart => exact ⟨0, Nat.zero_le _, rfl, zH (fun j hj => absurd hj (by omega)), rfl⟩
   case round =>
    obtain ⟨k, hk, rfl, HS, rfl⟩ := hrel
    have hkm : (k : Int) <= 9223372036854775806 \/ k = n := by have := HN.out; omega
    by_cases hlt : k < n
    · obtain ⟨b, o, l, A1, c1, rfl, hz, hc, hr1⟩ := H.out.at hlt
      obtain ⟨b', o', l', A2, c2, rfl, hz', hc', hr2⟩ := H'.out.at hlt
      have hv : IntKind.i64.wrap ((k : Int) + 1) = (k : Int) + 1 := IntWalk.i64_in _ (by have := HN.out; omega)
      have HC := zH (equal_any w A1 A2 l.length c1 l'.length c2 _ _ l l' (HBY.out l (List.mem_of_getElem? hz)) (HBY'.out l' (List.mem_of_getElem? hz')) hr1 hr2)
      have HZ := zH hz
      have HZ' := zH hz'
      clear hz hz' hkm hr1 hr2
      by_cases he : l = l'
      · have HD := zH (decide_eq_true he)
        have HE := zH he
        clear he
        go_wp2_with (first
         | (go_at_call 115; refine HC.out.mono ?_; rw [HD.out]; rintro e w2 ⟨rfl, rfl⟩)
         | fail)
        go_roundw
        case rel =>
         refine ⟨k + 1, by omega, by go_num, zH (fun j hj => ?_), by first | trivial | rfl⟩
         rcases Nat.lt_or_ge j k with h1 | h1
         · exact HS.out j h1
         · obtain rfl : j = k := by omega
           rw [HZ.out, HZ'.out, HE.out]
        case measure => simp [intOf]; omega
      · have HD := zH (decide_eq_false he)
        have HE := zH (show decide (qs = qs') = false by
         rw [decide_eq_false_iff_not]
         rintro rfl
         have h1 := HZ.out
         rw [HZ'.out] at h1
         injection h1 with h1
         exact he h1.symm)
        clear he
        go_wp2_with (first
         | (go_at_call 115; refine HC.out.mono ?_; rw [HD.out]; rintro e w2 ⟨rfl, rfl⟩)
         | fail)
        go_ret
        exact ⟨ret_bool HE.out.symm, Below.refl _ _⟩
    · have hkn : k = n := by omega
      have HE := zH (show decide (qs = qs') = true by
       rw [decide_eq_true_iff]
       apply List.ext_getElem?
       intro j
       rcases Nat.lt_or_ge j n with h1 | h1
       · exact HS.out j (by omega)
       · rw [List.getElem?_eq_none (by have := HL.out; omega), List.getElem?_eq_none (by have := HL'.out; omega)])
      clear hkn hkm
      go_wp2
      go_ret
      exact ⟨ret_bool HE.out.symm, Below.refl _ _⟩
 · have HE := zH (show decide (qs = qs') = false by
    rw [decide_eq_false_iff_not]; rintro rfl; omega)
   have hd : ((n : Int) == (n' : Int)) = false := by simp; omega
   have hd2 : ((n : Int) != (n' : Int)) = true := by simp; omega
   clear h h' hl hl' hn hn' hne
   go_enter Tryz.func116, Tryz.ntmps116
   go_wp2
   go_ret
   exact ⟨ret_bool HE.out.symm, Below.refl _ _⟩
set_option maxHeartbeats 1000000 in
set_option maxRecDepth 100000 in
theorem samePair_any (w : World) {A1 A2 A3 A4 : Option Addr} {c1 c2 c3 c4 B : Nat} {p p' : Pr} (hb : (∀ x ∈ p.1, x < 256) /\ ∀ x ∈ p.2, x < 256) (hb' : (∀ x ∈ p'.1, x < 256) /\ ∀ x ∈ p'.2, x < 256)
 (h1 : Rd w B A1 p.1.length (bv p.1)) (h2 : Rd w B A2 p.2.length (bv p.2)) (h3 : Rd w B A3 p'.1.length (bv p'.1)) (h4 : Rd w B A4 p'.2.length (bv p'.2)) :
 Calls Tryz.prog 119 #[.agg #[.slice A1 p.1.length c1, .slice A2 p.2.length c2], .agg #[.slice A3 p'.1.length c3, .slice A4 p'.2.length c4]] w fun e w' => e = .returned (.bool (decide (p = p'))) /\ Below w.heap.size w w' := by
 obtain ⟨wz, hwz⟩ : ∃ wz, (w.alloc (.cells #[.slice A1 p.1.length c1, .slice A2 p.2.length c2] 81)).alloc (.cells #[.slice A3 p'.1.length c3, .slice A4 p'.2.length c4] 81) = wz := ⟨_, rfl⟩
 have hbz : Below w.heap.size w wz := by rw [<- hwz]; exact ((Below.refl _ _).alloc lR _).alloc (by simp) _
 have HC1 := zH (equal_any wz A1 A3 p.1.length c1 p'.1.length c3 _ _ p.1 p'.1 hb.1 hb'.1 (h1.fit.below hbz) (h3.fit.below hbz))
 have HC2 := zH (equal_any wz A2 A4 p.2.length c2 p'.2.length c4 _ _ p.2 p'.2 hb.2 hb'.2 (h2.fit.below hbz) (h4.fit.below hbz))
 have HBZ := zH hbz
 have HW := zH hwz
 obtain ⟨g, hg⟩ : ∃ g, w.heap.size = g := ⟨_, rfl⟩
 have HG := zH hg
 have HV : Hid (Blk wz g 81 #[.slice A1 p.1.length c1, .slice A2 p.2.length c2] /\ Blk wz (g + 1) 81 #[.slice A3 p'.1.length c3, .slice A4 p'.2.length c4]) := zH (by
  subst hg
  rw [<- hwz]
  refine ⟨(Blk.new _ _ _).alloc _, ?_⟩
  have := Blk.new (w.alloc (.cells #[.slice A1 p.1.length c1, .slice A2 p.2.length c2] 81)) 81 #[.slice A3 p'.1.length c3, .slice A4 p'.2.length c4]
  rwa [World.size_alloc] at this)
 have HP : Hid (decide (p = p') = (decide (p.1 = p'.1) && decide (p.2 = p'.2))) := zH (by
  rw [Bool.eq_iff_iff]; simp only [decide_eq_true_eq, Bool.and_eq_true]; exact ⟨fun h => by rw [h]; exact ⟨rfl, rfl⟩, fun h => Prod.ext h.1 h.2⟩)
 clear hbz h1 h2 h3 h4 hb hb' hwz hg
 obtain ⟨q1, hq1⟩ : ∃ q, decide (p.1 = p'.1) = q := ⟨_, rfl⟩
 obtain ⟨q2, hq2⟩ : ∃ q, decide (p.2 = p'.2) = q := ⟨_, rfl⟩
 rw [hq1] at HC1 HP
 rw [hq2] at HC2 HP
 rw [HP.out]
 clear hq1 hq2 HP
 go_enter Tryz.func119, Tryz.ntmps119
 go_upto_region 1 with fail
 rw [HG.out]
 rw [HW.out]
 have hv := HV.out
 have x0 := hv.1.cell 0
 have x1 := hv.1.cell 1
 have x2 := hv.2.cell 0
 have x3 := hv.2.cell 1
 clear hv
 cases q1
 · go_wp2_with (first
    | (go_at_call 115; refine HC1.out.mono ?_; rintro e w2 ⟨rfl, rfl⟩)
    | fail)
   go_ret
   exact ⟨rfl, HBZ.out⟩
 · go_wp2_with (first
    | (go_at_call_of 115 A1; refine HC1.out.mono ?_; rintro e w2 ⟨rfl, rfl⟩)
    | (go_at_call_of 115 A2; refine HC2.out.mono ?_; rintro e w2 ⟨rfl, rfl⟩)
    | fail)
   go_ret
   exact ⟨by simp, HBZ.out⟩
set_option maxHeartbeats 2000000 in
set_option maxRecDepth 100000 in
theorem equalP_any (w : World) {A A' : Option Addr} {n c n' c' B B' : Nat} {ps ps' : List Pr} (hn : n <= 100000) (hn' : n' <= 100000) (hb : BytesP ps) (hb' : BytesP ps') (h : RdP w B A n ps) (h' : RdP w B' A' n' ps') :
 Calls Tryz.prog 118 #[.slice A n c, .slice A' n' c', .func (.func 119) #[] #[]] w fun e w' => e = .returned (.bool (decide (ps = ps'))) /\ Below w.heap.size w w' := by
 have hl : ps.length = n := h.length
 have hl' : ps'.length = n' := h'.length
 by_cases hne : n = n'
 · subst hne
   have HL := zH hl
   have HL' := zH hl'
   have H := zH h.fit
   have H' := zH h'.fit
   have HB := zH hb
   have HB' := zH hb'
   clear h h' hl hl' hb hb'
   go_enter Tryz.func118, Tryz.ntmps118
   go_wp2_with fail
   go_loopw [7, 8, 9, 17] (fun _ _ _ i wr => ∃ j : Nat, j <= n /\ i = .int .i64 j /\ Hid (∀ i, i < j -> ps[i]? = ps'[i]?) /\ Hid (Below w.heap.size w wr)) (fun _ _ _ i _ => n - (intOf i).toNat)
   case atStart => exact ⟨0, Nat.zero_le _, rfl, zH (fun i hi => absurd hi (by omega)), zH (Below.refl _ _)⟩
   case round =>
    obtain ⟨j, hj, rfl, HS, HB0⟩ := hrel
    by_cases hlt : j < n
    · obtain ⟨b, o, p, A1, c1, A2, c2, rfl, hp, hcell1, hcell2, hrd1, hrd2⟩ := (H.out.below HB0.out).fit.at hlt
      obtain ⟨b', o', p', A3, c3, A4, c4, rfl, hp', hcell3, hcell4, hrd3, hrd4⟩ := (H'.out.below HB0.out).fit.at hlt
      have hlt3 := World.block_lt_of_cell? _ _ hcell3
      have hlt4 := World.block_lt_of_cell? _ _ hcell4
      have b1 : Below wr.heap.size wr (wr.alloc (.cells #[.slice A1 p.1.length c1, .slice A2 p.2.length c2] 81)) := (Below.refl _ _).alloc lR _
      have hcell5 : (wr.alloc (.cells #[.slice A1 p.1.length c1, .slice A2 p.2.length c2] 81)).cell? ⟨b', o' + j * 2, none⟩ = some (.slice A3 p'.1.length c3) := (b1.cell (p := ⟨b', o' + j * 2, none⟩) hlt3).trans hcell3
      have hcell6 : (wr.alloc (.cells #[.slice A1 p.1.length c1, .slice A2 p.2.length c2] 81)).cell? ⟨b', o' + j * 2 + 1, none⟩ = some (.slice A4 p'.2.length c4) := (b1.cell (p := ⟨b', o' + j * 2 + 1, none⟩) hlt4).trans hcell4
      have b2 := b1.alloc b1.size (.cells #[.slice A3 p'.1.length c3, .slice A4 p'.2.length c4] 81)
      have HC := zH (samePair_any _ (c1 := c1) (c2 := c2) (c3 := c3) (c4 := c4) (HB.out p (List.mem_of_getElem? hp)) (HB'.out p' (List.mem_of_getElem? hp')) (hrd1.below b2) (hrd2.below b2) (hrd3.below b2) (hrd4.below b2))
      have HB2 := zH b2
      have HP := zH hp
      have HP' := zH hp'
      clear hp hp' hrd1 hrd2 hrd3 hrd4 hlt3 hlt4 hcell3 hcell4 b1 b2
      by_cases he : p = p'
      · have HD := zH (decide_eq_true he)
        have HE := zH he
        clear he
        go_wp2_with (first
         | (go_at_call 119; refine HC.out.mono ?_; rw [HD.out]; rintro e w2 ⟨rfl, hb2⟩)
         | fail)
        go_roundw
        case rel =>
         refine ⟨j + 1, by omega, by go_num, zH (fun i hi => ?_), zH (HB0.out.trans ((HB2.out.trans (hb2.mono HB2.out.size)).mono HB0.out.size))⟩
         rcases Nat.lt_or_ge i j with h1 | h1
         · exact HS.out i h1
         · obtain rfl : i = j := by omega
           rw [HP.out, HP'.out, HE.out]
        case measure => simp [intOf]; omega
      · have HD := zH (decide_eq_false he)
        have HE := zH (show decide (ps = ps') = false by
         rw [decide_eq_false_iff_not]
         rintro rfl
         have h1 := HP.out
         rw [HP'.out] at h1
         injection h1 with h1
         exact he h1.symm)
        clear he
        go_wp2_with (first
         | (go_at_call 119; refine HC.out.mono ?_; rw [HD.out]; rintro e w2 ⟨rfl, hb2⟩)
         | fail)
        go_ret
        exact ⟨ret_bool HE.out.symm, HB0.out.trans ((HB2.out.trans (hb2.mono HB2.out.size)).mono HB0.out.size)⟩
    · have HE := zH (show decide (ps = ps') = true by
       rw [decide_eq_true_iff]
       apply List.ext_getElem?
       intro i
       rcases Nat.lt_or_ge i n with h1 | h1
       · exact HS.out i (by omega)
       · rw [List.getElem?_eq_none (by have := HL.out; omega), List.getElem?_eq_none (by have := HL'.out; omega)])
      go_wp2_with fail
      go_ret
      exact ⟨ret_bool HE.out.symm, HB0.out⟩
 · have HE := zH (show decide (ps = ps') = false by rw [decide_eq_false_iff_not]; rintro rfl; omega)
   have hd : ((n : Int) == (n' : Int)) = false := by simp; omega
   have hd2 : ((n : Int) != (n' : Int)) = true := by simp; omega
   clear h h' hl hl' hne
   go_enter Tryz.func118, Tryz.ntmps118
   go_wp2_with fail
   go_ret
   exact ⟨ret_bool HE.out.symm, Below.refl _ _⟩
set_option maxRecDepth 100000 in
set_option maxHeartbeats 2000000 in
theorem same8 (w : World) {a a' : OA} {s s' : Ob} {B B' : Nat} (hI : s.Inv) (hI' : s'.Inv) (h : RdO w B a s) (h' : RdO w B' a' s') :
 Calls Tryz.prog 34 #[objV a s, objV a' s'] w fun e w' => e = .returned (.bool (s.same s')) /\ Below w.heap.size w w' := by
 obtain ⟨A0, c0, A1, c1, A2, c2, A3, c3⟩ := a
 obtain ⟨D0, d0, D1, d1, D2, d2, D3, d3⟩ := a'
 obtain ⟨wz, hwz⟩ : ∃ wz, (w.alloc (.cells (objC ⟨A0, c0, A1, c1, A2, c2, A3, c3⟩ s) 33)).alloc (.cells (objC ⟨D0, d0, D1, d1, D2, d2, D3, d3⟩ s') 33) = wz := ⟨_, rfl⟩
 have hbz : Below w.heap.size w wz := by rw [<- hwz]; exact ((Below.refl _ _).alloc lR _).alloc (by simp) _
 have H := zH (h.fit.below hbz)
 have H' := zH (h'.fit.below hbz)
 have HI := zH hI
 have HI' := zH hI'
 have HW := zH hwz
 have HBZ := zH hbz
 have m1 : s.q.length <= maxLen := by have := hI.ql; unfold maxLen; omega
 have m2 : s'.q.length <= maxLen := by have := hI'.ql; unfold maxLen; omega
 have m3 : s.lk.length <= maxLen := by have := hI.lkl; unfold maxLen; omega
 have m4 : s'.lk.length <= maxLen := by have := hI'.lkl; unfold maxLen; omega
 have m5 : s.mp.length <= 100000 := by have := hI.mp.few; omega
 have m6 : s'.mp.length <= 100000 := by have := hI'.mp.few; omega
 have C0 := zH (equal_any wz A0 D0 s.reg.length c0 s'.reg.length d0 _ _ s.reg s'.reg hI.regb hI'.regb H.out.r0 H'.out.r0)
 have C1 : Hid (∀ wx, Below wz.heap.size wz wx -> Calls Tryz.prog 116 #[.slice A1 s.q.length c1, .slice D1 s'.q.length d1, .func (.func 115) #[] #[]] wx fun e w' => e = .returned (.bool (decide (s.q = s'.q))) /\ Below wx.heap.size wx w') := zH (fun wx hb => equalQ_any wx hI.qb hI'.qb (H.out.r1.fit.below hb) (H'.out.r1.fit.below hb) m1 m2)
 have C2 : Hid (∀ wx, Below wz.heap.size wz wx -> Calls Tryz.prog 117 #[.slice A2 s.lk.length c2, .slice D2 s'.lk.length d2] wx fun e w' => e = .returned (.bool (decide (s.lk = s'.lk))) /\ Below wx.heap.size wx w') := zH (fun wx hb => equalI_any wx _ _ _ _ _ _ _ _ _ _ (H.out.r2.fit.below hb) (H'.out.r2.fit.below hb) m3 m4)
 have C3 : Hid (∀ wx, Below wz.heap.size wz wx -> Calls Tryz.prog 118 #[.slice A3 s.mp.length c3, .slice D3 s'.mp.length d3, .func (.func 119) #[] #[]] wx fun e w' => e = .returned (.bool (decide (s.mp = s'.mp))) /\ Below wx.heap.size wx w') := zH (fun wx hb => equalP_any wx m5 m6 hI.mp.byt hI'.mp.byt (H.out.r3.fit.below hb) (H'.out.r3.fit.below hb))
 have HV : Hid (Blk wz w.heap.size 33 (objC ⟨A0, c0, A1, c1, A2, c2, A3, c3⟩ s) /\ Blk wz (w.heap.size + 1) 33 (objC ⟨D0, d0, D1, d1, D2, d2, D3, d3⟩ s')) := zH (by
  rw [<- hwz]
  refine ⟨(Blk.new _ _ _).alloc _, ?_⟩
  have := Blk.new (w.alloc (.cells (objC ⟨A0, c0, A1, c1, A2, c2, A3, c3⟩ s) 33)) 33 (objC ⟨D0, d0, D1, d1, D2, d2, D3, d3⟩ s')
  rwa [World.size_alloc] at this)
 clear h h' hI hI' hwz hbz m1 m2 m3 m4 m5 m6
 obtain ⟨p1, hp1⟩ : ∃ p, decide (s.reg = s'.reg) = p := ⟨_, rfl⟩
 obtain ⟨p2, hp2⟩ : ∃ p, decide (s.q = s'.q) = p := ⟨_, rfl⟩
 obtain ⟨p3, hp3⟩ : ∃ p, decide (s.lk = s'.lk) = p := ⟨_, rfl⟩
 obtain ⟨p4, hp4⟩ : ∃ p, decide (s.mp = s'.mp) = p := ⟨_, rfl⟩
 have HS := zH (show s.same s' = (p1 && (p2 && (p3 && p4))) by unfold Ob.same; rw [hp1, hp2, hp3, hp4])
 rw [hp1] at C0
 rw [hp2] at C1
 rw [hp3] at C2
 rw [hp4] at C3
 rw [HS.out]
 clear hp1 hp2 hp3 hp4 HS
 unfold objV
 simp only [objC] at HW HV |-
 go_enter Tryz.func34, Tryz.ntmps34
 go_upto_region 1 with fail
 rw [HW.out]
 obtain ⟨x0, x1, x2, x3, _, _, _, _⟩ := four HV.out.1
 obtain ⟨y0, y1, y2, y3, _, _, _, _⟩ := four HV.out.2
 cases p1
 case false =>
  go_wp2_with (first
   | (go_at_call 115; refine C0.out.mono ?_; rintro e w2 ⟨rfl, rfl⟩)
   | (go_at_call 116; refine (C1.out _ (Below.refl _ _)).mono ?_; rintro e w2 ⟨rfl, hb2⟩
      have hv2 := And.intro (HV.out.1.below hb2) (HV.out.2.below hb2)
      obtain ⟨x0, x1, x2, x3, _, _, _, _⟩ := four hv2.1
      obtain ⟨y0, y1, y2, y3, _, _, _, _⟩ := four hv2.2
      clear hv2)
   | (go_at_call 117; refine (C2.out _ hb2).mono ?_; rintro e w3 ⟨rfl, hb3⟩
      have hb3' := hb2.trans (hb3.mono hb2.size)
      have hv3 := And.intro (HV.out.1.below hb3') (HV.out.2.below hb3')
      obtain ⟨x0, x1, x2, x3, _, _, _, _⟩ := four hv3.1
      obtain ⟨y0, y1, y2, y3, _, _, _, _⟩ := four hv3.2
      clear hv3)
   | (go_at_call 118; refine (C3.out _ hb3').mono ?_; rintro e w4 ⟨rfl, hb4⟩)
   | fail)
  go_ret
  exact ⟨rfl, HBZ.out⟩
 case true =>
  cases p2
  case false =>
   go_wp2_with (first
    | (go_at_call 115; refine C0.out.mono ?_; rintro e w2 ⟨rfl, rfl⟩)
    | (go_at_call 116; refine (C1.out _ (Below.refl _ _)).mono ?_; rintro e w2 ⟨rfl, hb2⟩
       have hv2 := And.intro (HV.out.1.below hb2) (HV.out.2.below hb2)
       obtain ⟨x0, x1, x2, x3, _, _, _, _⟩ := four hv2.1
       obtain ⟨y0, y1, y2, y3, _, _, _, _⟩ := four hv2.2
       clear hv2)
    | (go_at_call 117; refine (C2.out _ hb2).mono ?_; rintro e w3 ⟨rfl, hb3⟩
       have hb3' := hb2.trans (hb3.mono hb2.size)
       have hv3 := And.intro (HV.out.1.below hb3') (HV.out.2.below hb3')
       obtain ⟨x0, x1, x2, x3, _, _, _, _⟩ := four hv3.1
       obtain ⟨y0, y1, y2, y3, _, _, _, _⟩ := four hv3.2
       clear hv3)
    | (go_at_call 118; refine (C3.out _ hb3').mono ?_; rintro e w4 ⟨rfl, hb4⟩)
    | fail)
   go_ret
   exact ⟨rfl, HBZ.out.trans (hb2.mono HBZ.out.size)⟩
  case true =>
   cases p3
   case false =>
    go_wp2_with (first
     | (go_at_call 115; refine C0.out.mono ?_; rintro e w2 ⟨rfl, rfl⟩)
     | (go_at_call 116; refine (C1.out _ (Below.refl _ _)).mono ?_; rintro e w2 ⟨rfl, hb2⟩
        have hv2 := And.intro (HV.out.1.below hb2) (HV.out.2.below hb2)
        obtain ⟨x0, x1, x2, x3, _, _, _, _⟩ := four hv2.1
        obtain ⟨y0, y1, y2, y3, _, _, _, _⟩ := four hv2.2
        clear hv2)
     | (go_at_call 117; refine (C2.out _ hb2).mono ?_; rintro e w3 ⟨rfl, hb3⟩
        have hb3' := hb2.trans (hb3.mono hb2.size)
        have hv3 := And.intro (HV.out.1.below hb3') (HV.out.2.below hb3')
        obtain ⟨x0, x1, x2, x3, _, _, _, _⟩ := four hv3.1
        obtain ⟨y0, y1, y2, y3, _, _, _, _⟩ := four hv3.2
        clear hv3)
     | (go_at_call 118; refine (C3.out _ hb3').mono ?_; rintro e w4 ⟨rfl, hb4⟩)
     | fail)
    go_ret
    exact ⟨rfl, HBZ.out.trans (hb3'.mono HBZ.out.size)⟩
   case true =>
    cases p4
    case false =>
     go_wp2_with (first
      | (go_at_call 115; refine C0.out.mono ?_; rintro e w2 ⟨rfl, rfl⟩)
      | (go_at_call 116; refine (C1.out _ (Below.refl _ _)).mono ?_; rintro e w2 ⟨rfl, hb2⟩
         have hv2 := And.intro (HV.out.1.below hb2) (HV.out.2.below hb2)
         obtain ⟨x0, x1, x2, x3, _, _, _, _⟩ := four hv2.1
         obtain ⟨y0, y1, y2, y3, _, _, _, _⟩ := four hv2.2
         clear hv2)
      | (go_at_call 117; refine (C2.out _ hb2).mono ?_; rintro e w3 ⟨rfl, hb3⟩
         have hb3' := hb2.trans (hb3.mono hb2.size)
         have hv3 := And.intro (HV.out.1.below hb3') (HV.out.2.below hb3')
         obtain ⟨x0, x1, x2, x3, _, _, _, _⟩ := four hv3.1
         obtain ⟨y0, y1, y2, y3, _, _, _, _⟩ := four hv3.2
         clear hv3)
      | (go_at_call 118; refine (C3.out _ hb3').mono ?_; rintro e w4 ⟨rfl, hb4⟩)
      | fail)
     go_ret
     exact ⟨rfl, (HBZ.out.trans (hb3'.mono HBZ.out.size)).trans (hb4.mono (by have h1 := HBZ.out.size; have h2 := hb3'.size; omega))⟩
    case true =>
     go_wp2_with (first
      | (go_at_call 115; refine C0.out.mono ?_; rintro e w2 ⟨rfl, rfl⟩)
      | (go_at_call 116; refine (C1.out _ (Below.refl _ _)).mono ?_; rintro e w2 ⟨rfl, hb2⟩
         have hv2 := And.intro (HV.out.1.below hb2) (HV.out.2.below hb2)
         obtain ⟨x0, x1, x2, x3, _, _, _, _⟩ := four hv2.1
         obtain ⟨y0, y1, y2, y3, _, _, _, _⟩ := four hv2.2
         clear hv2)
      | (go_at_call 117; refine (C2.out _ hb2).mono ?_; rintro e w3 ⟨rfl, hb3⟩
         have hb3' := hb2.trans (hb3.mono hb2.size)
         have hv3 := And.intro (HV.out.1.below hb3') (HV.out.2.below hb3')
         obtain ⟨x0, x1, x2, x3, _, _, _, _⟩ := four hv3.1
         obtain ⟨y0, y1, y2, y3, _, _, _, _⟩ := four hv3.2
         clear hv3)
      | (go_at_call 118; refine (C3.out _ hb3').mono ?_; rintro e w4 ⟨rfl, hb4⟩)
      | fail)
     go_ret
     exact ⟨rfl, (HBZ.out.trans (hb3'.mono HBZ.out.size)).trans (hb4.mono (by have h1 := HBZ.out.size; have h2 := hb3'.size; omega))⟩
set_option maxRecDepth 100000 in
set_option maxHeartbeats 2000000 in
theorem sameRes8 (w : World) {A A' : Option Addr} {n c n' c' B B' : Nat} {l l' : List Nat} (e e' N N' : Int) (hl : ∀ x ∈ l, x < 256) (hl' : ∀ x ∈ l', x < 256) (h : Rd w B A n (bv l)) (h' : Rd w B' A' n' (bv l')) :
 Calls Tryz.prog 120 #[resV e A n c N, resV e' A' n' c' N'] w fun en w' => en = .returned (.bool (decide (e = e') && decide (l = l') && decide (N = N'))) /\ Below w.heap.size w w' := by
 obtain ⟨wz, hwz⟩ : ∃ wz, (w.alloc (.cells #[.int .i64 e, .slice A n c, .int .i64 N] 41)).alloc (.cells #[.int .i64 e', .slice A' n' c', .int .i64 N'] 41) = wz := ⟨_, rfl⟩
 have hbz : Below w.heap.size w wz := by rw [<- hwz]; exact ((Below.refl _ _).alloc lR _).alloc (by simp) _
 have HC := zH (equal_any wz A A' n c n' c' _ _ l l' hl hl' (h.fit.below hbz) (h'.fit.below hbz))
 have HBZ := zH hbz
 have HW := zH hwz
 obtain ⟨g, hg⟩ : ∃ g, w.heap.size = g := ⟨_, rfl⟩
 have HG := zH hg
 have HV : Hid (Blk wz g 41 #[.int .i64 e, .slice A n c, .int .i64 N] /\ Blk wz (g + 1) 41 #[.int .i64 e', .slice A' n' c', .int .i64 N']) := zH (by
  subst hg
  rw [<- hwz]
  refine ⟨(Blk.new _ _ _).alloc _, ?_⟩
  have := Blk.new (w.alloc (.cells #[.int .i64 e, .slice A n c, .int .i64 N] 41)) 41 #[.int .i64 e', .slice A' n' c', .int .i64 N']
  rwa [World.size_alloc] at this)
 clear hbz h h' hl hl' hwz hg
 obtain ⟨q2, hq2⟩ : ∃ q, decide (l = l') = q := ⟨_, rfl⟩
 rw [hq2] at HC |-
 clear hq2
 unfold resV
 by_cases h1 : e = e'
 · subst h1
   rw [decide_eq_true rfl]
   cases q2
   · go_enter Tryz.func120, Tryz.ntmps120
     go_upto_region 1 with fail
     rw [HG.out]
     rw [HW.out]
     obtain ⟨x0, x1, x2, _, _, _⟩ := three HV.out.1
     obtain ⟨y0, y1, y2, _, _, _⟩ := three HV.out.2
     go_wp2_with (first
      | (go_at_call 115; refine HC.out.mono ?_; rintro e w2 ⟨rfl, rfl⟩)
      | fail)
     go_ret
     exact ⟨rfl, HBZ.out⟩
   · by_cases h3 : N = N'
     · subst h3
       rw [decide_eq_true rfl]
       go_enter Tryz.func120, Tryz.ntmps120
       go_upto_region 1 with fail
       rw [HG.out]
       rw [HW.out]
       obtain ⟨x0, x1, x2, _, _, _⟩ := three HV.out.1
       obtain ⟨y0, y1, y2, _, _, _⟩ := three HV.out.2
       go_wp2_with (first
        | (go_at_call 115; refine HC.out.mono ?_; rintro e w2 ⟨rfl, rfl⟩)
        | fail)
       go_ret
       exact ⟨rfl, HBZ.out⟩
     · have k3 : (N == N') = false := by simpa using h3
       rw [decide_eq_false h3]
       clear  h3
       go_enter Tryz.func120, Tryz.ntmps120
       go_upto_region 1 with fail
       rw [HG.out]
       rw [HW.out]
       obtain ⟨x0, x1, x2, _, _, _⟩ := three HV.out.1
       obtain ⟨y0, y1, y2, _, _, _⟩ := three HV.out.2
       go_wp2_with (first
        | (go_at_call 115; refine HC.out.mono ?_; rintro e w2 ⟨rfl, rfl⟩)
        | fail)
       go_ret
       exact ⟨rfl, HBZ.out⟩
 · have k1 : (e == e') = false := by simpa using h1
   rw [decide_eq_false h1]
   clear h1
   go_enter Tryz.func120, Tryz.ntmps120
   go_upto_region 1 with fail
   rw [HG.out]
   rw [HW.out]
   obtain ⟨x0, x1, x2, _, _, _⟩ := three HV.out.1
   obtain ⟨y0, y1, y2, _, _, _⟩ := three HV.out.2
   go_wp2_with fail
   go_ret
   exact ⟨rfl, HBZ.out⟩
set_option maxHeartbeats 2000000 in
set_option maxRecDepth 100000 in
theorem sameLast_any (w : World) {A A' : Option Addr} {c c' B B' : Nat} {a b : Ls} (ha : ∀ x ∈ a.v, x < 256) (hb : ∀ x ∈ b.v, x < 256) (h : Rd w B A a.v.length (bv a.v)) (h' : Rd w B' A' b.v.length (bv b.v)) :
 Calls Tryz.prog 36 #[.agg #[.int .i64 a.s, .int .i64 a.q, .int .i64 a.e, .slice A a.v.length c, .int .i64 a.n], .agg #[.int .i64 b.s, .int .i64 b.q, .int .i64 b.e, .slice A' b.v.length c', .int .i64 b.n]] w fun e w' => e = .returned (.bool (decide (a = b))) /\ Below w.heap.size w w' := by
 have b0 : Below w.heap.size w ((w.alloc (.cells #[.int .i64 a.s, .int .i64 a.q, .int .i64 a.e, .slice A a.v.length c, .int .i64 a.n] 71)).alloc (.cells #[.int .i64 b.s, .int .i64 b.q, .int .i64 b.e, .slice A' b.v.length c', .int .i64 b.n] 71)) := ((Below.refl _ _).alloc lR _).alloc (by simp) _
 have HB := zH b0
 have HK := zH ((Blk.new w 71 #[.int .i64 a.s, .int .i64 a.q, .int .i64 a.e, .slice A a.v.length c, .int .i64 a.n]).alloc (.cells #[.int .i64 b.s, .int .i64 b.q, .int .i64 b.e, .slice A' b.v.length c', .int .i64 b.n] 71))
 have HK' := zH (Blk.new (w.alloc (.cells #[.int .i64 a.s, .int .i64 a.q, .int .i64 a.e, .slice A a.v.length c, .int .i64 a.n] 71)) 71 #[.int .i64 b.s, .int .i64 b.q, .int .i64 b.e, .slice A' b.v.length c', .int .i64 b.n])
 rw [World.size_alloc] at HK'
 obtain ⟨D, hD⟩ : ∃ D : Bool, (decide (a.e = b.e) && decide (a.v = b.v) && decide (a.n = b.n)) = D := ⟨_, rfl⟩
 have HC := zH (sameRes8 _ (n := a.v.length) (n' := b.v.length) (c := c) (c' := c') a.e b.e a.n b.n ha hb (h.fit.below b0) (h'.fit.below b0))
 rw [hD] at HC
 have HD : Hid (decide (a = b) = (decide (a.s = b.s) && (decide (a.q = b.q) && D))) := zH (by
  rw [<- hD, Bool.eq_iff_iff]
  simp only [decide_eq_true_eq, Bool.and_eq_true, Ls.eq_iff]
  constructor
  · rintro ⟨h1, h2, h3, h4, h5⟩; exact ⟨h1, h2, ⟨h3, h4⟩, h5⟩
  · rintro ⟨h1, h2, ⟨h3, h4⟩, h5⟩; exact ⟨h1, h2, h3, h4, h5⟩)
 rw [HD.out]
 clear hD HD h h' b0
 unfold resV at HC
 by_cases h1 : a.s = b.s
 · have r1 : (a.s == b.s) = true := by simpa using h1
   have q1 := zH (decide_eq_true h1)
   clear h1
   by_cases h2 : a.q = b.q
   · have r2 : (a.q == b.q) = true := by simpa using h2
     have q2 := zH (decide_eq_true h2)
     clear h2
     go_enter Tryz.func36, Tryz.ntmps36
     go_upto_region 1 with fail
     generalize (w.alloc (.cells #[.int .i64 a.s, .int .i64 a.q, .int .i64 a.e, .slice A a.v.length c, .int .i64 a.n] 71)).alloc (.cells #[.int .i64 b.s, .int .i64 b.q, .int .i64 b.e, .slice A' b.v.length c', .int .i64 b.n] 71) = wa at HB HK HK' HC |-
     obtain ⟨x0, x1, x2, x3, x4⟩ := five HK.out
     obtain ⟨y0, y1, y2, y3, y4⟩ := five HK'.out
     go_wp2_with (first
      | (go_at_call 120; refine HC.out.mono ?_; rintro en w1 ⟨rfl, hb1⟩)
      | fail)
     go_ret
     exact ⟨ret_bool (by rw [q1.out, q2.out]; simp), HB.out.trans (hb1.mono HB.out.size)⟩
   · have r2 : (a.q == b.q) = false := by simpa using h2
     have q2 := zH (decide_eq_false h2)
     clear h2
     go_enter Tryz.func36, Tryz.ntmps36
     go_upto_region 1 with fail
     generalize (w.alloc (.cells #[.int .i64 a.s, .int .i64 a.q, .int .i64 a.e, .slice A a.v.length c, .int .i64 a.n] 71)).alloc (.cells #[.int .i64 b.s, .int .i64 b.q, .int .i64 b.e, .slice A' b.v.length c', .int .i64 b.n] 71) = wa at HB HK HK' HC |-
     obtain ⟨x0, x1, x2, x3, x4⟩ := five HK.out
     obtain ⟨y0, y1, y2, y3, y4⟩ := five HK'.out
     go_wp2_with fail
     go_ret
     exact ⟨ret_bool (by rw [q2.out]; simp), HB.out⟩
 · have r1 : (a.s == b.s) = false := by simpa using h1
   have q1 := zH (decide_eq_false h1)
   clear h1
   go_enter Tryz.func36, Tryz.ntmps36
   go_upto_region 1 with fail
   generalize (w.alloc (.cells #[.int .i64 a.s, .int .i64 a.q, .int .i64 a.e, .slice A a.v.length c, .int .i64 a.n] 71)).alloc (.cells #[.int .i64 b.s, .int .i64 b.q, .int .i64 b.e, .slice A' b.v.length c', .int .i64 b.n] 71) = wa at HB HK HK' HC |-
   obtain ⟨x0, x1, x2, x3, x4⟩ := five HK.out
   obtain ⟨y0, y1, y2, y3, y4⟩ := five HK'.out
   go_wp2_with fail
   go_ret
   exact ⟨ret_bool (by rw [q1.out]; simp), HB.out⟩
set_option maxHeartbeats 2000000 in
set_option maxRecDepth 100000 in
theorem equalL_any (w : World) {A A' : Option Addr} {n c n' c' B B' : Nat} {ps ps' : List Ls} (hn : n <= 100000) (hn' : n' <= 100000) (hb : BytesLs ps) (hb' : BytesLs ps') (h : RdL w B A n ps) (h' : RdL w B' A' n' ps') :
 Calls Tryz.prog 35 #[.slice A n c, .slice A' n' c', .func (.func 36) #[] #[]] w fun e w' => e = .returned (.bool (decide (ps = ps'))) /\ Below w.heap.size w w' := by
 have hl : ps.length = n := h.length
 have hl' : ps'.length = n' := h'.length
 by_cases hne : n = n'
 · subst hne
   have HL := zH hl
   have HL' := zH hl'
   have H := zH h.fit
   have H' := zH h'.fit
   have HB := zH hb
   have HB' := zH hb'
   clear h h' hl hl' hb hb'
   go_enter Tryz.func35, Tryz.ntmps35
   go_wp2_with fail
   go_loopw [7, 8, 9, 17] (fun _ _ _ i wr => ∃ j : Nat, j <= n /\ i = .int .i64 j /\ Hid (∀ i, i < j -> ps[i]? = ps'[i]?) /\ Hid (Below w.heap.size w wr)) (fun _ _ _ i _ => n - (intOf i).toNat)
   case atStart => exact ⟨0, Nat.zero_le _, rfl, zH (fun i hi => absurd hi (by omega)), zH (Below.refl _ _)⟩
   case round =>
    obtain ⟨j, hj, rfl, HS, HB0⟩ := hrel
    by_cases hlt : j < n
    · obtain ⟨b, o, p, A1, c1, rfl, hp, y0, y1, y2, y3, y4, hrd1⟩ := (H.out.below HB0.out).fit.at hlt
      obtain ⟨b', o', p', A3, c3, rfl, hp', z0, z1, z2, z3, z4, hrd3⟩ := (H'.out.below HB0.out).fit.at hlt
      have b1 : Below wr.heap.size wr (wr.alloc (.cells #[.int .i64 p.s, .int .i64 p.q, .int .i64 p.e, .slice A1 p.v.length c1, .int .i64 p.n] 71)) := (Below.refl _ _).alloc lR _
      have x0 := cell_of b1 z0
      have x1 := cell_of b1 z1
      have x2 := cell_of b1 z2
      have x3 := cell_of b1 z3
      have x4 := cell_of b1 z4
      have b2 := b1.alloc b1.size (.cells #[.int .i64 p'.s, .int .i64 p'.q, .int .i64 p'.e, .slice A3 p'.v.length c3, .int .i64 p'.n] 71)
      have HC := zH (sameLast_any _ (c := c1) (c' := c3) (HB.out p (List.mem_of_getElem? hp)) (HB'.out p' (List.mem_of_getElem? hp')) (hrd1.below b2) (hrd3.below b2))
      have HB2 := zH b2
      have HP := zH hp
      have HP' := zH hp'
      clear hp hp' hrd1 hrd3 z0 z1 z2 z3 z4 b1 b2
      by_cases he : p = p'
      · have HD := zH (decide_eq_true he)
        have HE := zH he
        clear he
        go_wp2_with (first
         | (go_at_call 36; refine HC.out.mono ?_; rw [HD.out]; rintro e w2 ⟨rfl, hb2⟩)
         | fail)
        go_roundw
        case rel =>
         refine ⟨j + 1, by omega, by go_num, zH (fun i hi => ?_), zH (HB0.out.trans ((HB2.out.trans (hb2.mono HB2.out.size)).mono HB0.out.size))⟩
         rcases Nat.lt_or_ge i j with h1 | h1
         · exact HS.out i h1
         · obtain rfl : i = j := by omega
           rw [HP.out, HP'.out, HE.out]
        case measure => simp [intOf]; omega
      · have HD := zH (decide_eq_false he)
        have HE := zH (show decide (ps = ps') = false by
         rw [decide_eq_false_iff_not]
         rintro rfl
         have h1 := HP.out
         rw [HP'.out] at h1
         injection h1 with h1
         exact he h1.symm)
        clear he
        go_wp2_with (first
         | (go_at_call 36; refine HC.out.mono ?_; rw [HD.out]; rintro e w2 ⟨rfl, hb2⟩)
         | fail)
        go_ret
        exact ⟨ret_bool HE.out.symm, HB0.out.trans ((HB2.out.trans (hb2.mono HB2.out.size)).mono HB0.out.size)⟩
    · have HE := zH (show decide (ps = ps') = true by
       rw [decide_eq_true_iff]
       apply List.ext_getElem?
       intro i
       rcases Nat.lt_or_ge i n with h1 | h1
       · exact HS.out i (by omega)
       · rw [List.getElem?_eq_none (by have := HL.out; omega), List.getElem?_eq_none (by have := HL'.out; omega)])
      go_wp2_with fail
      go_ret
      exact ⟨ret_bool HE.out.symm, HB0.out⟩
 · have HE := zH (show decide (ps = ps') = false by rw [decide_eq_false_iff_not]; rintro rfl; omega)
   have hd : ((n : Int) == (n' : Int)) = false := by simp; omega
   have hd2 : ((n : Int) != (n' : Int)) = true := by simp; omega
   clear h h' hl hl' hne
   go_enter Tryz.func35, Tryz.ntmps35
   go_wp2_with fail
   go_ret
   exact ⟨ret_bool HE.out.symm, Below.refl _ _⟩
set_option maxHeartbeats 2000000 in
set_option maxRecDepth 100000 in
theorem same10 (w : World) {a a' : MA} {m m' : Mc} {B B' : Nat} (hM : m.Ok) (hM' : m'.Ok) (h : RdM w B a m) (h' : RdM w B' a' m') :
 Calls Tryz.prog 10 #[machV a m, machV a' m'] w fun e w' => e = .returned (.bool (decide (m = m'))) /\ Below w.heap.size w w' := by
 obtain ⟨⟨A0, Ac0, A1, Ac1, A2, Ac2, A3, Ac3⟩, At, Act⟩ := a
 obtain ⟨⟨D0, Dc0, D1, Dc1, D2, Dc2, D3, Dc3⟩, Dt, Dct⟩ := a'
 have b0 : Below w.heap.size w ((w.alloc (.cells #[.slice A0 m.o.reg.length Ac0, .slice A1 m.o.q.length Ac1, .slice A2 m.o.lk.length Ac2, .slice A3 m.o.mp.length Ac3, .slice At m.t.length Act] 36)).alloc (.cells #[.slice D0 m'.o.reg.length Dc0, .slice D1 m'.o.q.length Dc1, .slice D2 m'.o.lk.length Dc2, .slice D3 m'.o.mp.length Dc3, .slice Dt m'.t.length Dct] 36)) := ((Below.refl _ _).alloc lR _).alloc (by simp) _
 have HB := zH b0
 have H := zH (h.fit.below b0)
 have H' := zH (h'.fit.below b0)
 have HK := zH ((Blk.new w 36 #[.slice A0 m.o.reg.length Ac0, .slice A1 m.o.q.length Ac1, .slice A2 m.o.lk.length Ac2, .slice A3 m.o.mp.length Ac3, .slice At m.t.length Act]).alloc (.cells #[.slice D0 m'.o.reg.length Dc0, .slice D1 m'.o.q.length Dc1, .slice D2 m'.o.lk.length Dc2, .slice D3 m'.o.mp.length Dc3, .slice Dt m'.t.length Dct] 36))
 have HK' := zH (Blk.new (w.alloc (.cells #[.slice A0 m.o.reg.length Ac0, .slice A1 m.o.q.length Ac1, .slice A2 m.o.lk.length Ac2, .slice A3 m.o.mp.length Ac3, .slice At m.t.length Act] 36)) 36 #[.slice D0 m'.o.reg.length Dc0, .slice D1 m'.o.q.length Dc1, .slice D2 m'.o.lk.length Dc2, .slice D3 m'.o.mp.length Dc3, .slice Dt m'.t.length Dct])
 rw [World.size_alloc] at HK'
 have ht8 := hM.t8
 have ht8' := hM'.t8
 have HM := zH hM
 have HM' := zH hM'
 clear h h' b0 hM hM'
 rw [Mc.same_eq]
 unfold machV machC
 simp only
 obtain ⟨S, hS⟩ : ∃ S, m.o.same m'.o = S := ⟨_, rfl⟩
 obtain ⟨T, hT⟩ : ∃ T, decide (m.t = m'.t) = T := ⟨_, rfl⟩
 have C1 := zH (fun w (h : RdO w w.heap.size ⟨A0, Ac0, A1, Ac1, A2, Ac2, A3, Ac3⟩ m.o) (h' : RdO w w.heap.size ⟨D0, Dc0, D1, Dc1, D2, Dc2, D3, Dc3⟩ m'.o) => same8 w HM.out.o HM'.out.o h h')
 have C2 := zH (fun w (h : RdL w w.heap.size At m.t.length m.t) (h' : RdL w w.heap.size Dt m'.t.length m'.t) => equalL_any w (c := Act) (c' := Dct) (by omega) (by omega) HM.out.t.bytes HM'.out.t.bytes h h')
 rw [hS] at C1 |-
 rw [hT] at C2 |-
 clear hS hT
 go_enter Tryz.func10, Tryz.ntmps10
 go_upto_region 1 with fail
 generalize (w.alloc (.cells #[.slice A0 m.o.reg.length Ac0, .slice A1 m.o.q.length Ac1, .slice A2 m.o.lk.length Ac2, .slice A3 m.o.mp.length Ac3, .slice At m.t.length Act] 36)).alloc (.cells #[.slice D0 m'.o.reg.length Dc0, .slice D1 m'.o.q.length Dc1, .slice D2 m'.o.lk.length Dc2, .slice D3 m'.o.mp.length Dc3, .slice Dt m'.t.length Dct] 36) = wa at HB H H' HK HK' |-
 obtain ⟨x0, x1, x2, x3, x4⟩ := five HK.out
 obtain ⟨y0, y1, y2, y3, y4⟩ := five HK'.out
 cases S with
 | true =>
   go_wp2_with (first
    | (go_at_call 34; refine (C1.out wa H.out.o.fit H'.out.o.fit).mono ?_; rintro en w1 ⟨rfl, hb1⟩; have HB1 := zH hb1; clear hb1 x0 x1 x2 x3 x4 y0 y1 y2 y3 y4; obtain ⟨x0, x1, x2, x3, x4⟩ := five (HK.out.below HB1.out); obtain ⟨y0, y1, y2, y3, y4⟩ := five (HK'.out.below HB1.out))
    | (go_at_call 35; refine (C2.out w1 (H.out.fit.below HB1.out).t.fit (H'.out.fit.below HB1.out).t.fit).mono ?_; rintro en w2 ⟨rfl, hb2⟩; have HB2 := zH hb2; clear hb2)
    | fail)
   go_ret
   exact ⟨by simp, HB.out.trans ((HB1.out.trans (HB2.out.mono HB1.out.size)).mono HB.out.size)⟩
 | false =>
   go_wp2_with (first
    | (go_at_call 34; refine (C1.out wa H.out.o.fit H'.out.o.fit).mono ?_; rintro en w1 ⟨rfl, hb1⟩; have HB1 := zH hb1; clear hb1)
    | fail)
   go_ret
   exact ⟨by simp, HB.out.trans (HB1.out.mono HB.out.size)⟩
theorem Cm.eq_iff (a b : Cm) : a = b ↔ a.kind = b.kind /\ a.who = b.who /\ a.key = b.key /\ a.val = b.val /\ a.old = b.old := by
 constructor
 · rintro rfl; exact ⟨rfl, rfl, rfl, rfl, rfl⟩
 · rintro ⟨h1, h2, h3, h4, h5⟩; cases a; cases b; simp at h1 h2 h3 h4 h5; subst h1 h2 h3 h4 h5; rfl
instance : DecidableEq Cm := fun a b => decidable_of_iff _ (Cm.eq_iff a b).symm
set_option maxHeartbeats 2000000 in
set_option maxRecDepth 100000 in
theorem sameCmd_any (w : World) {a a' : CA} {e e' : Cm} {B B' : Nat} (hc : e.Fits) (hc' : e'.Fits) (h : RdC w B a e) (h' : RdC w B' a' e') :
 Calls Tryz.prog 68 #[cmdV a e, cmdV a' e'] w fun en w' => en = .returned (.bool (decide (e = e'))) /\ Below w.heap.size w w' := by
 have b0 : Below w.heap.size w ((w.alloc (.cells #[.int .i64 e.kind, .int .i64 e.who, .slice a.Ak e.key.length a.ck, .slice a.Av e.val.length a.cv, .slice a.Ao e.old.length a.co] 27)).alloc (.cells #[.int .i64 e'.kind, .int .i64 e'.who, .slice a'.Ak e'.key.length a'.ck, .slice a'.Av e'.val.length a'.cv, .slice a'.Ao e'.old.length a'.co] 27)) := ((Below.refl _ _).alloc lR _).alloc (by simp) _
 have HB := zH b0
 have HK := zH ((Blk.new w 27 #[.int .i64 e.kind, .int .i64 e.who, .slice a.Ak e.key.length a.ck, .slice a.Av e.val.length a.cv, .slice a.Ao e.old.length a.co]).alloc (.cells #[.int .i64 e'.kind, .int .i64 e'.who, .slice a'.Ak e'.key.length a'.ck, .slice a'.Av e'.val.length a'.cv, .slice a'.Ao e'.old.length a'.co] 27))
 have HK' := zH (Blk.new (w.alloc (.cells #[.int .i64 e.kind, .int .i64 e.who, .slice a.Ak e.key.length a.ck, .slice a.Av e.val.length a.cv, .slice a.Ao e.old.length a.co] 27)) 27 #[.int .i64 e'.kind, .int .i64 e'.who, .slice a'.Ak e'.key.length a'.ck, .slice a'.Av e'.val.length a'.cv, .slice a'.Ao e'.old.length a'.co])
 rw [World.size_alloc] at HK'
 have r := h.fit.below b0
 have r' := h'.fit.below b0
 have l1 := hc.key.1
 have l2 := hc.val.1
 have l3 := hc.old.1
 have m1 := hc'.key.1
 have m2 := hc'.val.1
 have m3 := hc'.old.1
 have E3 := zH (equal_any _ _ _ _ a.ck _ a'.ck _ _ _ _ (hc.key.2) (hc'.key.2) r.rk r'.rk)
 have E4 := zH (equal_any _ _ _ _ a.cv _ a'.cv _ _ _ _ (hc.val.2) (hc'.val.2) r.rv r'.rv)
 have E5 := zH (equal_any _ _ _ _ a.co _ a'.co _ _ _ _ (hc.old.2) (hc'.old.2) r.ro r'.ro)
 clear r r' l1 l2 l3 m1 m2 m3
 obtain ⟨D1, d1⟩ : ∃ D : Bool, decide (e.kind = e'.kind) = D := ⟨_, rfl⟩
 obtain ⟨D2, d2⟩ : ∃ D : Bool, decide (e.who = e'.who) = D := ⟨_, rfl⟩
 obtain ⟨D3, d3⟩ : ∃ D : Bool, decide (e.key = e'.key) = D := ⟨_, rfl⟩
 obtain ⟨D4, d4⟩ : ∃ D : Bool, decide (e.val = e'.val) = D := ⟨_, rfl⟩
 obtain ⟨D5, d5⟩ : ∃ D : Bool, decide (e.old = e'.old) = D := ⟨_, rfl⟩
 have HD : Hid (decide (e = e') = (D1 && (D2 && (D3 && (D4 && D5))))) := zH (by
  rw [<- d1, <- d2, <- d3, <- d4, <- d5, Bool.eq_iff_iff]
  simp only [decide_eq_true_eq, Bool.and_eq_true, Cm.eq_iff])
 have r1 : (e.kind == e'.kind) = D1 := by rw [<- d1, Bool.eq_iff_iff]; simp
 have r2 : (e.who == e'.who) = D2 := by rw [<- d2, Bool.eq_iff_iff]; simp
 rw [HD.out]
 rw [d3] at E3
 rw [d4] at E4
 rw [d5] at E5
 clear d1 d2 d3 d4 d5 HD h h' b0 hc hc'
 unfold cmdV cmdC
 cases D1 with
 | false =>
   go_enter Tryz.func68, Tryz.ntmps68
   go_upto_region 1 with fail
   generalize (w.alloc (.cells #[.int .i64 e.kind, .int .i64 e.who, .slice a.Ak e.key.length a.ck, .slice a.Av e.val.length a.cv, .slice a.Ao e.old.length a.co] 27)).alloc (.cells #[.int .i64 e'.kind, .int .i64 e'.who, .slice a'.Ak e'.key.length a'.ck, .slice a'.Av e'.val.length a'.cv, .slice a'.Ao e'.old.length a'.co] 27) = wa at HB HK HK' E3 E4 E5 |-
   obtain ⟨x0, x1, x2, x3, x4⟩ := five HK.out
   obtain ⟨y0, y1, y2, y3, y4⟩ := five HK'.out
   go_wp2_with (first
    | (go_at_call 115; refine E3.out.mono ?_; rintro en w1 ⟨rfl, rfl⟩; clear E3)
    | (go_at_call 115; refine E4.out.mono ?_; rintro en w1 ⟨rfl, rfl⟩; clear E4)
    | (go_at_call 115; refine E5.out.mono ?_; rintro en w1 ⟨rfl, rfl⟩; clear E5)
    | fail)
   go_ret
   exact ⟨rfl, HB.out⟩
 | true =>
 cases D2 with
 | false =>
   go_enter Tryz.func68, Tryz.ntmps68
   go_upto_region 1 with fail
   generalize (w.alloc (.cells #[.int .i64 e.kind, .int .i64 e.who, .slice a.Ak e.key.length a.ck, .slice a.Av e.val.length a.cv, .slice a.Ao e.old.length a.co] 27)).alloc (.cells #[.int .i64 e'.kind, .int .i64 e'.who, .slice a'.Ak e'.key.length a'.ck, .slice a'.Av e'.val.length a'.cv, .slice a'.Ao e'.old.length a'.co] 27) = wa at HB HK HK' E3 E4 E5 |-
   obtain ⟨x0, x1, x2, x3, x4⟩ := five HK.out
   obtain ⟨y0, y1, y2, y3, y4⟩ := five HK'.out
   go_wp2_with (first
    | (go_at_call 115; refine E3.out.mono ?_; rintro en w1 ⟨rfl, rfl⟩; clear E3)
    | (go_at_call 115; refine E4.out.mono ?_; rintro en w1 ⟨rfl, rfl⟩; clear E4)
    | (go_at_call 115; refine E5.out.mono ?_; rintro en w1 ⟨rfl, rfl⟩; clear E5)
    | fail)
   go_ret
   exact ⟨rfl, HB.out⟩
 | true =>
 cases D3 with
 | false =>
   go_enter Tryz.func68, Tryz.ntmps68
   go_upto_region 1 with fail
   generalize (w.alloc (.cells #[.int .i64 e.kind, .int .i64 e.who, .slice a.Ak e.key.length a.ck, .slice a.Av e.val.length a.cv, .slice a.Ao e.old.length a.co] 27)).alloc (.cells #[.int .i64 e'.kind, .int .i64 e'.who, .slice a'.Ak e'.key.length a'.ck, .slice a'.Av e'.val.length a'.cv, .slice a'.Ao e'.old.length a'.co] 27) = wa at HB HK HK' E3 E4 E5 |-
   obtain ⟨x0, x1, x2, x3, x4⟩ := five HK.out
   obtain ⟨y0, y1, y2, y3, y4⟩ := five HK'.out
   go_wp2_with (first
    | (go_at_call 115; refine E3.out.mono ?_; rintro en w1 ⟨rfl, rfl⟩; clear E3)
    | (go_at_call 115; refine E4.out.mono ?_; rintro en w1 ⟨rfl, rfl⟩; clear E4)
    | (go_at_call 115; refine E5.out.mono ?_; rintro en w1 ⟨rfl, rfl⟩; clear E5)
    | fail)
   go_ret
   exact ⟨rfl, HB.out⟩
 | true =>
 cases D4 with
 | false =>
   go_enter Tryz.func68, Tryz.ntmps68
   go_upto_region 1 with fail
   generalize (w.alloc (.cells #[.int .i64 e.kind, .int .i64 e.who, .slice a.Ak e.key.length a.ck, .slice a.Av e.val.length a.cv, .slice a.Ao e.old.length a.co] 27)).alloc (.cells #[.int .i64 e'.kind, .int .i64 e'.who, .slice a'.Ak e'.key.length a'.ck, .slice a'.Av e'.val.length a'.cv, .slice a'.Ao e'.old.length a'.co] 27) = wa at HB HK HK' E3 E4 E5 |-
   obtain ⟨x0, x1, x2, x3, x4⟩ := five HK.out
   obtain ⟨y0, y1, y2, y3, y4⟩ := five HK'.out
   go_wp2_with (first
    | (go_at_call 115; refine E3.out.mono ?_; rintro en w1 ⟨rfl, rfl⟩; clear E3)
    | (go_at_call 115; refine E4.out.mono ?_; rintro en w1 ⟨rfl, rfl⟩; clear E4)
    | (go_at_call 115; refine E5.out.mono ?_; rintro en w1 ⟨rfl, rfl⟩; clear E5)
    | fail)
   go_ret
   exact ⟨rfl, HB.out⟩
 | true =>
 cases D5 with
 | false =>
   go_enter Tryz.func68, Tryz.ntmps68
   go_upto_region 1 with fail
   generalize (w.alloc (.cells #[.int .i64 e.kind, .int .i64 e.who, .slice a.Ak e.key.length a.ck, .slice a.Av e.val.length a.cv, .slice a.Ao e.old.length a.co] 27)).alloc (.cells #[.int .i64 e'.kind, .int .i64 e'.who, .slice a'.Ak e'.key.length a'.ck, .slice a'.Av e'.val.length a'.cv, .slice a'.Ao e'.old.length a'.co] 27) = wa at HB HK HK' E3 E4 E5 |-
   obtain ⟨x0, x1, x2, x3, x4⟩ := five HK.out
   obtain ⟨y0, y1, y2, y3, y4⟩ := five HK'.out
   go_wp2_with (first
    | (go_at_call 115; refine E3.out.mono ?_; rintro en w1 ⟨rfl, rfl⟩; clear E3)
    | (go_at_call 115; refine E4.out.mono ?_; rintro en w1 ⟨rfl, rfl⟩; clear E4)
    | (go_at_call 115; refine E5.out.mono ?_; rintro en w1 ⟨rfl, rfl⟩; clear E5)
    | fail)
   go_ret
   exact ⟨rfl, HB.out⟩
 | true =>
   go_enter Tryz.func68, Tryz.ntmps68
   go_upto_region 1 with fail
   generalize (w.alloc (.cells #[.int .i64 e.kind, .int .i64 e.who, .slice a.Ak e.key.length a.ck, .slice a.Av e.val.length a.cv, .slice a.Ao e.old.length a.co] 27)).alloc (.cells #[.int .i64 e'.kind, .int .i64 e'.who, .slice a'.Ak e'.key.length a'.ck, .slice a'.Av e'.val.length a'.cv, .slice a'.Ao e'.old.length a'.co] 27) = wa at HB HK HK' E3 E4 E5 |-
   obtain ⟨x0, x1, x2, x3, x4⟩ := five HK.out
   obtain ⟨y0, y1, y2, y3, y4⟩ := five HK'.out
   go_wp2_with (first
    | (go_at_call 115; refine E3.out.mono ?_; rintro en w1 ⟨rfl, rfl⟩; clear E3)
    | (go_at_call 115; refine E4.out.mono ?_; rintro en w1 ⟨rfl, rfl⟩; clear E4)
    | (go_at_call 115; refine E5.out.mono ?_; rintro en w1 ⟨rfl, rfl⟩; clear E5)
    | fail)
   go_ret
   exact ⟨rfl, HB.out⟩
set_option maxHeartbeats 2000000 in
set_option maxRecDepth 100000 in
theorem sameE10 : SameEC10 := by
 intro w a a' e e' B B' hc hc' h h'
 have b0 : Below w.heap.size w ((w.alloc (.cells #[.int .i64 e.s, .int .i64 e.q, .int .i64 e.c.kind, .int .i64 e.c.who, .slice a.Ak e.c.key.length a.ck, .slice a.Av e.c.val.length a.cv, .slice a.Ao e.c.old.length a.co] 29)).alloc (.cells #[.int .i64 e'.s, .int .i64 e'.q, .int .i64 e'.c.kind, .int .i64 e'.c.who, .slice a'.Ak e'.c.key.length a'.ck, .slice a'.Av e'.c.val.length a'.cv, .slice a'.Ao e'.c.old.length a'.co] 29)) := ((Below.refl _ _).alloc lR _).alloc (by simp) _
 have HB := zH b0
 have HK := zH ((Blk.new w 29 #[.int .i64 e.s, .int .i64 e.q, .int .i64 e.c.kind, .int .i64 e.c.who, .slice a.Ak e.c.key.length a.ck, .slice a.Av e.c.val.length a.cv, .slice a.Ao e.c.old.length a.co]).alloc (.cells #[.int .i64 e'.s, .int .i64 e'.q, .int .i64 e'.c.kind, .int .i64 e'.c.who, .slice a'.Ak e'.c.key.length a'.ck, .slice a'.Av e'.c.val.length a'.cv, .slice a'.Ao e'.c.old.length a'.co] 29))
 have HK' := zH (Blk.new (w.alloc (.cells #[.int .i64 e.s, .int .i64 e.q, .int .i64 e.c.kind, .int .i64 e.c.who, .slice a.Ak e.c.key.length a.ck, .slice a.Av e.c.val.length a.cv, .slice a.Ao e.c.old.length a.co] 29)) 29 #[.int .i64 e'.s, .int .i64 e'.q, .int .i64 e'.c.kind, .int .i64 e'.c.who, .slice a'.Ak e'.c.key.length a'.ck, .slice a'.Av e'.c.val.length a'.cv, .slice a'.Ao e'.c.old.length a'.co])
 rw [World.size_alloc] at HK'
 have HC := zH (sameCmd_any _ hc hc' (h.fit.below b0) (h'.fit.below b0))
 obtain ⟨D1, d1⟩ : ∃ D : Bool, decide (e.s = e'.s) = D := ⟨_, rfl⟩
 obtain ⟨D2, d2⟩ : ∃ D : Bool, decide (e.q = e'.q) = D := ⟨_, rfl⟩
 obtain ⟨D3, d3⟩ : ∃ D : Bool, decide (e.c = e'.c) = D := ⟨_, rfl⟩
 have HD : Hid (decide (e = e') = (D1 && (D2 && D3))) := zH (by
  rw [<- d1, <- d2, <- d3, Bool.eq_iff_iff]
  simp only [decide_eq_true_eq, Bool.and_eq_true, En.eq_iff, Cm.eq_iff])
 have r1 : (e.s == e'.s) = D1 := by rw [<- d1, Bool.eq_iff_iff]; simp
 have r2 : (e.q == e'.q) = D2 := by rw [<- d2, Bool.eq_iff_iff]; simp
 rw [HD.out]
 rw [d3] at HC
 clear d1 d2 d3 HD h h' b0 hc hc'
 unfold entV entC
 unfold cmdV cmdC at HC
 cases D1 with
 | false =>
   go_enter Tryz.func22, Tryz.ntmps22
   go_upto_region 1 with fail
   generalize (w.alloc (.cells #[.int .i64 e.s, .int .i64 e.q, .int .i64 e.c.kind, .int .i64 e.c.who, .slice a.Ak e.c.key.length a.ck, .slice a.Av e.c.val.length a.cv, .slice a.Ao e.c.old.length a.co] 29)).alloc (.cells #[.int .i64 e'.s, .int .i64 e'.q, .int .i64 e'.c.kind, .int .i64 e'.c.who, .slice a'.Ak e'.c.key.length a'.ck, .slice a'.Av e'.c.val.length a'.cv, .slice a'.Ao e'.c.old.length a'.co] 29) = wa at HB HK HK' HC |-
   obtain ⟨x0, x1, x2, x3, x4, x5, x6⟩ := seven HK.out
   obtain ⟨y0, y1, y2, y3, y4, y5, y6⟩ := seven HK'.out
   go_wp2_with (first
    | (go_at_call 68; refine HC.out.mono ?_; rintro en w1 ⟨rfl, hb1⟩)
    | fail)
   go_ret
   exact ⟨rfl, HB.out⟩
 | true =>
 cases D2 with
 | false =>
   go_enter Tryz.func22, Tryz.ntmps22
   go_upto_region 1 with fail
   generalize (w.alloc (.cells #[.int .i64 e.s, .int .i64 e.q, .int .i64 e.c.kind, .int .i64 e.c.who, .slice a.Ak e.c.key.length a.ck, .slice a.Av e.c.val.length a.cv, .slice a.Ao e.c.old.length a.co] 29)).alloc (.cells #[.int .i64 e'.s, .int .i64 e'.q, .int .i64 e'.c.kind, .int .i64 e'.c.who, .slice a'.Ak e'.c.key.length a'.ck, .slice a'.Av e'.c.val.length a'.cv, .slice a'.Ao e'.c.old.length a'.co] 29) = wa at HB HK HK' HC |-
   obtain ⟨x0, x1, x2, x3, x4, x5, x6⟩ := seven HK.out
   obtain ⟨y0, y1, y2, y3, y4, y5, y6⟩ := seven HK'.out
   go_wp2_with (first
    | (go_at_call 68; refine HC.out.mono ?_; rintro en w1 ⟨rfl, hb1⟩)
    | fail)
   go_ret
   exact ⟨rfl, HB.out⟩
 | true =>
   go_enter Tryz.func22, Tryz.ntmps22
   go_upto_region 1 with fail
   generalize (w.alloc (.cells #[.int .i64 e.s, .int .i64 e.q, .int .i64 e.c.kind, .int .i64 e.c.who, .slice a.Ak e.c.key.length a.ck, .slice a.Av e.c.val.length a.cv, .slice a.Ao e.c.old.length a.co] 29)).alloc (.cells #[.int .i64 e'.s, .int .i64 e'.q, .int .i64 e'.c.kind, .int .i64 e'.c.who, .slice a'.Ak e'.c.key.length a'.ck, .slice a'.Av e'.c.val.length a'.cv, .slice a'.Ao e'.c.old.length a'.co] 29) = wa at HB HK HK' HC |-
   obtain ⟨x0, x1, x2, x3, x4, x5, x6⟩ := seven HK.out
   obtain ⟨y0, y1, y2, y3, y4, y5, y6⟩ := seven HK'.out
   go_wp2_with (first
    | (go_at_call 68; refine HC.out.mono ?_; rintro en w1 ⟨rfl, hb1⟩)
    | fail)
   go_ret
   exact ⟨rfl, HB.out.trans (hb1.mono HB.out.size)⟩
theorem sameM10 : SameC10 := fun w _ _ _ _ _ _ h1 h2 h3 h4 => same10 w h1 h2 h3 h4
theorem awake10 : AwakeC10 := machAwake step10 encode10 decode10 sameM10 sameE10
end Go.Proofs.YtlgpglhbbkikpaaGreat
