/- ObjsApply SessCode2 SessCode MachStep MachPut -/
import Derived.Test.YthfnnieklkaefaaGreatS06
import Derived.Test.YthfnnieklkaefaaGreatS09
import Derived.Test.YthfnnieklkaefaaGreatS11
import Derived.Test.YthfnnieklkaefaaGreatS14
import Derived.Test.YthfnnieklkaefaaGreatS15
import Derived.Test.YthfnnieklkaefaaGreatS16
import Derived.Deep.CutBlock
import Derived.Deep.RegionHeld3
import Derived.Deep.RegionLaw
namespace Go.Proofs.YthfnnieklkaefaaGreat
open Go.RowKit
set_option linter.unusedVariables false
/-- the variables of Apply: s, c, the two answers', next -/
structure VarsN (w wx : World) (b h : Nat) (a0 : OA) (s0 : Ob) (a : OA) (s : Ob) (ca : CA) (c : Cm) : Prop where
  vs : Blk wx b 34 (objC a0 s0)
  vc : Blk wx (b + 1) 26 (cmdC ca c)
  v2 : Blk wx (b + 1 + 1) 34 #[.slice none 0 0, .slice none 0 0, .slice none 0 0, .slice none 0 0]
  v3 : Blk wx (b + 1 + 1 + 1) 40 zeroR
  nx : Blk wx h 34 (objC a s)
  own : OwnO w wx a s
  bel : Below w.heap.size w wx
  lt : b + 1 + 1 + 1 < h
theorem VarsN.below {w wx wy : World} {b h : Nat} {a0 a : OA} {s0 s : Ob} {ca : CA} {c : Cm} (H : VarsN w wx b h a0 s0 a s ca c) (hb : Below wx.heap.size wx wy) : VarsN w wy b h a0 s0 a s ca c :=
  ⟨H.vs.below hb, H.vc.below hb, H.v2.below hb, H.v3.below hb, H.nx.below hb, H.own.below hb, H.bel.trans (hb.mono H.bel.size), H.lt⟩
section
variable {w wx : World} {b h g : Nat} {a0 a : OA} {s0 s : Ob} {ca : CA} {c : Cm} {x0 x1 x2 : Value}
/-- one cell of the answer's variable is written -/
theorem VarsN.res0 (H : VarsN w wx b h a0 s0 a s ca c) (hw : w.heap.size ≤ g) (hk : Blk wx g 40 #[x0, x1, x2]) (hg : g ≠ b + 1 + 1 + 1) (x : Value) :
    VarsN w (wx.setCell ⟨g, 0, none⟩ x) b h a0 s0 a s ca c ∧ Blk (wx.setCell ⟨g, 0, none⟩ x) g 40 #[x, x1, x2] := by
  have q1 : 5 ≠ 40 := by decide
  have q2 : 24 ≠ 40 := by decide
  have q3 : 3 ≠ 40 := by decide
  have q4 : 86 ≠ 40 := by decide
  have n0 : b ≠ g := H.vs.apart hk (by decide)
  have n1 : b + 1 ≠ g := H.vc.apart hk (by decide)
  have n2 : b + 1 + 1 ≠ g := H.v2.apart hk (by decide)
  have n3 : h ≠ g := H.nx.apart hk (by decide)
  exact ⟨⟨H.vs.set_other n0, H.vc.set_other n1, H.v2.set_other n2, H.v3.set_other hg.symm, H.nx.set_other n3,
    H.own.set_t hk q1 q2 q3 q4, H.bel.setCell (p := ⟨g, 0, none⟩) hw _, H.lt⟩, hk.set_ 0 x⟩
/-- the answer's variable is written -/
theorem VarsN.res (H : VarsN w wx b h a0 s0 a s ca c) (hw : w.heap.size ≤ g) (hk : Blk wx g 40 #[x0, x1, x2]) (hg : g ≠ b + 1 + 1 + 1) (x y z : Value) :
    VarsN w (((wx.setCell ⟨g, 0, none⟩ x).setCell ⟨g, 1, none⟩ y).setCell ⟨g, 2, none⟩ z) b h a0 s0 a s ca c ∧ Blk (((wx.setCell ⟨g, 0, none⟩ x).setCell ⟨g, 1, none⟩ y).setCell ⟨g, 2, none⟩ z) g 40 #[x, y, z] := by
  have q1 : 5 ≠ 40 := by decide
  have q2 : 24 ≠ 40 := by decide
  have q3 : 3 ≠ 40 := by decide
  have q4 : 86 ≠ 40 := by decide
  have n0 : b ≠ g := H.vs.apart hk (by decide)
  have n1 : b + 1 ≠ g := H.vc.apart hk (by decide)
  have n2 : b + 1 + 1 ≠ g := H.v2.apart hk (by decide)
  have n3 : h ≠ g := H.nx.apart hk (by decide)
  have k1 := hk.set_ 0 x
  have k2 := k1.set_ 1 y
  exact ⟨⟨((H.vs.set_other n0).set_other n0).set_other n0, ((H.vc.set_other n1).set_other n1).set_other n1, ((H.v2.set_other n2).set_other n2).set_other n2, ((H.v3.set_other hg.symm).set_other hg.symm).set_other hg.symm, ((H.nx.set_other n3).set_other n3).set_other n3,
    ((H.own.set_t hk q1 q2 q3 q4).set_t k1 q1 q2 q3 q4).set_t k2 q1 q2 q3 q4, ((H.bel.setCell (p := ⟨g, 0, none⟩) hw _).setCell (p := ⟨g, 1, none⟩) hw _).setCell (p := ⟨g, 2, none⟩) hw _, H.lt⟩, k2.set_ 2 z⟩
/-- next is written -/
theorem VarsN.set (H : VarsN w wx b h a0 s0 a s ca c) (hw : w.heap.size ≤ b) (i : Nat) (u : Value) {a' : OA} {s' : Ob} (hc : (objC a s).setIfInBounds i u = objC a' s') (ho : OwnO w wx a' s') : VarsN w (wx.setCell ⟨h, i, none⟩ u) b h a0 s0 a' s' ca c := by
  have q1 : 5 ≠ 34 := by decide
  have k1 := H.nx.set_ i u
  rw [hc] at k1
  have hl := H.lt
  have hwh : w.heap.size ≤ h := by omega
  exact ⟨H.vs.set_other (by omega), H.vc.set_other (by omega), H.v2.set_other (by omega), H.v3.set_other (by omega), k1, ho.set_t H.nx q1 (by decide) (by decide) (by decide), H.bel.setCell (p := ⟨h, i, none⟩) hwh _, hl⟩
/-- the walk's end behind a call that only answers -/
theorem VarsN.done (H : VarsN w wx b h a0 s0 a s ca c) (hk : Blk wx g 40 #[x0, x1, x2]) (hg : h ≠ g ∧ w.heap.size ≤ g ∧ g ≠ b + 1 + 1 + 1) {Ar : Option Addr} {cr : Nat} {v : List Nat} {e n : Int} (hv : OwnB w wx Ar v.length cr v) {r : Ans} (hr : r = ⟨s, e, v, n⟩) :
    ∃ a' Ar' cr', Hid (VarsN w (((wx.setCell ⟨g, 0, none⟩ (.int .i64 e)).setCell ⟨g, 1, none⟩ (.slice Ar v.length cr)).setCell ⟨g, 2, none⟩ (.int .i64 n)) b h a0 s0 a' r.s ca c) ∧
      Hid (Blk (((wx.setCell ⟨g, 0, none⟩ (.int .i64 e)).setCell ⟨g, 1, none⟩ (.slice Ar v.length cr)).setCell ⟨g, 2, none⟩ (.int .i64 n)) g 40 #[.int .i64 r.e, .slice Ar' r.v.length cr', .int .i64 r.n]) ∧
      Hid (OwnB w (((wx.setCell ⟨g, 0, none⟩ (.int .i64 e)).setCell ⟨g, 1, none⟩ (.slice Ar v.length cr)).setCell ⟨g, 2, none⟩ (.int .i64 n)) Ar' r.v.length cr' r.v) := by
  subst hr
  obtain ⟨q1, q2⟩ := H.res hg.2.1 hk hg.2.2 (.int .i64 e) (.slice Ar v.length cr) (.int .i64 n)
  exact ⟨a, Ar, cr, Lib.hid q1, Lib.hid q2, Lib.hid (own_res hv hk _ _ _)⟩
/-- .. that makes one of the objects anew -/
theorem VarsN.doneSet (H : VarsN w wx b h a0 s0 a s ca c) (hk : Blk wx g 40 #[x0, x1, x2]) (hg : h ≠ g ∧ w.heap.size ≤ g ∧ g ≠ b + 1 + 1 + 1) (hw : w.heap.size ≤ b) (i : Nat) (u : Value) (a' : OA) (s' : Ob) (hc : (objC a s).setIfInBounds i u = objC a' s') (ho : OwnO w wx a' s')
    {Ar : Option Addr} {cr : Nat} {v : List Nat} {e n : Int} (hv : OwnB w wx Ar v.length cr v) {r : Ans} (hr : r = ⟨s', e, v, n⟩) :
    ∃ a' Ar' cr', Hid (VarsN w ((((wx.setCell ⟨h, i, none⟩ u).setCell ⟨g, 0, none⟩ (.int .i64 e)).setCell ⟨g, 1, none⟩ (.slice Ar v.length cr)).setCell ⟨g, 2, none⟩ (.int .i64 n)) b h a0 s0 a' r.s ca c) ∧
      Hid (Blk ((((wx.setCell ⟨h, i, none⟩ u).setCell ⟨g, 0, none⟩ (.int .i64 e)).setCell ⟨g, 1, none⟩ (.slice Ar v.length cr)).setCell ⟨g, 2, none⟩ (.int .i64 n)) g 40 #[.int .i64 r.e, .slice Ar' r.v.length cr', .int .i64 r.n]) ∧
      Hid (OwnB w ((((wx.setCell ⟨h, i, none⟩ u).setCell ⟨g, 0, none⟩ (.int .i64 e)).setCell ⟨g, 1, none⟩ (.slice Ar v.length cr)).setCell ⟨g, 2, none⟩ (.int .i64 n)) Ar' r.v.length cr' r.v) :=
  VarsN.done (H.set hw i u hc ho) (hk.set_other hg.1.symm) hg (own_set_t hv H.nx (by decide)) hr
/-- the two answers' variables are written -/
theorem VarsN.end_ (H : VarsN w wx b h a0 s0 a s ca c) (hw : w.heap.size ≤ b) {Ar : Option Addr} {cr n : Nat} {v : List Nat} (hv : OwnB w wx Ar n cr v) (x0 x1 x2 x3 y0 y1 y2 : Value) :
    let wy := (((((((wx.setCell ⟨b + 1 + 1, 0, none⟩ x0).setCell ⟨b + 1 + 1, 1, none⟩ x1).setCell ⟨b + 1 + 1, 2, none⟩ x2).setCell ⟨b + 1 + 1, 3, none⟩ x3).setCell ⟨b + 1 + 1 + 1, 0, none⟩ y0).setCell ⟨b + 1 + 1 + 1, 1, none⟩ y1).setCell ⟨b + 1 + 1 + 1, 2, none⟩ y2)
    Blk wy (b + 1 + 1) 34 #[x0, x1, x2, x3] ∧ Blk wy (b + 1 + 1 + 1) 40 #[y0, y1, y2] ∧ OwnO w wy a s ∧ OwnB w wy Ar n cr v ∧ Below w.heap.size w wy := by
  intro wy
  have k0 := H.v2
  have k1 := k0.set_ 0 x0
  have k2 := k1.set_ 1 x1
  have k3 := k2.set_ 2 x2
  have k4 := k3.set_ 3 x3
  have l0 := (((H.v3.set_other (i := 0) (u := x0) (b := b + 1 + 1) (by omega)).set_other (i := 1) (u := x1) (b := b + 1 + 1) (by omega)).set_other (i := 2) (u := x2) (b := b + 1 + 1) (by omega)).set_other (i := 3) (u := x3) (b := b + 1 + 1) (by omega)
  have l1 := l0.set_ 0 y0
  have l2 := l1.set_ 1 y1
  have l3 := l2.set_ 2 y2
  have q1 : 5 ≠ 34 := by decide
  have q2 : 24 ≠ 34 := by decide
  have q3 : 3 ≠ 34 := by decide
  have q4 : 86 ≠ 34 := by decide
  have r1 : 5 ≠ 40 := by decide
  have r2 : 24 ≠ 40 := by decide
  have r3 : 3 ≠ 40 := by decide
  have r4 : 86 ≠ 40 := by decide
  have hw2 : w.heap.size ≤ b + 1 + 1 := by omega
  have hw3 : w.heap.size ≤ b + 1 + 1 + 1 := by omega
  refine ⟨((k4.set_other (i := 0) (u := y0) (b := b + 1 + 1 + 1) (by omega)).set_other (i := 1) (u := y1) (b := b + 1 + 1 + 1) (by omega)).set_other (i := 2) (u := y2) (b := b + 1 + 1 + 1) (by omega), l3,
    ((((((H.own.set_t k0 q1 q2 q3 q4).set_t k1 q1 q2 q3 q4).set_t k2 q1 q2 q3 q4).set_t k3 q1 q2 q3 q4).set_t l0 r1 r2 r3 r4).set_t l1 r1 r2 r3 r4).set_t l2 r1 r2 r3 r4,
    own_set_t (own_set_t (own_set_t (own_set_t (own_set_t (own_set_t (own_set_t hv k0 q1) k1 q1) k2 q1) k3 q1) l0 r1) l1 r1) l2 r1,
    ((((((H.bel.setCell (p := ⟨b + 1 + 1, 0, none⟩) hw2 _).setCell (p := ⟨b + 1 + 1, 1, none⟩) hw2 _).setCell (p := ⟨b + 1 + 1, 2, none⟩) hw2 _).setCell (p := ⟨b + 1 + 1, 3, none⟩) hw2 _).setCell (p := ⟨b + 1 + 1 + 1, 0, none⟩) hw3 _).setCell (p := ⟨b + 1 + 1 + 1, 1, none⟩) hw3 _).setCell (p := ⟨b + 1 + 1 + 1, 2, none⟩) hw3 _⟩
end
/-- a command that can't be handed on -/
theorem Ob.apply_bad {s : Ob} {c : Cm} (h : c.known = false) : s.apply c = ⟨s, 7, [], 0⟩ := by
  have h := of_decide_eq_false h
  unfold Ob.apply
  rw [if_neg (by omega), if_neg (by omega), if_neg (by omega), if_neg (by omega), if_neg (by omega), if_neg (by omega), if_neg (by omega), if_neg (by omega), if_neg (by omega), if_neg (by omega), if_neg (by omega)]
set_option maxHeartbeats 8000000 in
set_option maxRecDepth 100000 in
theorem apply8_raw {w : World} {a : OA} {ca : CA} {s : Ob} {c : Cm} {B B' : Nat} (hI : s.Inv) (hc : c.Fits) (h : RdO w B a s) (h' : RdC w B' ca c) :
    Calls Tryz.prog 32 #[objV a s, cmdV ca c] w (GotO w w (s.apply c)) := by
  obtain ⟨A0, c0, A1, c1, A2, c2, A3, c3⟩ := a
  obtain ⟨Ak, ck, Av, cv, Ao, co⟩ := ca
  have HI := Lib.hid hI
  have HF := Lib.hid hc
  obtain ⟨b, hb⟩ : ∃ b, w.heap.size = b := ⟨_, rfl⟩
  obtain ⟨wz, hwz⟩ : ∃ wz, (((w.alloc (.cells (objC ⟨A0, c0, A1, c1, A2, c2, A3, c3⟩ s) 34)).alloc (.cells (cmdC ⟨Ak, ck, Av, cv, Ao, co⟩ c) 26)).alloc (.cells #[.slice none 0 0, .slice none 0 0, .slice none 0 0, .slice none 0 0] 34)).alloc (.cells zeroR 40) = wz := ⟨_, rfl⟩
  have hbz : Below w.heap.size w wz := by
    rw [← hwz]; exact ((((Below.refl _ _).alloc (Nat.le_refl _) _).alloc (by simp) _).alloc (by simp; omega) _).alloc (by simp; omega) _
  have H := Lib.hid ((h.fit.below hbz).fit)
  have H' := Lib.hid ((h'.fit.below hbz).fit)
  have HC0 := Lib.hid h'.fit
  have HS0 := Lib.hid h.fit
  have HBZ := Lib.hid hbz
  have HV : Hid (Blk wz b 34 (objC ⟨A0, c0, A1, c1, A2, c2, A3, c3⟩ s) ∧ Blk wz (b + 1) 26 (cmdC ⟨Ak, ck, Av, cv, Ao, co⟩ c) ∧ Blk wz (b + 1 + 1) 34 #[.slice none 0 0, .slice none 0 0, .slice none 0 0, .slice none 0 0] ∧ Blk wz (b + 1 + 1 + 1) 40 zeroR) := Lib.hid (by
    subst hb
    rw [← hwz]
    refine ⟨(((Blk.new _ _ _).alloc _).alloc _).alloc _, ?_, ?_, ?_⟩
    · have := ((Blk.new (w.alloc (.cells (objC ⟨A0, c0, A1, c1, A2, c2, A3, c3⟩ s) 34)) 26 (cmdC ⟨Ak, ck, Av, cv, Ao, co⟩ c)).alloc (.cells #[.slice none 0 0, .slice none 0 0, .slice none 0 0, .slice none 0 0] 34)).alloc (.cells zeroR 40)
      rwa [World.size_alloc] at this
    · have := (Blk.new ((w.alloc (.cells (objC ⟨A0, c0, A1, c1, A2, c2, A3, c3⟩ s) 34)).alloc (.cells (cmdC ⟨Ak, ck, Av, cv, Ao, co⟩ c) 26)) 34 #[.slice none 0 0, .slice none 0 0, .slice none 0 0, .slice none 0 0]).alloc (.cells zeroR 40)
      rwa [World.size_alloc, World.size_alloc] at this
    · have := Blk.new (((w.alloc (.cells (objC ⟨A0, c0, A1, c1, A2, c2, A3, c3⟩ s) 34)).alloc (.cells (cmdC ⟨Ak, ck, Av, cv, Ao, co⟩ c) 26)).alloc (.cells #[.slice none 0 0, .slice none 0 0, .slice none 0 0, .slice none 0 0] 34)) 40 zeroR
      rwa [World.size_alloc, World.size_alloc, World.size_alloc] at this)
  have HW := Lib.hid hwz
  have HBB := Lib.hid hb
  clear h h' hI hc hbz hwz hb
  unfold objV cmdV
  simp only [objC, cmdC] at HW ⊢
  go_enter Tryz.func32, Tryz.ntmps32
  go_upto_region 1 with fail
  rw [HBB.out]
  rw [HW.out]
  have hv := HV.out.1
  simp only [objC] at hv
  obtain ⟨p0, p1, p2, p3, _, _, _, _⟩ := four hv
  clear hv
  go_upto_region 3 with (first
    | (go_at_call 84; refine (copied8 (W := w) (a := ⟨A0, c0, A1, c1, A2, c2, A3, c3⟩) HI.out H.out HBZ.out).mono ?_; rintro e w1 ⟨⟨A5, c5, A6, c6, A7, c7, A8, c8⟩, rfl, ho1, hB1, hb1⟩; unfold objV; simp only [objC])
    | fail)
  have HWB := Lib.hid (show w.heap.size ≤ b by have := HBB.out; omega)
  obtain ⟨h, hh⟩ : ∃ x, w1.heap.size = x := ⟨_, rfl⟩
  have hb2 : Below w1.heap.size w1 (w1.alloc (.cells #[.slice A5 s.reg.length c5, .slice A6 s.q.length c6, .slice A7 s.lk.length c7, .slice A8 s.mp.length c8] 34)) := (Below.refl _ _).alloc (Nat.le_refl _) _
  have hb3 := hb2.alloc (Nat.le_of_lt (by simp)) (.cells zeroR 40)
  have HX3 : Hid (VarsN w ((w1.alloc (.cells #[.slice A5 s.reg.length c5, .slice A6 s.q.length c6, .slice A7 s.lk.length c7, .slice A8 s.mp.length c8] 34)).alloc (.cells zeroR 40)) b h ⟨A0, c0, A1, c1, A2, c2, A3, c3⟩ s ⟨A5, c5, A6, c6, A7, c7, A8, c8⟩ s ⟨Ak, ck, Av, cv, Ao, co⟩ c) := Lib.hid (by
    have hbb := hb1.trans (hb3.mono hb1.size)
    have k1 := HV.out.2.2.2.lt
    have k2 := hb1.size
    refine ⟨HV.out.1.below hbb, HV.out.2.1.below hbb, HV.out.2.2.1.below hbb, HV.out.2.2.2.below hbb, ?_, ho1.below hb3, hB1.trans (hb3.mono hB1.size), by omega⟩
    rw [← hh]
    exact (Blk.new _ _ _).alloc _)
  have HK3 : Hid (Blk ((w1.alloc (.cells #[.slice A5 s.reg.length c5, .slice A6 s.q.length c6, .slice A7 s.lk.length c7, .slice A8 s.mp.length c8] 34)).alloc (.cells zeroR 40)) (h + 1) 40 zeroR) := Lib.hid (by
    have := Blk.new (w1.alloc (.cells #[.slice A5 s.reg.length c5, .slice A6 s.q.length c6, .slice A7 s.lk.length c7, .slice A8 s.mp.length c8] 34)) 40 zeroR
    rwa [World.size_alloc, hh] at this)
  have HGB : Hid (h ≠ h + 1 ∧ w.heap.size ≤ h + 1 ∧ h + 1 ≠ b + 1 + 1 + 1) := Lib.hid (by have h1 := HX3.out.lt; have h3 := HWB.out; omega)
  rw [hh]
  obtain ⟨w3, hw3⟩ : ∃ x, (w1.alloc (.cells #[.slice A5 s.reg.length c5, .slice A6 s.q.length c6, .slice A7 s.lk.length c7, .slice A8 s.mp.length c8] 34)).alloc (.cells zeroR 40) = x := ⟨_, rfl⟩
  rw [hw3] at HX3 HK3 ⊢
  have HHG := Lib.hid (show h + 1 = h + 1 from rfl)
  obtain ⟨g, hg⟩ : ∃ x, h + 1 = x := ⟨_, rfl⟩
  rw [hg] at HK3 HGB ⊢
  clear hw3 hb1 hb2 hb3 ho1 hB1 hh hg HHG H H' HV HW HBZ p0 p1 p2 p3
  have hy := HX3.out.vc
  simp only [cmdC] at hy
  obtain ⟨y0, y1, y2, y3, y4⟩ := five hy
  clear hy
  have hkn : ∀ w, Calls Tryz.prog 87 #[.agg #[.int .i64 c.kind, .int .i64 c.who, .slice Ak c.key.length ck, .slice Av c.val.length cv, .slice Ao c.old.length co]] w fun e w' => e = .returned (.bool c.known) ∧ Below w.heap.size w w' := fun w => isKnown_any w ⟨Ak, ck, Av, cv, Ao, co⟩ c
  have hgh : g ≠ h := HGB.out.1.symm
  have hhg : h ≠ g := HGB.out.1
  cases hq : c.known with
  | false =>
    rw [hq] at hkn
    have HKN := Lib.hid hkn
    have HQ0 := Lib.hid (Ob.apply_bad (s := s) hq)
    clear hkn hq
    go_upto_region 5 with (first
      | (go_at_call 87; refine (HKN.out _).mono ?_; rintro e w4 ⟨rfl, hb4⟩; have HX4 := Lib.hid (HX3.out.below hb4); have HK4 := Lib.hid (HK3.out.below hb4); obtain ⟨z0, z1, z2, d0, d1, d2⟩ := three HK4.out)
      | fail)
    have hrr := HX4.out.res0 HGB.out.2.1 HK4.out HGB.out.2.2 (.int .i64 7)
    obtain ⟨r, hr⟩ : ∃ r, s.apply c = r := ⟨_, rfl⟩
    have hr2 : r = ⟨s, 7, [], 0⟩ := hr.symm.trans HQ0.out
    obtain ⟨w5, hw5⟩ : ∃ x, w4.setCell ⟨g, 0, none⟩ (.int .i64 7) = x := ⟨_, rfl⟩
    rw [hw5] at hrr ⊢
    have HX5 : Hid (VarsN w w5 b h ⟨A0, c0, A1, c1, A2, c2, A3, c3⟩ s ⟨A5, c5, A6, c6, A7, c7, A8, c8⟩ r.s ⟨Ak, ck, Av, cv, Ao, co⟩ c) := Lib.hid (by rw [hr2]; exact hrr.1)
    have HK5 : Hid (Blk w5 g 40 #[.int .i64 r.e, .slice none r.v.length 0, .int .i64 r.n]) := Lib.hid (by rw [hr2]; exact hrr.2)
    have HV5 : Hid (OwnB w w5 none r.v.length 0 r.v) := Lib.hid (by rw [hr2]; exact own_nil _ _)
    have HR := Lib.hid hr
    have hsl : s = r.s := by rw [hr2]
    obtain ⟨A5', h5⟩ : ∃ x, A5 = x := ⟨_, rfl⟩
    obtain ⟨A6', h6⟩ : ∃ x, A6 = x := ⟨_, rfl⟩
    obtain ⟨A7', h7⟩ : ∃ x, A7 = x := ⟨_, rfl⟩
    obtain ⟨A8', h8⟩ : ∃ x, A8 = x := ⟨_, rfl⟩
    obtain ⟨c5', k5⟩ : ∃ x, c5 = x := ⟨_, rfl⟩
    obtain ⟨c6', k6⟩ : ∃ x, c6 = x := ⟨_, rfl⟩
    obtain ⟨c7', k7⟩ : ∃ x, c7 = x := ⟨_, rfl⟩
    obtain ⟨c8', k8⟩ : ∃ x, c8 = x := ⟨_, rfl⟩
    rw [h5, h6, h7, h8, k5, k6, k7, k8] at HX5
    obtain ⟨Ar, hAr⟩ : ∃ x : Option Addr, none = x := ⟨_, rfl⟩
    obtain ⟨cr, hcr⟩ : ∃ x : Nat, 0 = x := ⟨_, rfl⟩
    rw [hAr, hcr] at HK5 HV5
    obtain ⟨v0, v1, v2, v3, e0, e1, e2, e3⟩ := four HX5.out.v2
    obtain ⟨t0, t1, t2, d0, d1, d2⟩ := three HX5.out.v3
    have hx := HX5.out.nx
    simp only [objC] at hx
    obtain ⟨p0, p1, p2, p3, _, _, _, _⟩ := four hx
    obtain ⟨z0, z1, z2, _, _, _⟩ := three HK5.out
    have n1 : ¬ g = b + 1 + 1 := fun e => HX5.out.v2.apart HK5.out (by decide) e.symm
    have n2 : ¬ g = b + 1 + 1 + 1 := HGB.out.2.2
    clear hrr hw5 hr hr2 hsl h5 h6 h7 h8 k5 k6 k7 k8 hAr hcr hx HX3 HK3 HX4 HK4 hb4 HQ0 HKN HC0 HS0 HI HF y0 y1 y2 y3 y4 hgh hhg
    refine wp_region_held_drew (S := fun w' => Blk w' h 34 #[.slice A5' r.s.reg.length c5', .slice A6' r.s.q.length c6', .slice A7' r.s.lk.length c7', .slice A8' r.s.mp.length c8'] ∧ Blk w' g 40 #[.int .i64 r.e, .slice Ar r.v.length cr, .int .i64 r.n]) (by kernel_rfl) ⟨HX5.out.nx.drew, HK5.out.drew⟩ (fun _ => ?_)
    have hl := HX5.out.lt
    have HX6 := Lib.hid (HX5.out.below (Below.refl _ _).drew)
    have HV6 := Lib.hid (own_below HV5.out (Below.refl w5.heap.size w5).drew)
    have HS := Lib.hid (And.intro HX5.out.nx.drew HK5.out.drew)
    simp only [objC] at HS
    clear HX5 HK5 HV5 p0 p1 p2 p3 z0 z1 z2 v0 v1 v2 v3 e0 e1 e2 e3 t0 t1 t2 d0 d1 d2
    generalize w5.drew = w6 at HX6 HV6 HS ⊢
    obtain ⟨v0, v1, v2, v3, e0, e1, e2, e3⟩ := four HX6.out.v2
    refine wpAnyH_take (i := 0) (v := .agg #[.slice A5' r.s.reg.length c5', .slice A6' r.s.q.length c6', .slice A7' r.s.lk.length c7', .slice A8' r.s.mp.length c8']) rfl (by kernel_rfl) (by kernel_rfl) (by kernel_rfl) (fun _ _ _ h => h) (Or.inl ⟨by kernel_rfl, fun w h => by obtain ⟨p0, p1, p2, p3, _, _, _, _⟩ := four h.1; go_simp⟩) HS.out ?_
    refine wpAnyH_take (i := 1) (v := .agg #[.int .i64 r.e, .slice Ar r.v.length cr, .int .i64 r.n]) rfl (by kernel_rfl) (by kernel_rfl) (by kernel_rfl) (fun _ _ _ h => h) (Or.inl ⟨by kernel_rfl, fun w h => by obtain ⟨p0, p1, p2, _, _, _⟩ := three h.2; go_simp⟩) HS.out ?_
    have HS2 := Lib.hid (show Blk ((((w6.setCell ⟨b + 1 + 1, 0, none⟩ (.slice A5' r.s.reg.length c5')).setCell ⟨b + 1 + 1, 1, none⟩ (.slice A6' r.s.q.length c6')).setCell ⟨b + 1 + 1, 2, none⟩ (.slice A7' r.s.lk.length c7')).setCell ⟨b + 1 + 1, 3, none⟩ (.slice A8' r.s.mp.length c8')) h 34 #[.slice A5' r.s.reg.length c5', .slice A6' r.s.q.length c6', .slice A7' r.s.lk.length c7', .slice A8' r.s.mp.length c8'] ∧ Blk ((((w6.setCell ⟨b + 1 + 1, 0, none⟩ (.slice A5' r.s.reg.length c5')).setCell ⟨b + 1 + 1, 1, none⟩ (.slice A6' r.s.q.length c6')).setCell ⟨b + 1 + 1, 2, none⟩ (.slice A7' r.s.lk.length c7')).setCell ⟨b + 1 + 1, 3, none⟩ (.slice A8' r.s.mp.length c8')) g 40 #[.int .i64 r.e, .slice Ar r.v.length cr, .int .i64 r.n] from
      ⟨(((HS.out.1.set_other (by omega)).set_other (by omega)).set_other (by omega)).set_other (by omega), (((HS.out.2.set_other n1).set_other n1).set_other n1).set_other n1⟩)
    refine wpAnyH_ready (rs := [2]) (by kernel_rfl) (by simp) ?_
    refine AllReadyH.cons rfl (fun K hK => ?_) AllReadyH.nil
    go_simp
    refine hK.out _ _ HS2.out (fun _ => ?_)
    clear hK K v0 v1 v2 v3 e0 e1 e2 e3
    obtain ⟨t0, t1, t2, d0, d1, d2⟩ := three ((((HX6.out.v3.set_other (i := 0) (u := .slice A5' r.s.reg.length c5') (b := b + 1 + 1) (by omega)).set_other (i := 1) (u := .slice A6' r.s.q.length c6') (b := b + 1 + 1) (by omega)).set_other (i := 2) (u := .slice A7' r.s.lk.length c7') (b := b + 1 + 1) (by omega)).set_other (i := 3) (u := .slice A8' r.s.mp.length c8') (b := b + 1 + 1) (by omega))
    obtain ⟨q1, q2, q3, q4, q5⟩ := HX6.out.end_ HWB.out HV6.out (.slice A5' r.s.reg.length c5') (.slice A6' r.s.q.length c6') (.slice A7' r.s.lk.length c7') (.slice A8' r.s.mp.length c8') (.int .i64 r.e) (.slice Ar r.v.length cr) (.int .i64 r.n)
    have HQ := Lib.hid (And.intro q1 (And.intro q2 (And.intro q3 (And.intro q4 q5))))
    have HS3 := Lib.hid (And.intro (((HS2.out.1.set_other (i := 0) (u := .int .i64 r.e) (b := b + 1 + 1 + 1) (by omega)).set_other (i := 1) (u := .slice Ar r.v.length cr) (b := b + 1 + 1 + 1) (by omega)).set_other (i := 2) (u := .int .i64 r.n) (b := b + 1 + 1 + 1) (by omega)) (((HS2.out.2.set_other (i := 0) (u := .int .i64 r.e) n2).set_other (i := 1) (u := .slice Ar r.v.length cr) n2).set_other (i := 2) (u := .int .i64 r.n) n2))
    clear q1 q2 q3 q4 q5 HX6 HV6 HS
    generalize (((w6.setCell ⟨b + 1 + 1, 0, none⟩ (.slice A5' r.s.reg.length c5')).setCell ⟨b + 1 + 1, 1, none⟩ (.slice A6' r.s.q.length c6')).setCell ⟨b + 1 + 1, 2, none⟩ (.slice A7' r.s.lk.length c7')).setCell ⟨b + 1 + 1, 3, none⟩ (.slice A8' r.s.mp.length c8') = w7 at HQ HS2 HS3 t0 t1 t2 d0 d1 d2 ⊢
    refine wpAnyH_ready (rs := [3]) (by kernel_rfl) (by simp) ?_
    refine AllReadyH.cons rfl (fun K hK => ?_) AllReadyH.nil
    go_simp
    refine hK.out _ _ HS3.out (fun _ => ?_)
    clear hK K t0 t1 t2 d0 d1 d2
    refine wpAnyH_done (by kernel_rfl) ?_ _
    go_wp2_with fail
    refine bodyPost_ret (results_cells2 rfl _ _ _ _ _ _ _ _ _ _ rfl rfl HQ.out.1 HQ.out.2.1 Tryz.underlying34 rfl (by kernel_rfl) Tryz.underlying40 rfl (by kernel_rfl)) rfl ?_
    rw [HR.out]
    exact ⟨⟨A5', c5', A6', c6', A7', c7', A8', c8'⟩, Ar, cr, rfl, HQ.out.2.2.1, HQ.out.2.2.2.1, HQ.out.2.2.2.2, HQ.out.2.2.2.2⟩
  | true =>
    rw [hq] at hkn
    have HKN := Lib.hid hkn
    have HKW := Lib.hid (of_decide_eq_true hq)
    clear hkn hq
    go_upto_block 0 with (first
      | (go_at_call 87; refine (HKN.out _).mono ?_; rintro e w4 ⟨rfl, hb4⟩
         have HX4 := Lib.hid (HX3.out.below hb4)
         have HK4 := Lib.hid (HK3.out.below hb4)
         have hy := HX4.out.vc
         simp only [cmdC] at hy
         obtain ⟨y0, y1, y2, y3, y4⟩ := five hy
         clear hy)
      | fail)
    clear HX3 HK3 hb4 HKN
    obtain ⟨w3', hw3⟩ : ∃ x, w4 = x := ⟨_, rfl⟩
    rw [hw3] at HX4 HK4 y0 y1 y2 y3 y4 ⊢
    clear hw3
    have HX3 := HX4
    have HK3 := HK4
    clear HX4 HK4
    have hx := HX3.out.vs
    simp only [objC] at hx
    obtain ⟨p0, p1, p2, p3, _, _, _, _⟩ := four hx
    clear hx
    go_cut [] from 18 to 124 (fun wx => ∃ a' Ar cr, Hid (VarsN w wx b h ⟨A0, c0, A1, c1, A2, c2, A3, c3⟩ s a' (s.apply c).s ⟨Ak, ck, Av, cv, Ao, co⟩ c) ∧ Hid (Blk wx g 40 #[.int .i64 (s.apply c).e, .slice Ar (s.apply c).v.length cr, .int .i64 (s.apply c).n]) ∧ Hid (OwnB w wx Ar (s.apply c).v.length cr (s.apply c).v))
    case first =>
      by_cases hkk : c.kind = 1
      · have k1 : (c.kind == 1) = true := by simp; omega
        obtain ⟨r, hr⟩ : ∃ r, s.apply c = r := ⟨_, rfl⟩
        have hr2 := hr
        unfold Ob.apply at hr2
        rw [if_pos (by omega)] at hr2
        have hcall := read_any (W := w) (c := c0) (by have := HI.out.reg; unfold Lim; omega) (HS0.out.below HX3.out.bel).r0 HX3.out.bel
        have HR := Lib.hid (hr.trans hr2.symm)
        have HCALL := Lib.hid hcall
        clear hr hr2 hkk hcall
        go_wp2_with (first
          | (go_at_call 88; refine HCALL.out.mono ?_; rintro e w4 ⟨Ar, cr, rfl, hv4, hB4, hb4⟩; unfold resV; have HX4 := Lib.hid (HX3.out.below hb4); have HK4 := Lib.hid (HK3.out.below hb4); have hx := HX4.out.nx; simp only [objC] at hx; obtain ⟨p0, p1, p2, p3, e0, e1, e2, e3⟩ := four hx; obtain ⟨z0, z1, z2, d0, d1, d2⟩ := three HK4.out; clear hx)
          | fail)
        go_meet
        exact HX4.out.done HK4.out HGB.out hv4 HR.out
      by_cases hkk : c.kind = 2
      · have k1 : (c.kind == 1) = false := by simp; omega
        have k2 : (c.kind == 2) = true := by simp; omega
        obtain ⟨r, hr⟩ : ∃ r, s.apply c = r := ⟨_, rfl⟩
        have hr2 := hr
        unfold Ob.apply at hr2
        rw [if_neg (by omega), if_pos (by omega)] at hr2
        have hcall := write_any (W := w) (c := c0) (c' := cv) (by have := HI.out.reg; unfold Lim; omega) (by have := HF.out.val.1; unfold Lim; omega) (HS0.out.below HX3.out.bel).r0 (HC0.out.below HX3.out.bel).rv HX3.out.bel
        obtain ⟨l2, hl2⟩ : ∃ x, (if c.val.length ≤ 16 then c.val else s.reg) = x := ⟨_, rfl⟩
        obtain ⟨e2, he2⟩ : ∃ x, (if c.val.length ≤ 16 then (0 : Int) else 1) = x := ⟨_, rfl⟩
        rw [hl2, he2] at hr2 hcall
        have HR := Lib.hid (hr.trans hr2.symm)
        have HCALL := Lib.hid hcall
        clear hr hr2 hkk hcall hl2 he2
        go_wp2_with (first
          | (go_at_call 89; refine HCALL.out.mono ?_; rintro e w4 ⟨An, cn, Ar, cr, rfl, ho4, hv4, hB4, hb4⟩; unfold resV; have HX4 := Lib.hid (HX3.out.below hb4); have HK4 := Lib.hid (HK3.out.below hb4); have hx := HX4.out.nx; simp only [objC] at hx; obtain ⟨p0, p1, p2, p3, e0, e1, e2, e3⟩ := four hx; obtain ⟨z0, z1, z2, d0, d1, d2⟩ := three HK4.out; clear hx)
          | fail)
        go_meet
        exact HX4.out.doneSet HK4.out HGB.out HWB.out 0 (.slice An l2.length cn) ⟨An, cn, A6, c6, A7, c7, A8, c8⟩ { s with reg := l2 } rfl ⟨ho4, HX4.out.own.o1, HX4.out.own.o2, HX4.out.own.o3⟩ hv4 HR.out
      by_cases hkk : c.kind = 3
      · have k1 : (c.kind == 1) = false := by simp; omega
        have k2 : (c.kind == 2) = false := by simp; omega
        have k3 : (c.kind == 3) = true := by simp; omega
        obtain ⟨r, hr⟩ : ∃ r, s.apply c = r := ⟨_, rfl⟩
        have hr2 := hr
        unfold Ob.apply at hr2
        rw [if_neg (by omega), if_neg (by omega), if_pos (by omega)] at hr2
        have hcall := cas_any (W := w) (c := c0) (c' := cv) (c2 := co) (by have := HI.out.reg; unfold Lim; omega) (by have := HF.out.val.1; unfold Lim; omega) HI.out.regb HF.out.old.2 (HS0.out.below HX3.out.bel).r0 (HC0.out.below HX3.out.bel).rv (HC0.out.below HX3.out.bel).ro HX3.out.bel
        obtain ⟨l2, hl2⟩ : ∃ x, casS s.reg c.old c.val = x := ⟨_, rfl⟩
        obtain ⟨e2, he2⟩ : ∃ x, casE s.reg c.old c.val = x := ⟨_, rfl⟩
        obtain ⟨v2, hv2⟩ : ∃ x, casV s.reg c.old c.val = x := ⟨_, rfl⟩
        rw [hl2, he2, hv2] at hr2 hcall
        have HR := Lib.hid (hr.trans hr2.symm)
        have HCALL := Lib.hid hcall
        clear hr hr2 hkk hcall hl2 he2 hv2
        go_wp2_with (first
          | (go_at_call 90; refine HCALL.out.mono ?_; rintro e w4 ⟨An, cn, Ar, cr, rfl, ho4, hv4, hB4, hb4⟩; unfold resV; have HX4 := Lib.hid (HX3.out.below hb4); have HK4 := Lib.hid (HK3.out.below hb4); have hx := HX4.out.nx; simp only [objC] at hx; obtain ⟨p0, p1, p2, p3, e0, e1, e2, e3⟩ := four hx; obtain ⟨z0, z1, z2, d0, d1, d2⟩ := three HK4.out; clear hx)
          | fail)
        go_meet
        exact HX4.out.doneSet HK4.out HGB.out HWB.out 0 (.slice An l2.length cn) ⟨An, cn, A6, c6, A7, c7, A8, c8⟩ { s with reg := l2 } rfl ⟨ho4, HX4.out.own.o1, HX4.out.own.o2, HX4.out.own.o3⟩ hv4 HR.out
      by_cases hkk : c.kind = 4
      · have k1 : (c.kind == 1) = false := by simp; omega
        have k2 : (c.kind == 2) = false := by simp; omega
        have k3 : (c.kind == 3) = false := by simp; omega
        have k4 : (c.kind == 4) = true := by simp; omega
        obtain ⟨r, hr⟩ : ∃ r, s.apply c = r := ⟨_, rfl⟩
        have hr2 := hr
        unfold Ob.apply at hr2
        rw [if_neg (by omega), if_neg (by omega), if_neg (by omega), if_pos (by omega)] at hr2
        have hcall := push_any (W := w) (c := c1) (c' := cv) (by have := HI.out.ql; omega) (fun l hl => by have := HI.out.qv l hl; unfold Lim; omega) (by have := HF.out.val.1; unfold Lim; omega) (HS0.out.below HX3.out.bel).r1 (HC0.out.below HX3.out.bel).rv HX3.out.bel
        obtain ⟨l2, hl2⟩ : ∃ x, pushS s.q c.val = x := ⟨_, rfl⟩
        obtain ⟨e2, he2⟩ : ∃ x, pushE s.q c.val = x := ⟨_, rfl⟩
        obtain ⟨n2, hn2⟩ : ∃ x, pushN s.q c.val = x := ⟨_, rfl⟩
        rw [hl2, he2, hn2] at hr2 hcall
        have HR := Lib.hid (hr.trans hr2.symm)
        have HCALL := Lib.hid hcall
        clear hr hr2 hkk hcall hl2 he2 hn2
        go_wp2_with (first
          | (go_at_call 91; refine HCALL.out.mono ?_; rintro e w4 ⟨An, cn, Ar, cr, rfl, ho4, hv4, hB4, hb4⟩; unfold resV; have HX4 := Lib.hid (HX3.out.below hb4); have HK4 := Lib.hid (HK3.out.below hb4); have hx := HX4.out.nx; simp only [objC] at hx; obtain ⟨p0, p1, p2, p3, e0, e1, e2, e3⟩ := four hx; obtain ⟨z0, z1, z2, d0, d1, d2⟩ := three HK4.out; clear hx)
          | fail)
        go_meet
        exact HX4.out.doneSet HK4.out HGB.out HWB.out 1 (.slice An l2.length cn) ⟨A5, c5, An, cn, A7, c7, A8, c8⟩ { s with q := l2 } rfl ⟨HX4.out.own.o0, ho4, HX4.out.own.o2, HX4.out.own.o3⟩ hv4 HR.out
      by_cases hkk : c.kind = 5
      · have k1 : (c.kind == 1) = false := by simp; omega
        have k2 : (c.kind == 2) = false := by simp; omega
        have k3 : (c.kind == 3) = false := by simp; omega
        have k4 : (c.kind == 4) = false := by simp; omega
        have k5 : (c.kind == 5) = true := by simp; omega
        obtain ⟨r, hr⟩ : ∃ r, s.apply c = r := ⟨_, rfl⟩
        have hr2 := hr
        unfold Ob.apply at hr2
        rw [if_neg (by omega), if_neg (by omega), if_neg (by omega), if_neg (by omega), if_pos (by omega)] at hr2
        have hcall := pop_any (W := w) (c := c1) (by have := HI.out.ql; omega) (HS0.out.below HX3.out.bel).l1 (fun l hl => by have := HI.out.qv l hl; unfold Lim; omega) (HS0.out.below HX3.out.bel).r1 HX3.out.bel
        obtain ⟨l2, hl2⟩ : ∃ x, s.q.tail = x := ⟨_, rfl⟩
        obtain ⟨e2, he2⟩ : ∃ x, popE s.q = x := ⟨_, rfl⟩
        obtain ⟨v2, hv2⟩ : ∃ x, popV s.q = x := ⟨_, rfl⟩
        rw [hl2, he2, hv2] at hr2 hcall
        have HR := Lib.hid (hr.trans hr2.symm)
        have HCALL := Lib.hid hcall
        clear hr hr2 hkk hcall hl2 he2 hv2
        go_wp2_with (first
          | (go_at_call 92; refine HCALL.out.mono ?_; rintro e w4 ⟨An, cn, Ar, cr, rfl, ho4, hv4, hB4, hb4⟩; unfold resV; have HX4 := Lib.hid (HX3.out.below hb4); have HK4 := Lib.hid (HK3.out.below hb4); have hx := HX4.out.nx; simp only [objC] at hx; obtain ⟨p0, p1, p2, p3, e0, e1, e2, e3⟩ := four hx; obtain ⟨z0, z1, z2, d0, d1, d2⟩ := three HK4.out; clear hx)
          | fail)
        go_meet
        exact HX4.out.doneSet HK4.out HGB.out HWB.out 1 (.slice An l2.length cn) ⟨A5, c5, An, cn, A7, c7, A8, c8⟩ { s with q := l2 } rfl ⟨HX4.out.own.o0, ho4, HX4.out.own.o2, HX4.out.own.o3⟩ hv4 HR.out
      by_cases hkk : c.kind = 6
      · have k1 : (c.kind == 1) = false := by simp; omega
        have k2 : (c.kind == 2) = false := by simp; omega
        have k3 : (c.kind == 3) = false := by simp; omega
        have k4 : (c.kind == 4) = false := by simp; omega
        have k5 : (c.kind == 5) = false := by simp; omega
        have k6 : (c.kind == 6) = true := by simp; omega
        obtain ⟨r, hr⟩ : ∃ r, s.apply c = r := ⟨_, rfl⟩
        have hr2 := hr
        have hkw := HKW.out.2.2 (by omega)
        unfold Ob.apply at hr2
        rw [if_neg (by omega), if_neg (by omega), if_neg (by omega), if_neg (by omega), if_neg (by omega), if_pos (by omega)] at hr2
        have hcall := take_any (W := w) (c := c2) c.who (by have := HI.out.lkl; omega) (HS0.out.below HX3.out.bel).l2 (HS0.out.below HX3.out.bel).r2 HX3.out.bel
        obtain ⟨l2, hl2⟩ : ∃ x, takeS s.lk c.who = x := ⟨_, rfl⟩
        obtain ⟨e2, he2⟩ : ∃ x, takeE s.lk c.who = x := ⟨_, rfl⟩
        obtain ⟨n2, hn2⟩ : ∃ x, takeN s.lk c.who = x := ⟨_, rfl⟩
        rw [hl2, he2, hn2] at hr2 hcall
        have HR := Lib.hid (hr.trans hr2.symm)
        have HCALL := Lib.hid hcall
        clear hr hr2 hkk hcall hl2 he2 hn2 hkw
        go_wp2_with (first
          | (go_at_call 93; refine HCALL.out.mono ?_; rintro e w4 ⟨An, cn, Ar, cr, rfl, ho4, hv4, hB4, hb4⟩; unfold resV; have HX4 := Lib.hid (HX3.out.below hb4); have HK4 := Lib.hid (HK3.out.below hb4); have hx := HX4.out.nx; simp only [objC] at hx; obtain ⟨p0, p1, p2, p3, e0, e1, e2, e3⟩ := four hx; obtain ⟨z0, z1, z2, d0, d1, d2⟩ := three HK4.out; clear hx)
          | fail)
        go_meet
        exact HX4.out.doneSet HK4.out HGB.out HWB.out 2 (.slice An l2.length cn) ⟨A5, c5, A6, c6, An, cn, A8, c8⟩ { s with lk := l2 } rfl ⟨HX4.out.own.o0, HX4.out.own.o1, ho4, HX4.out.own.o3⟩ hv4 HR.out
      by_cases hkk : c.kind = 7
      · have k1 : (c.kind == 1) = false := by simp; omega
        have k2 : (c.kind == 2) = false := by simp; omega
        have k3 : (c.kind == 3) = false := by simp; omega
        have k4 : (c.kind == 4) = false := by simp; omega
        have k5 : (c.kind == 5) = false := by simp; omega
        have k6 : (c.kind == 6) = false := by simp; omega
        have k7 : (c.kind == 7) = true := by simp; omega
        obtain ⟨r, hr⟩ : ∃ r, s.apply c = r := ⟨_, rfl⟩
        have hr2 := hr
        have hkw := HKW.out.2.2 (by omega)
        unfold Ob.apply at hr2
        rw [if_neg (by omega), if_neg (by omega), if_neg (by omega), if_neg (by omega), if_neg (by omega), if_neg (by omega), if_pos (by omega)] at hr2
        have hcall := free_any (W := w) (c := c2) c.who (by have := HI.out.lkl; omega) (HS0.out.below HX3.out.bel).l2 HI.out.lkn (HS0.out.below HX3.out.bel).r2 HX3.out.bel
        obtain ⟨l2, hl2⟩ : ∃ x, s.lk.erase c.who = x := ⟨_, rfl⟩
        obtain ⟨e2, he2⟩ : ∃ x, freeE s.lk c.who = x := ⟨_, rfl⟩
        obtain ⟨n2, hn2⟩ : ∃ x, freeN s.lk c.who = x := ⟨_, rfl⟩
        rw [hl2, he2, hn2] at hr2 hcall
        have HR := Lib.hid (hr.trans hr2.symm)
        have HCALL := Lib.hid hcall
        clear hr hr2 hkk hcall hl2 he2 hn2 hkw
        go_wp2_with (first
          | (go_at_call 94; refine HCALL.out.mono ?_; rintro e w4 ⟨An, cn, Ar, cr, rfl, ho4, hv4, hB4, hb4⟩; unfold resV; have HX4 := Lib.hid (HX3.out.below hb4); have HK4 := Lib.hid (HK3.out.below hb4); have hx := HX4.out.nx; simp only [objC] at hx; obtain ⟨p0, p1, p2, p3, e0, e1, e2, e3⟩ := four hx; obtain ⟨z0, z1, z2, d0, d1, d2⟩ := three HK4.out; clear hx)
          | fail)
        go_meet
        exact HX4.out.doneSet HK4.out HGB.out HWB.out 2 (.slice An l2.length cn) ⟨A5, c5, A6, c6, An, cn, A8, c8⟩ { s with lk := l2 } rfl ⟨HX4.out.own.o0, HX4.out.own.o1, ho4, HX4.out.own.o3⟩ hv4 HR.out
      by_cases hkk : c.kind = 8
      · have k1 : (c.kind == 1) = false := by simp; omega
        have k2 : (c.kind == 2) = false := by simp; omega
        have k3 : (c.kind == 3) = false := by simp; omega
        have k4 : (c.kind == 4) = false := by simp; omega
        have k5 : (c.kind == 5) = false := by simp; omega
        have k6 : (c.kind == 6) = false := by simp; omega
        have k7 : (c.kind == 7) = false := by simp; omega
        have k8 : (c.kind == 8) = true := by simp; omega
        obtain ⟨r, hr⟩ : ∃ r, s.apply c = r := ⟨_, rfl⟩
        have hr2 := hr
        unfold Ob.apply at hr2
        rw [if_neg (by omega), if_neg (by omega), if_neg (by omega), if_neg (by omega), if_neg (by omega), if_neg (by omega), if_neg (by omega), if_pos (by omega)] at hr2
        have hcall := owner_any (W := w) (c := c2) (by have := HI.out.lkl; omega) (HS0.out.below HX3.out.bel).l2 (HS0.out.below HX3.out.bel).r2 HX3.out.bel
        obtain ⟨e2, he2⟩ : ∃ x, ownerE s.lk = x := ⟨_, rfl⟩
        obtain ⟨n2, hn2⟩ : ∃ x, ownerN s.lk = x := ⟨_, rfl⟩
        rw [he2, hn2] at hr2 hcall
        have HR := Lib.hid (hr.trans hr2.symm)
        have HCALL := Lib.hid hcall
        clear hr hr2 hkk hcall he2 hn2
        go_wp2_with (first
          | (go_at_call 95; refine HCALL.out.mono ?_; rintro e w4 ⟨Ar, cr, rfl, hv4, hB4, hb4⟩; unfold resV; have HX4 := Lib.hid (HX3.out.below hb4); have HK4 := Lib.hid (HK3.out.below hb4); have hx := HX4.out.nx; simp only [objC] at hx; obtain ⟨p0, p1, p2, p3, e0, e1, e2, e3⟩ := four hx; obtain ⟨z0, z1, z2, d0, d1, d2⟩ := three HK4.out; clear hx)
          | fail)
        go_meet
        exact HX4.out.done HK4.out HGB.out hv4 HR.out
      by_cases hkk : c.kind = 9
      · have k1 : (c.kind == 1) = false := by simp; omega
        have k2 : (c.kind == 2) = false := by simp; omega
        have k3 : (c.kind == 3) = false := by simp; omega
        have k4 : (c.kind == 4) = false := by simp; omega
        have k5 : (c.kind == 5) = false := by simp; omega
        have k6 : (c.kind == 6) = false := by simp; omega
        have k7 : (c.kind == 7) = false := by simp; omega
        have k8 : (c.kind == 8) = false := by simp; omega
        have k9 : (c.kind == 9) = true := by simp; omega
        obtain ⟨r, hr⟩ : ∃ r, s.apply c = r := ⟨_, rfl⟩
        have hr2 := hr
        unfold Ob.apply at hr2
        rw [if_neg (by omega), if_neg (by omega), if_neg (by omega), if_neg (by omega), if_neg (by omega), if_neg (by omega), if_neg (by omega), if_neg (by omega), if_pos (by omega)] at hr2
        have hcall := putC7 (W := w) (c := c3) (c' := ck) (c'' := cv) (HS0.out.below HX3.out.bel).l3 HI.out.mp HF.out.key.2 HF.out.val.2 (by have := HF.out.key.1; omega) (by have := HF.out.val.1; omega) (HS0.out.below HX3.out.bel).r3 (HC0.out.below HX3.out.bel).rk (HC0.out.below HX3.out.bel).rv HX3.out.bel
        obtain ⟨l2, hl2⟩ : ∃ x, Mp.putS s.mp c.key c.val = x := ⟨_, rfl⟩
        obtain ⟨e2, he2⟩ : ∃ x, Mp.putE s.mp c.key c.val = x := ⟨_, rfl⟩
        obtain ⟨v2, hv2⟩ : ∃ x, Mp.putV s.mp c.key c.val = x := ⟨_, rfl⟩
        obtain ⟨n2, hn2⟩ : ∃ x, Mp.putN s.mp c.key c.val = x := ⟨_, rfl⟩
        rw [hl2, he2, hv2, hn2] at hr2 hcall
        have HR := Lib.hid (hr.trans hr2.symm)
        have HCALL := Lib.hid hcall
        clear hr hr2 hkk hcall hl2 he2 hv2 hn2
        go_wp2_with (first
          | (go_at_call 96; refine HCALL.out.mono ?_; rintro e w4 ⟨An, cn, Ar, cr, rfl, ho4, hv4, hB4, hb4⟩; unfold resV; have HX4 := Lib.hid (HX3.out.below hb4); have HK4 := Lib.hid (HK3.out.below hb4); have hx := HX4.out.nx; simp only [objC] at hx; obtain ⟨p0, p1, p2, p3, e0, e1, e2, e3⟩ := four hx; obtain ⟨z0, z1, z2, d0, d1, d2⟩ := three HK4.out; clear hx)
          | fail)
        go_meet
        exact HX4.out.doneSet HK4.out HGB.out HWB.out 3 (.slice An l2.length cn) ⟨A5, c5, A6, c6, A7, c7, An, cn⟩ { s with mp := l2 } rfl ⟨HX4.out.own.o0, HX4.out.own.o1, HX4.out.own.o2, ho4⟩ hv4 HR.out
      by_cases hkk : c.kind = 10
      · have k1 : (c.kind == 1) = false := by simp; omega
        have k2 : (c.kind == 2) = false := by simp; omega
        have k3 : (c.kind == 3) = false := by simp; omega
        have k4 : (c.kind == 4) = false := by simp; omega
        have k5 : (c.kind == 5) = false := by simp; omega
        have k6 : (c.kind == 6) = false := by simp; omega
        have k7 : (c.kind == 7) = false := by simp; omega
        have k8 : (c.kind == 8) = false := by simp; omega
        have k9 : (c.kind == 9) = false := by simp; omega
        have k10 : (c.kind == 10) = true := by simp; omega
        obtain ⟨r, hr⟩ : ∃ r, s.apply c = r := ⟨_, rfl⟩
        have hr2 := hr
        unfold Ob.apply at hr2
        rw [if_neg (by omega), if_neg (by omega), if_neg (by omega), if_neg (by omega), if_neg (by omega), if_neg (by omega), if_neg (by omega), if_neg (by omega), if_neg (by omega), if_pos (by omega)] at hr2
        have hcall := getC7 (W := w) (c := c3) (c' := ck) (HS0.out.below HX3.out.bel).l3 HI.out.mp HF.out.key.2 (by have := HF.out.key.1; omega) (HS0.out.below HX3.out.bel).r3 (HC0.out.below HX3.out.bel).rk HX3.out.bel
        obtain ⟨e2, he2⟩ : ∃ x, Mp.getE s.mp c.key = x := ⟨_, rfl⟩
        obtain ⟨v2, hv2⟩ : ∃ x, Mp.getV s.mp c.key = x := ⟨_, rfl⟩
        rw [he2, hv2] at hr2 hcall
        have HR := Lib.hid (hr.trans hr2.symm)
        have HCALL := Lib.hid hcall
        clear hr hr2 hkk hcall he2 hv2
        go_wp2_with (first
          | (go_at_call 97; refine HCALL.out.mono ?_; rintro e w4 ⟨Ar, cr, rfl, hv4, hB4, hb4⟩; unfold resV; have HX4 := Lib.hid (HX3.out.below hb4); have HK4 := Lib.hid (HK3.out.below hb4); have hx := HX4.out.nx; simp only [objC] at hx; obtain ⟨p0, p1, p2, p3, e0, e1, e2, e3⟩ := four hx; obtain ⟨z0, z1, z2, d0, d1, d2⟩ := three HK4.out; clear hx)
          | fail)
        go_meet
        exact HX4.out.done HK4.out HGB.out hv4 HR.out
      have hkk : c.kind = 11 := by have := HKW.out; omega
      have k1 : (c.kind == 1) = false := by simp; omega
      have k2 : (c.kind == 2) = false := by simp; omega
      have k3 : (c.kind == 3) = false := by simp; omega
      have k4 : (c.kind == 4) = false := by simp; omega
      have k5 : (c.kind == 5) = false := by simp; omega
      have k6 : (c.kind == 6) = false := by simp; omega
      have k7 : (c.kind == 7) = false := by simp; omega
      have k8 : (c.kind == 8) = false := by simp; omega
      have k9 : (c.kind == 9) = false := by simp; omega
      have k10 : (c.kind == 10) = false := by simp; omega
      have k11 : (c.kind == 11) = true := by simp; omega
      obtain ⟨r, hr⟩ : ∃ r, s.apply c = r := ⟨_, rfl⟩
      have hr2 := hr
      unfold Ob.apply at hr2
      rw [if_neg (by omega), if_neg (by omega), if_neg (by omega), if_neg (by omega), if_neg (by omega), if_neg (by omega), if_neg (by omega), if_neg (by omega), if_neg (by omega), if_neg (by omega), if_pos (by omega)] at hr2
      have hcall := delC7 (W := w) (c := c3) (c' := ck) (HS0.out.below HX3.out.bel).l3 HI.out.mp HF.out.key.2 (by have := HF.out.key.1; omega) (HS0.out.below HX3.out.bel).r3 (HC0.out.below HX3.out.bel).rk HX3.out.bel
      obtain ⟨l2, hl2⟩ : ∃ x, Mp.delS s.mp c.key = x := ⟨_, rfl⟩
      obtain ⟨e2, he2⟩ : ∃ x, Mp.getE s.mp c.key = x := ⟨_, rfl⟩
      obtain ⟨v2, hv2⟩ : ∃ x, Mp.getV s.mp c.key = x := ⟨_, rfl⟩
      rw [hl2, he2, hv2] at hr2 hcall
      have HR := Lib.hid (hr.trans hr2.symm)
      have HCALL := Lib.hid hcall
      clear hr hr2 hkk hcall hl2 he2 hv2
      go_wp2_with (first
        | (go_at_call 98; refine HCALL.out.mono ?_; rintro e w4 ⟨An, cn, Ar, cr, rfl, ho4, hv4, hB4, hb4⟩; unfold resV; have HX4 := Lib.hid (HX3.out.below hb4); have HK4 := Lib.hid (HK3.out.below hb4); have hx := HX4.out.nx; simp only [objC] at hx; obtain ⟨p0, p1, p2, p3, e0, e1, e2, e3⟩ := four hx; obtain ⟨z0, z1, z2, d0, d1, d2⟩ := three HK4.out; clear hx)
        | fail)
      go_meet
      exact HX4.out.doneSet HK4.out HGB.out HWB.out 3 (.slice An l2.length cn) ⟨A5, c5, A6, c6, A7, c7, An, cn⟩ { s with mp := l2 } rfl ⟨HX4.out.own.o0, HX4.out.own.o1, HX4.out.own.o2, ho4⟩ hv4 HR.out
    case rest =>
      obtain ⟨⟨A5', c5', A6', c6', A7', c7', A8', c8'⟩, Ar, cr, HX5, HK5, HV5⟩ := hcut
      rename World => w5
      obtain ⟨r, hr⟩ : ∃ r, s.apply c = r := ⟨_, rfl⟩
      rw [hr] at HX5 HK5 HV5
      have HR := Lib.hid hr
      have hx := HX5.out.nx
      simp only [objC] at hx
      obtain ⟨p0, p1, p2, p3, _, _, _, _⟩ := four hx
      obtain ⟨z0, z1, z2, _, _, _⟩ := three HK5.out
      obtain ⟨v0, v1, v2, v3, e0, e1, e2, e3⟩ := four HX5.out.v2
      obtain ⟨t0, t1, t2, d0, d1, d2⟩ := three HX5.out.v3
      have n1 : ¬ g = b + 1 + 1 := fun e => HX5.out.v2.apart HK5.out (by decide) e.symm
      have n2 : ¬ g = b + 1 + 1 + 1 := HGB.out.2.2
      clear hx hr HX3 HK3 HC0 HS0 HI HF HKW y0 y1 y2 y3 y4 hgh hhg
      go_upto_region 29 with fail
      refine wp_region_held_drew (S := fun w' => Blk w' h 34 #[.slice A5' r.s.reg.length c5', .slice A6' r.s.q.length c6', .slice A7' r.s.lk.length c7', .slice A8' r.s.mp.length c8'] ∧ Blk w' g 40 #[.int .i64 r.e, .slice Ar r.v.length cr, .int .i64 r.n]) (by kernel_rfl) ⟨HX5.out.nx.drew, HK5.out.drew⟩ (fun _ => ?_)
      have hl := HX5.out.lt
      have HX6 := Lib.hid (HX5.out.below (Below.refl _ _).drew)
      have HV6 := Lib.hid (own_below HV5.out (Below.refl w5.heap.size w5).drew)
      have HS := Lib.hid (And.intro HX5.out.nx.drew HK5.out.drew)
      simp only [objC] at HS
      clear HX5 HK5 HV5 p0 p1 p2 p3 z0 z1 z2 v0 v1 v2 v3 e0 e1 e2 e3 t0 t1 t2 d0 d1 d2
      generalize w5.drew = w6 at HX6 HV6 HS ⊢
      obtain ⟨v0, v1, v2, v3, e0, e1, e2, e3⟩ := four HX6.out.v2
      refine wpAnyH_take (i := 0) (v := .agg #[.slice A5' r.s.reg.length c5', .slice A6' r.s.q.length c6', .slice A7' r.s.lk.length c7', .slice A8' r.s.mp.length c8']) rfl (by kernel_rfl) (by kernel_rfl) (by kernel_rfl) (fun _ _ _ h => h) (Or.inl ⟨by kernel_rfl, fun w h => by obtain ⟨p0, p1, p2, p3, _, _, _, _⟩ := four h.1; go_simp⟩) HS.out ?_
      refine wpAnyH_take (i := 1) (v := .agg #[.int .i64 r.e, .slice Ar r.v.length cr, .int .i64 r.n]) rfl (by kernel_rfl) (by kernel_rfl) (by kernel_rfl) (fun _ _ _ h => h) (Or.inl ⟨by kernel_rfl, fun w h => by obtain ⟨p0, p1, p2, _, _, _⟩ := three h.2; go_simp⟩) HS.out ?_
      have HS2 := Lib.hid (show Blk ((((w6.setCell ⟨b + 1 + 1, 0, none⟩ (.slice A5' r.s.reg.length c5')).setCell ⟨b + 1 + 1, 1, none⟩ (.slice A6' r.s.q.length c6')).setCell ⟨b + 1 + 1, 2, none⟩ (.slice A7' r.s.lk.length c7')).setCell ⟨b + 1 + 1, 3, none⟩ (.slice A8' r.s.mp.length c8')) h 34 #[.slice A5' r.s.reg.length c5', .slice A6' r.s.q.length c6', .slice A7' r.s.lk.length c7', .slice A8' r.s.mp.length c8'] ∧ Blk ((((w6.setCell ⟨b + 1 + 1, 0, none⟩ (.slice A5' r.s.reg.length c5')).setCell ⟨b + 1 + 1, 1, none⟩ (.slice A6' r.s.q.length c6')).setCell ⟨b + 1 + 1, 2, none⟩ (.slice A7' r.s.lk.length c7')).setCell ⟨b + 1 + 1, 3, none⟩ (.slice A8' r.s.mp.length c8')) g 40 #[.int .i64 r.e, .slice Ar r.v.length cr, .int .i64 r.n] from
        ⟨(((HS.out.1.set_other (by omega)).set_other (by omega)).set_other (by omega)).set_other (by omega), (((HS.out.2.set_other n1).set_other n1).set_other n1).set_other n1⟩)
      refine wpAnyH_ready (rs := [2]) (by kernel_rfl) (by simp) ?_
      refine AllReadyH.cons rfl (fun K hK => ?_) AllReadyH.nil
      go_simp
      refine hK.out _ _ HS2.out (fun _ => ?_)
      clear hK K v0 v1 v2 v3 e0 e1 e2 e3
      obtain ⟨t0, t1, t2, d0, d1, d2⟩ := three ((((HX6.out.v3.set_other (i := 0) (u := .slice A5' r.s.reg.length c5') (b := b + 1 + 1) (by omega)).set_other (i := 1) (u := .slice A6' r.s.q.length c6') (b := b + 1 + 1) (by omega)).set_other (i := 2) (u := .slice A7' r.s.lk.length c7') (b := b + 1 + 1) (by omega)).set_other (i := 3) (u := .slice A8' r.s.mp.length c8') (b := b + 1 + 1) (by omega))
      obtain ⟨q1, q2, q3, q4, q5⟩ := HX6.out.end_ HWB.out HV6.out (.slice A5' r.s.reg.length c5') (.slice A6' r.s.q.length c6') (.slice A7' r.s.lk.length c7') (.slice A8' r.s.mp.length c8') (.int .i64 r.e) (.slice Ar r.v.length cr) (.int .i64 r.n)
      have HQ := Lib.hid (And.intro q1 (And.intro q2 (And.intro q3 (And.intro q4 q5))))
      have HS3 := Lib.hid (And.intro (((HS2.out.1.set_other (i := 0) (u := .int .i64 r.e) (b := b + 1 + 1 + 1) (by omega)).set_other (i := 1) (u := .slice Ar r.v.length cr) (b := b + 1 + 1 + 1) (by omega)).set_other (i := 2) (u := .int .i64 r.n) (b := b + 1 + 1 + 1) (by omega)) (((HS2.out.2.set_other (i := 0) (u := .int .i64 r.e) n2).set_other (i := 1) (u := .slice Ar r.v.length cr) n2).set_other (i := 2) (u := .int .i64 r.n) n2))
      clear q1 q2 q3 q4 q5 HX6 HV6 HS
      generalize (((w6.setCell ⟨b + 1 + 1, 0, none⟩ (.slice A5' r.s.reg.length c5')).setCell ⟨b + 1 + 1, 1, none⟩ (.slice A6' r.s.q.length c6')).setCell ⟨b + 1 + 1, 2, none⟩ (.slice A7' r.s.lk.length c7')).setCell ⟨b + 1 + 1, 3, none⟩ (.slice A8' r.s.mp.length c8') = w7 at HQ HS2 HS3 t0 t1 t2 d0 d1 d2 ⊢
      refine wpAnyH_ready (rs := [3]) (by kernel_rfl) (by simp) ?_
      refine AllReadyH.cons rfl (fun K hK => ?_) AllReadyH.nil
      go_simp
      refine hK.out _ _ HS3.out (fun _ => ?_)
      clear hK K t0 t1 t2 d0 d1 d2
      refine wpAnyH_done (by kernel_rfl) ?_ _
      go_wp2_with fail
      refine bodyPost_ret (results_cells2 rfl _ _ _ _ _ _ _ _ _ _ rfl rfl HQ.out.1 HQ.out.2.1 Tryz.underlying34 rfl (by kernel_rfl) Tryz.underlying40 rfl (by kernel_rfl)) rfl ?_
      rw [HR.out]
      exact ⟨⟨A5', c5', A6', c6', A7', c7', A8', c8'⟩, Ar, cr, rfl, HQ.out.2.2.1, HQ.out.2.2.2.1, HQ.out.2.2.2.2, HQ.out.2.2.2.2⟩
theorem apply8 : ApplyC8 := fun {W w a ca s c B B'} hI hc h h' hB => (apply8_raw hI hc h h').mono fun e w' h => GotO.of hB h
end Go.Proofs.YthfnnieklkaefaaGreat

namespace Go.Proofs.YthfnnieklkaefaaGreat
open Go.RowKit
set_option linter.unusedVariables false
set_option maxHeartbeats 4000000 in
set_option maxRecDepth 100000 in
theorem look9_raw {w : World} {ls : List Ls} {A : Option Addr} {n c B : Nat} (s q : Int) (hn : n ≤ 100000) (hL : LimLs ls) (h : RdL w B A n ls) :
    Calls Tryz.prog 30 #[.slice A n c, .int .i64 s, .int .i64 q] w (GotRK w w (Tb.look ls s q).e (Tb.look ls s q).v (Tb.look ls s q).n (Tb.look ls s q).k) := by
  obtain rfl := h.length
  have hs0 : w.heap.size < (w.alloc (.cells #[.int .i64 s] 3)).heap.size := by simp
  have b0 : Below w.heap.size w ((w.alloc (.cells #[.int .i64 s] 3)).alloc (.cells zeroR 40)) := ((Below.refl _ _).alloc (Nat.le_refl _) _).alloc (by simp) _
  have H := Lib.hid (h.fit.below b0)
  have HLI := Lib.hid hL
  have HB := Lib.hid b0
  have HK := Lib.hid (Blk.new (w.alloc (.cells #[.int .i64 s] 3)) 40 zeroR)
  have HS := Lib.hid (((Blk.new w 3 #[.int .i64 s]).alloc (.cells zeroR 40)))
  rw [World.size_alloc] at HK
  clear h hL b0 hs0
  generalize hres : Tb.look ls s q = r
  have HRES := Lib.hid hres
  clear hres
  by_cases h1 : 1 ≤ s ∧ s ≤ 1073741824
  · have HD1 := Lib.hid (decide_eq_true h1)
    by_cases h2 : 1 ≤ q ∧ q ≤ 1073741824
    · have HD2 := Lib.hid (decide_eq_true h2)
      have HNM : Hid (Tb.named s q) := Lib.hid ⟨h1.1, h2.1, h1.2, h2.2⟩
      clear h1 h2
      go_enter Tryz.func30, Tryz.ntmps30
      go_upto_region 1 with fail
      generalize (w.alloc (.cells #[.int .i64 s] 3)).alloc (.cells #[.int .i64 0, .slice none 0 0, .int .i64 0] 40) = wa at H HB HK HS ⊢
      have hsc := HS.out.cell 0
      go_wp2_with (first
        | (go_at_call 78; refine (isNumber_any _ _).mono ?_; (first | rw [HD1.out] | rw [HD2.out]); rintro e w1 ⟨rfl, rfl⟩)
        | fail)
      refine (indexFunc9_any _ hn H.out hsc).mono ?_
      rintro e w3 ⟨hf, hb3⟩
      have HB3 := Lib.hid (HB.out.trans (hb3.mono HB.out.size))
      have HK3 := Lib.hid (HK.out.below hb3)
      have H3 := Lib.hid (H.out.fit.below hb3).fit
      clear hsc hb3
      rcases hf with ⟨j, l, rfl, hj, hl, hls, hhere⟩ | ⟨rfl, hhere⟩
      · have HP := Lib.hid hl
        have hji : ¬ ((j : Int) < 0) := by omega
        obtain ⟨b, o, l', A1, c1, rfl, hl', y0, y1, y2, y3, y4, hrd⟩ := H3.out.at hj
        rw [hl] at hl'
        injection hl' with hl'
        subst hl'
        have HYES : Hid (r = if q < l.q then ⟨8, [], 0, 2⟩ else if q = l.q then ⟨l.e, l.v, l.n, 1⟩ else ⟨0, [], 0, 0⟩) := Lib.hid (by
          rw [← HRES.out]
          unfold Tb.look
          rw [if_pos HNM.out, hhere])
        have hl1 : Lim 0 l.v.length := HLI.out l (List.mem_of_getElem? hl)
        have HRD := Lib.hid hrd
        have hb' : Below w3.heap.size w3 (w3.alloc (.cells #[.int .i64 l.s, .int .i64 l.q, .int .i64 l.e, .slice A1 l.v.length c1, .int .i64 l.n] 54)) := (Below.refl _ _).alloc (Nat.le_refl _) _
        have HK4 := Lib.hid (HK3.out.below hb')
        have HB4 := Lib.hid (HB3.out.trans (hb'.mono HB3.out.size))
        clear hl hls hhere hrd hb'
        by_cases hq : q < l.q
        · have HR : Hid (r = ⟨8, [], 0, 2⟩) := Lib.hid (by rw [HYES.out, if_pos hq])
          go_wp2_with (first
            | (go_at_call 79; refine (refused_any (W := w) _ HB4.out).mono ?_; rintro en w5 ⟨A2, c2, rfl, ho2, hB2, hb2⟩; unfold resV; simp only [List.length_nil]; have HK2 := Lib.hid (HK4.out.below hb2); obtain ⟨x0, x1, x2, f0, f1, f2⟩ := three HK2.out)
            | fail)
          have hr := HR.out
          subst hr
          refine bodyPost_ret (results_cell_tmp rfl _ _ _ _ _ _ rfl (put3 HK2.out _ _ _).1 Tryz.underlying40 rfl (by kernel_rfl)) rfl ?_
          exact lookDoneAt HK2.out (by omega) hB2 ho2 rfl
        · by_cases hq2 : q = l.q
          · subst hq2
            have HR : Hid (r = ⟨l.e, l.v, l.n, 1⟩) := Lib.hid (by rw [HYES.out, if_neg hq, if_pos rfl])
            go_wp2_with (first
              | (go_at_call 83; refine (copied9_any (W := w) _ _ hl1 (HRD.out.fit.alloc (Nat.le_refl _) _) HB4.out).mono ?_; rintro en w5 ⟨A2, c2, rfl, ho2, hB2, hb2⟩; unfold resV; have HK2 := Lib.hid (HK4.out.below hb2); obtain ⟨x0, x1, x2, f0, f1, f2⟩ := three HK2.out)
              | fail)
            have hr := HR.out
            subst hr
            refine bodyPost_ret (results_cell_tmp rfl _ _ _ _ _ _ rfl (put3 HK2.out _ _ _).1 Tryz.underlying40 rfl (by kernel_rfl)) rfl ?_
            exact lookDoneAt HK2.out (by omega) hB2 ho2 rfl
          · have hqb : (q == l.q) = false := by simpa using hq2
            have HR : Hid (r = ⟨0, [], 0, 0⟩) := Lib.hid (by rw [HYES.out, if_neg hq, if_neg hq2])
            obtain ⟨x0, x1, x2, f0, f1, f2⟩ := three HK4.out
            go_wp2_with fail
            have hr := HR.out
            subst hr
            refine bodyPost_ret (results_cell_tmp rfl _ _ _ _ _ _ rfl (put3 HK4.out _ _ _).1 Tryz.underlying40 rfl (by kernel_rfl)) rfl ?_
            exact lookDoneAt HK4.out (by omega) HB4.out (own_nil _ _) rfl
      · obtain ⟨E, hE⟩ : ∃ E, (if 8 ≤ ls.length then (9 : Int) else 0) = E := ⟨_, rfl⟩
        obtain ⟨K, hK⟩ : ∃ K, (if 8 ≤ ls.length then (2 : Int) else 0) = K := ⟨_, rfl⟩
        have HR : Hid (r = ⟨E, [], 0, K⟩) := Lib.hid (by
          rw [← HRES.out, ← hE, ← hK]
          unfold Tb.look
          rw [if_pos HNM.out, hhere]
          simp only []
          split <;> rfl)
        have HLF := Lib.hid (lookFirst_any (W := w) A ls.length c hn HB3.out)
        rw [hE, hK] at HLF
        clear hhere hE hK
        go_wp2_with (first
          | (go_at_call 82; refine HLF.out.mono ?_; rintro en w5 ⟨A2, c2, rfl, ho2, hB2, hb2⟩; unfold resV; simp only [List.length_nil]; have HK2 := Lib.hid (HK3.out.below hb2); obtain ⟨x0, x1, x2, f0, f1, f2⟩ := three HK2.out)
          | fail)
        have hr := HR.out
        subst hr
        refine bodyPost_ret (results_cell_tmp rfl _ _ _ _ _ _ rfl (put3 HK2.out _ _ _).1 Tryz.underlying40 rfl (by kernel_rfl)) rfl ?_
        exact lookDoneAt HK2.out (by omega) hB2 ho2 rfl
    · have HD2 := Lib.hid (decide_eq_false h2)
      have HR : Hid (r = ⟨10, [], 0, 2⟩) := Lib.hid (by rw [← HRES.out]; unfold Tb.look; rw [if_neg (by rintro ⟨_, _, _, _⟩; omega)])
      clear h1 h2
      go_enter Tryz.func30, Tryz.ntmps30
      go_upto_region 1 with fail
      generalize (w.alloc (.cells #[.int .i64 s] 3)).alloc (.cells #[.int .i64 0, .slice none 0 0, .int .i64 0] 40) = wa at H HB HK HS ⊢
      have hsc := HS.out.cell 0
      go_wp2_with (first
        | (go_at_call 78; refine (isNumber_any _ _).mono ?_; (first | rw [HD1.out] | rw [HD2.out]); rintro e w1 ⟨rfl, rfl⟩)
        | (go_at_call 79; refine (refused_any (W := w) _ HB.out).mono ?_; rintro en w2 ⟨A2, c2, rfl, ho2, hB2, hb2⟩; unfold resV; simp only [List.length_nil]; have HK2 := Lib.hid (HK.out.below hb2); obtain ⟨x0, x1, x2, f0, f1, f2⟩ := three HK2.out)
        | fail)
      have hr := HR.out
      subst hr
      refine bodyPost_ret (results_cell_tmp rfl _ _ _ _ _ _ rfl (put3 HK2.out _ _ _).1 Tryz.underlying40 rfl (by kernel_rfl)) rfl ?_
      exact lookDoneAt HK2.out (by omega) hB2 ho2 rfl
  · have HD1 := Lib.hid (decide_eq_false h1)
    have HR : Hid (r = ⟨10, [], 0, 2⟩) := Lib.hid (by rw [← HRES.out]; unfold Tb.look; rw [if_neg (by rintro ⟨_, _, _, _⟩; omega)])
    clear h1
    go_enter Tryz.func30, Tryz.ntmps30
    go_upto_region 1 with fail
    generalize (w.alloc (.cells #[.int .i64 s] 3)).alloc (.cells #[.int .i64 0, .slice none 0 0, .int .i64 0] 40) = wa at H HB HK HS ⊢
    have hsc := HS.out.cell 0
    go_wp2_with (first
      | (go_at_call 78; refine (isNumber_any _ _).mono ?_; rw [HD1.out]; rintro e w1 ⟨rfl, rfl⟩)
      | (go_at_call 79; refine (refused_any (W := w) _ HB.out).mono ?_; rintro en w2 ⟨A2, c2, rfl, ho2, hB2, hb2⟩; unfold resV; simp only [List.length_nil]; have HK2 := Lib.hid (HK.out.below hb2); obtain ⟨x0, x1, x2, f0, f1, f2⟩ := three HK2.out)
      | fail)
    have hr := HR.out
    subst hr
    refine bodyPost_ret (results_cell_tmp rfl _ _ _ _ _ _ rfl (put3 HK2.out _ _ _).1 Tryz.underlying40 rfl (by kernel_rfl)) rfl ?_
    exact lookDoneAt HK2.out (by omega) hB2 ho2 rfl
theorem look9 : LookC9 := fun {W w ls A n c B} s q hok hc h hB =>
  (look9_raw s q (by have := h.length; have := hok.len; omega) hok.lim h).mono fun e w' h => GotRK.of hB h
end Go.Proofs.YthfnnieklkaefaaGreat

namespace Go.Proofs.YthfnnieklkaefaaGreat
open Go.RowKit
set_option linter.unusedVariables false
set_option maxHeartbeats 4000000 in
set_option maxRecDepth 100000 in
theorem put9_raw {w : World} {ls : List Ls} {A A' : Option Addr} {n c c' B B' : Nat} (l : Ls) (hn : n ≤ 1000) (hL : LimLs ls) (hR : Tb.Rises ls) (hl1 : Lim 0 l.v.length) (h : RdL w B A n ls) (h' : Rd w B' A' l.v.length (bv l.v)) :
    Calls Tryz.prog 33 #[.slice A n c, .int .i64 l.s, .int .i64 l.q, .agg #[.int .i64 l.e, .slice A' l.v.length c', .int .i64 l.n]] w (GotL w w (Tb.put ls l)) := by
  obtain rfl := h.length
  have b0 : Below w.heap.size w (w.alloc (.cells #[.int .i64 l.e, .slice A' l.v.length c', .int .i64 l.n] 40)) := (Below.refl _ _).alloc (Nat.le_refl _) _
  have H := Lib.hid (h.fit.below b0)
  have H' := Lib.hid (h'.fit.below b0)
  have HK := Lib.hid (Blk.new w 40 #[.int .i64 l.e, .slice A' l.v.length c', .int .i64 l.n])
  have HL := Lib.hid hL
  have HR := Lib.hid hR
  have hDl := Tb.less_len ls l.s
  obtain ⟨D, hD⟩ : ∃ D, Tb.less ls l.s = D := ⟨_, rfl⟩
  rw [hD] at hDl
  have HD := Lib.hid hD
  have hn5 : ls.length ≤ 100000 := by omega
  have hDn : D.length ≤ 100000 := by omega
  clear h h' hL hR hD
  go_enter Tryz.func33, Tryz.ntmps33
  go_upto_region 3 with (first
    | (go_at_call 99; refine (without9_any (W := w) l.s hn5 HL.out H.out b0).mono ?_; rw [HD.out]; rintro e w1 ⟨g, rfl, ho1, hB1, hb1⟩; have HK1 := Lib.hid (HK.out.below hb1); obtain ⟨x0, x1, x2, f0, f1, f2⟩ := three HK1.out)
    | (go_at_call 83; refine (copied9_any (W := w) _ _ hl1 (H'.out.fit.below hb1) hB1).mono ?_; rintro e w2 ⟨A4, c4, rfl, ho2, hB2, hb2⟩; unfold resV)
    | fail)
  have HDR : Hid (Tb.Rises ls) := HR
  obtain ⟨wz, hwz⟩ : ∃ wz, w2.alloc (.cells #[.int .i64 l.s, .int .i64 l.q, .int .i64 l.e, .slice A4 l.v.length c4, .int .i64 l.n] 54) = wz := ⟨_, rfl⟩
  have hbz : Below w2.heap.size w2 wz := by rw [← hwz]; exact (Below.refl _ _).alloc (Nat.le_refl _) _
  have hkz : Blk wz w2.heap.size 54 #[.int .i64 l.s, .int .i64 l.q, .int .i64 l.e, .slice A4 l.v.length c4, .int .i64 l.n] := by rw [← hwz]; exact Blk.new _ _ _
  have HOZ := Lib.hid ((ho1.below hb2).below hbz)
  have HVZ := Lib.hid (own_below ho2 hbz)
  have HBZ := Lib.hid (hB2.trans (hbz.mono hB2.size))
  have HC : Hid (∀ wx, Below wz.heap.size wz wx → wx.cell? ⟨w2.heap.size, 0, none⟩ = some (.int .i64 l.s) ∧ wx.cell? ⟨w2.heap.size, 1, none⟩ = some (.int .i64 l.q) ∧ wx.cell? ⟨w2.heap.size, 2, none⟩ = some (.int .i64 l.e) ∧ wx.cell? ⟨w2.heap.size, 3, none⟩ = some (.slice A4 l.v.length c4) ∧ wx.cell? ⟨w2.heap.size, 4, none⟩ = some (.int .i64 l.n)) :=
    Lib.hid (fun wx hb => five5 (hkz.below hb))
  have hg : g < wz.heap.size := by
    obtain ⟨q, q1, _⟩ := HOZ.out
    obtain ⟨_, q2, _⟩ := own_cur q1
    exact q2.lt
  have HG := Lib.hid hg
  obtain ⟨z0, z1, z2, z3, z4⟩ := HC.out wz.drew (Below.refl _ _).drew
  rw [hwz]
  have hD1 : D.length < ls.length + 1 := by omega
  clear hwz hbz hkz hg ho1 hB1 hb1 ho2 hB2 hb2 b0 H H' HK HK1 HL x0 x1 x2 f0 f1 f2
  go_region_law (first
    | (rw [if_pos (by kernel_rfl)]; go_simp; go_at_call 101; refine (place9_any _ (s := l.s) hDn (HOZ.out.below (Below.refl _ _).drew).rd).mono ?_; rintro e w4 ⟨⟨i, rfl, hi, hlo, hhi⟩, hb4⟩
       have hb5 := (Below.refl wz.heap.size wz).drew.trans hb4
       have ho4 := HOZ.out.below hb5
       have hv4 := own_below HVZ.out hb5
       have hB4 := HBZ.out.trans (hb5.mono HBZ.out.size)
       have b6 : Below w4.heap.size w4 (w4.alloc (.cells #[.int .i64 l.s, .int .i64 l.q, .int .i64 l.e, .slice A4 l.v.length c4, .int .i64 l.n] 54)) := (Below.refl _ _).alloc (Nat.le_refl _) _
       obtain ⟨z0, z1, z2, z3, z4⟩ := HC.out w4 hb5
       go_simp)
    | (rw [if_pos (by kernel_rfl)]; go_simp; go_at_call 101; refine (place9_any _ (s := l.s) hDn (HOZ.out.below ((Below.refl _ _).drew.alloc (Nat.le_refl _) (.cells #[.int .i64 l.s, .int .i64 l.q, .int .i64 l.e, .slice A4 l.v.length c4, .int .i64 l.n] 54))).rd).mono ?_; rintro e w4 ⟨⟨i, rfl, hi, hlo, hhi⟩, hb4⟩
       have hb5 := ((Below.refl wz.heap.size wz).drew.alloc (Nat.le_refl _) (.cells #[.int .i64 l.s, .int .i64 l.q, .int .i64 l.e, .slice A4 l.v.length c4, .int .i64 l.n] 54)).trans (hb4.mono (by simp))
       have ho4 := HOZ.out.below hb5
       have hv4 := own_below HVZ.out hb5
       have hB4 := HBZ.out.trans (hb5.mono HBZ.out.size)
       have hk4 := (Blk.new wz.drew 54 #[.int .i64 l.s, .int .i64 l.q, .int .i64 l.e, .slice A4 l.v.length c4, .int .i64 l.n]).below hb4
       have hne : wz.drew.heap.size ≠ g := by have := HG.out; simp; omega
       obtain ⟨z0, z1, z2, z3, z4⟩ := HC.out w4 hb5
       go_simp)
    | (rw [if_pos (by kernel_rfl)]; go_simp; go_at_call 100; refine (insertL_any (W := w) hDn hi hD1 (by have := HG.out; have := hb5.size; omega) (ho4.below b6) (Blk.new w4 54 #[.int .i64 l.s, .int .i64 l.q, .int .i64 l.e, .slice A4 l.v.length c4, .int .i64 l.n]) (own_below hv4 b6) (hB4.trans (b6.mono hB4.size))).mono ?_
       rintro e w6 ⟨rfl, ho6, hB6⟩
       go_simp)
    | (rw [if_pos (by kernel_rfl)]; go_simp; go_at_call 100; refine (insertL_any (W := w) hDn hi hD1 hne ho4 hk4 hv4 hB4).mono ?_
       rintro e w6 ⟨rfl, ho6, hB6⟩
       go_simp))
  all_goals go_wp2_with fail
  all_goals go_ret
  all_goals
    have HAT : Tb.At D l.s i := by rw [← HD.out]; exact Tb.less_at (by rw [HD.out]; exact hi) (by rw [HD.out]; intro j m h1 h2; have := hlo j m h1 h2; omega) (by rw [HD.out]; exact hhi)
    have HP := Tb.put_less (l := l) (i := i) HR.out (by rw [HD.out]; exact HAT)
    rw [HD.out] at HP
    rw [← HP] at ho6
    have hl6 := ho6.length
    exact ⟨some ⟨g, 0, none⟩, ls.length + 1, by rw [hl6]; rfl, by rw [hl6]; exact ho6, hB6, hB6⟩
theorem put9 : PutC9 := fun {W w ls A A' n c c' B B'} l hok hnm hv hb hc h h' hB =>
  (put9_raw l (by have := h.length; have := hok.len; omega) hok.lim hok.rises (by unfold Lim; omega) h h').mono fun e w' h => GotL.of hB h
end Go.Proofs.YthfnnieklkaefaaGreat

namespace Go.Proofs.YthfnnieklkaefaaGreat
open Go.RowKit
set_option linter.unusedVariables false
set_option maxHeartbeats 4000000 in
set_option maxRecDepth 100000 in
theorem step_raw {w : World} {a : MA} {ca : CA} {m : Mc} {e : En} {B B' : Nat} (hM : m.Ok) (hc : e.c.Fits) (h : RdM w B a m) (h' : RdC w B' ca e.c) :
    Calls Tryz.prog 10 #[machV a m, entV ca e] w (GotM w w (m.step e)) := by
  obtain ⟨⟨A0, c0, A1, c1, A2, c2, A3, c3⟩, At, ct⟩ := a
  obtain ⟨Ak, ck, Av, cv, Ao, co⟩ := ca
  have HV := Lib.hid (VarsM.start (e := e) h h')
  have HM := Lib.hid hM
  have HC := Lib.hid hc
  have hct : m.t.length ≤ ct := h.lt
  clear h h' hM hc
  unfold machV entV
  simp only [machC, entC] at HV ⊢
  obtain ⟨K, hK⟩ : ∃ K, Tb.look m.t e.s e.q = K := ⟨_, rfl⟩
  have HLK := Lib.hid (fun (W w : World) (B : Nat) (h : RdL w B At m.t.length m.t) (hB : Below W.heap.size W w) => look9 (W := W) (c := ct) e.s e.q HM.out.t hct h hB)
  rw [hK] at HLK
  by_cases hk : K.k = 0
  · have hkb : (K.k != 0) = false := by simpa using hk
    obtain ⟨r, hr⟩ : ∃ r, m.o.apply e.c = r := ⟨_, rfl⟩
    have HST : Hid (m.step e = ⟨⟨r.s, Tb.put m.t ⟨e.s, e.q, r.e, r.v, r.n⟩⟩, r.e, r.v, r.n⟩) := Lib.hid (by unfold Mc.step; rw [hK, if_pos hk, hr])
    have HRB : Hid (∀ x ∈ r.v, x < 256) := Lib.hid (by rw [← hr]; exact Ob.apply_vb HM.out.o)
    have HNM : Hid (Tb.named e.s e.q) := Lib.hid (by
      unfold Tb.look at hK
      split at hK
      · assumption
      · rw [← hK] at hk; simp at hk)
    have HRV : Hid (r.v.length ≤ 16) := Lib.hid (by rw [← hr]; exact (Ob.apply_fits (c := e.c) HM.out.o HM.out.lk).v)
    have HAP := Lib.hid (fun (W w : World) (a : OA) (ca : CA) (B B' : Nat) (h : RdO w B a m.o) (h' : RdC w B' ca e.c) (hB : Below W.heap.size W w) => apply8 (W := W) HM.out.o HC.out h h' hB)
    rw [hr] at HAP
    clear hK hk hr
    go_enter Tryz.func10, Tryz.ntmps10
    go_upto_region 1 with fail
    generalize ((((w.alloc (.cells #[.slice A0 m.o.reg.length c0, .slice A1 m.o.q.length c1, .slice A2 m.o.lk.length c2, .slice A3 m.o.mp.length c3, .slice At m.t.length ct] 37)).alloc (.cells #[.int .i64 e.s, .int .i64 e.q, .int .i64 e.c.kind, .int .i64 e.c.who, .slice Ak e.c.key.length ck, .slice Av e.c.val.length cv, .slice Ao e.c.old.length co] 28)).alloc (.cells #[.slice none 0 0, .slice none 0 0, .slice none 0 0, .slice none 0 0, .slice none 0 0] 37)).alloc (.cells #[.int .i64 0, .slice none 0 0, .int .i64 0] 40)) = wa at HV ⊢
    obtain ⟨⟨x0, x1, x2, x3, x4⟩, ⟨y0, y1, y2, y3, y4, y5, y6⟩, _⟩ := HV.out.cells
    go_upto_region 5 with (first
      | (go_at_call 30; refine (HLK.out w _ _ HV.out.rm.t HV.out.bel).mono ?_; rintro en w1 ⟨A5, c5, rfl, ho1, hB1, hb1⟩; unfold resV; have HG1 := Lib.hid (HV.out.below hb1).v3.lt; have hb1' := hb1.alloc hb1.size (.cells #[.int .i64 K.e, .slice A5 K.v.length c5, .int .i64 K.n] 40); have HV1 := Lib.hid (HV.out.below hb1'); have HK1 := Lib.hid (Blk.new w1 40 #[.int .i64 K.e, .slice A5 K.v.length c5, .int .i64 K.n]); obtain ⟨⟨x0, x1, x2, x3, x4⟩, ⟨y0, y1, y2, y3, y4, y5, y6⟩, _⟩ := HV1.out.cells)
      | (go_at_call 32; refine (HAP.out w _ ⟨A0, c0, A1, c1, A2, c2, A3, c3⟩ ⟨Ak, ck, Av, cv, Ao, co⟩ _ _ HV1.out.rm.o HV1.out.rc HV1.out.bel).mono ?_; rintro en w2 ⟨a2, A6, c6, rfl, ho2, hv2, hB2, hb2⟩; unfold resV objV objC; have hb2' := hb2.alloc hb2.size (.cells #[.slice a2.A0 r.s.reg.length a2.c0, .slice a2.A1 r.s.q.length a2.c1, .slice a2.A2 r.s.lk.length a2.c2, .slice a2.A3 r.s.mp.length a2.c3] 34); have HG2 := Lib.hid (HK1.out.below hb2).lt; have HV2 := Lib.hid (HV1.out.below hb2'); have HK2 := Lib.hid (HK1.out.below hb2'); have HQ2 := Lib.hid (Blk.new w2 34 #[.slice a2.A0 r.s.reg.length a2.c0, .slice a2.A1 r.s.q.length a2.c1, .slice a2.A2 r.s.lk.length a2.c2, .slice a2.A3 r.s.mp.length a2.c3]); have HO2 := Lib.hid (ho2.below ((Below.refl _ _).alloc (Nat.le_refl _) (.cells #[.slice a2.A0 r.s.reg.length a2.c0, .slice a2.A1 r.s.q.length a2.c1, .slice a2.A2 r.s.lk.length a2.c2, .slice a2.A3 r.s.mp.length a2.c3] 34))); have HR2 := Lib.hid (own_below hv2 ((Below.refl _ _).alloc (Nat.le_refl _) (.cells #[.slice a2.A0 r.s.reg.length a2.c0, .slice a2.A1 r.s.q.length a2.c1, .slice a2.A2 r.s.lk.length a2.c2, .slice a2.A3 r.s.mp.length a2.c3] 34))); obtain ⟨k0, k1, k2, f0, f1, f2⟩ := three HK2.out; clear hb2' hb2 ho2 hv2 hB2)
      | fail)
    have hg1 := HG1.out
    have hg2 := HG2.out
    obtain ⟨p1, p2, p3⟩ := put3 HK2.out (.int .i64 r.e) (.slice A6 r.v.length c6) (.int .i64 r.n)
    have HV6 := Lib.hid (((HV2.out.set (Nat.le_refl _) hg1 (i := 0) (u := .int .i64 r.e)).set (Nat.le_refl _) hg1 (i := 1) (u := .slice A6 r.v.length c6)).set (Nat.le_refl _) hg1 (i := 2) (u := .int .i64 r.n))
    have HQ6 := Lib.hid (((HQ2.out.set_other (b := w1.heap.size) (i := 0) (u := .int .i64 r.e) (by omega)).set_other (b := w1.heap.size) (i := 1) (u := .slice A6 r.v.length c6) (by omega)).set_other (b := w1.heap.size) (i := 2) (u := .int .i64 r.n) (by omega))
    have HK6 := Lib.hid p1
    have HR6 := Lib.hid (p3 _ _ _ _ _ _ HR2.out (by decide))
    have HO6 := Lib.hid (((HO2.out.set_t HK2.out (i := 0) (u := .int .i64 r.e) (by decide) (by decide) (by decide) (by decide)).set_t (HK2.out.set_ _ _) (i := 1) (u := .slice A6 r.v.length c6) (by decide) (by decide) (by decide) (by decide)).set_t ((HK2.out.set_ _ _).set_ _ _) (i := 2) (u := .int .i64 r.n) (by decide) (by decide) (by decide) (by decide))
    clear p1 p2 p3 HV2 HQ2 HK2 HO2 HR2 HG1 HG2 HV1 HK1 HV x0 x1 x2 x3 x4 y0 y1 y2 y3 y4 y5 y6 k0 k1 k2 f0 f1 f2 HAP HLK
    generalize ((((w2.alloc (.cells #[.slice a2.A0 r.s.reg.length a2.c0, .slice a2.A1 r.s.q.length a2.c1, .slice a2.A2 r.s.lk.length a2.c2, .slice a2.A3 r.s.mp.length a2.c3] 34)).setCell ⟨w1.heap.size, 0, none⟩ (.int .i64 r.e)).setCell ⟨w1.heap.size, 1, none⟩ (.slice A6 r.v.length c6)).setCell ⟨w1.heap.size, 2, none⟩ (.int .i64 r.n)) = wx at HV6 HQ6 HK6 HR6 HO6 ⊢
    have HP := Lib.hid (fun (W w : World) (B B' : Nat) (h : RdL w B At m.t.length m.t) (h' : Rd w B' A6 r.v.length (bv r.v)) (hB : Below W.heap.size W w) => put9 (W := W) (l := ⟨e.s, e.q, r.e, r.v, r.n⟩) (c := ct) (c' := c6) HM.out.t HNM.out HRV.out HRB.out hct h h' hB)
    have hbd : Below wx.heap.size wx wx.drew := (Below.refl _ _).drew
    have HV7 := Lib.hid (HV6.out.below hbd)
    have HR7 := Lib.hid (own_below HR6.out hbd)
    have HO7 := Lib.hid (HO6.out.below hbd)
    have HS7 : Hid (SM w.heap.size w1.heap.size w2.heap.size #[.slice A0 m.o.reg.length c0, .slice A1 m.o.q.length c1, .slice A2 m.o.lk.length c2, .slice A3 m.o.mp.length c3, .slice At m.t.length ct] #[.int .i64 e.s, .int .i64 e.q, .int .i64 e.c.kind, .int .i64 e.c.who, .slice Ak e.c.key.length ck, .slice Av e.c.val.length cv, .slice Ao e.c.old.length co] #[.int .i64 r.e, .slice A6 r.v.length c6, .int .i64 r.n] #[.slice a2.A0 r.s.reg.length a2.c0, .slice a2.A1 r.s.q.length a2.c1, .slice a2.A2 r.s.lk.length a2.c2, .slice a2.A3 r.s.mp.length a2.c3] wx.drew) := Lib.hid ⟨HV7.out.v0, HV7.out.v1, HK6.out.below hbd, HQ6.out.below hbd⟩
    refine wp_region_held_drew (S := SM w.heap.size w1.heap.size w2.heap.size #[.slice A0 m.o.reg.length c0, .slice A1 m.o.q.length c1, .slice A2 m.o.lk.length c2, .slice A3 m.o.mp.length c3, .slice At m.t.length ct] #[.int .i64 e.s, .int .i64 e.q, .int .i64 e.c.kind, .int .i64 e.c.who, .slice Ak e.c.key.length ck, .slice Av e.c.val.length cv, .slice Ao e.c.old.length co] #[.int .i64 r.e, .slice A6 r.v.length c6, .int .i64 r.n] #[.slice a2.A0 r.s.reg.length a2.c0, .slice a2.A1 r.s.q.length a2.c1, .slice a2.A2 r.s.lk.length a2.c2, .slice a2.A3 r.s.mp.length a2.c3]) (by kernel_rfl) HS7.out (fun _ => ?_)
    clear hbd HV6 HR6 HO6 HK6 HQ6
    generalize wx.drew = wd at HV7 HR7 HO7 HS7 ⊢
    refine wpAnyH_take (i := 1) (v := .pointer (some ⟨w.heap.size, 4, none⟩)) rfl (by kernel_rfl) (by kernel_rfl) (by kernel_rfl) (fun _ _ _ h => h) (Or.inl ⟨by kernel_rfl, fun w _ => by go_simp⟩) HS7.out ?_
    refine wpAnyH_take (i := 3) (v := .pointer (some ⟨w.heap.size + 1, 0, none⟩)) rfl (by kernel_rfl) (by kernel_rfl) (by kernel_rfl) (fun _ _ _ h => h) (Or.inl ⟨by kernel_rfl, fun w _ => by go_simp⟩) HS7.out ?_
    refine wpAnyH_take (i := 5) (v := .pointer (some ⟨w.heap.size + 1, 1, none⟩)) rfl (by kernel_rfl) (by kernel_rfl) (by kernel_rfl) (fun _ _ _ h => h) (Or.inl ⟨by kernel_rfl, fun w _ => by go_simp⟩) HS7.out ?_
    refine wpAnyH_take (i := 0) (v := .agg #[.slice a2.A0 r.s.reg.length a2.c0, .slice a2.A1 r.s.q.length a2.c1, .slice a2.A2 r.s.lk.length a2.c2, .slice a2.A3 r.s.mp.length a2.c3]) rfl (by kernel_rfl) (by kernel_rfl) (by kernel_rfl) (fun _ _ _ h => h) (Or.inl ⟨by kernel_rfl, fun w h => by obtain ⟨q0, q1, q2, q3, _⟩ := four h.2.2.2; go_simp⟩) HS7.out ?_
    refine wpAnyH_take (i := 2) (v := .slice At m.t.length ct) rfl (by kernel_rfl) (by kernel_rfl) (by kernel_rfl) (fun _ _ _ h => h) (Or.inl ⟨by kernel_rfl, fun w h => by obtain ⟨q0, q1, q2, q3, q4⟩ := five h.1; go_simp⟩) HS7.out ?_
    refine wpAnyH_take (i := 4) (v := .int .i64 e.s) rfl (by kernel_rfl) (by kernel_rfl) (by kernel_rfl) (fun _ _ _ h => h) (Or.inl ⟨by kernel_rfl, fun w h => by obtain ⟨q0, q1, q2, q3, q4, q5, q6⟩ := seven h.2.1; go_simp⟩) HS7.out ?_
    refine wpAnyH_take (i := 6) (v := .int .i64 e.q) rfl (by kernel_rfl) (by kernel_rfl) (by kernel_rfl) (fun _ _ _ h => h) (Or.inl ⟨by kernel_rfl, fun w h => by obtain ⟨q0, q1, q2, q3, q4, q5, q6⟩ := seven h.2.1; go_simp⟩) HS7.out ?_
    refine wpAnyH_take (i := 7) (v := .agg #[.int .i64 r.e, .slice A6 r.v.length c6, .int .i64 r.n]) rfl (by kernel_rfl) (by kernel_rfl) (by kernel_rfl) (fun _ _ _ h => h) (Or.inl ⟨by kernel_rfl, fun w h => by obtain ⟨q0, q1, q2, _, _, _⟩ := three h.2.2.1; go_simp⟩) HS7.out ?_
    refine wpAnyH_take (i := 10) (v := .agg #[.int .i64 r.e, .slice A6 r.v.length c6, .int .i64 r.n]) rfl (by kernel_rfl) (by kernel_rfl) (by kernel_rfl) (fun _ _ _ h => h) (Or.inl ⟨by kernel_rfl, fun w h => by obtain ⟨q0, q1, q2, _, _, _⟩ := three h.2.2.1; go_simp⟩) HS7.out ?_
    refine wpAnyH_ready (rs := [8]) (by kernel_rfl) (by simp) ?_
    refine AllReadyH.cons rfl (fun K hK => ?_) AllReadyH.nil
    go_simp
    refine (HP.out w _ _ _ HV7.out.rm.t (Rd.own_ HR7.out) HV7.out.bel).mono ?_
    rintro en w3 ⟨A7, c7, rfl, ho7, hB7, hb7⟩
    have HK8 := Lib.hid (HS7.out.2.2.1.below hb7)
    have HV8 := Lib.hid (HV7.out.below hb7)
    have HR8 := Lib.hid (own_below HR7.out hb7)
    have HO8 := Lib.hid (HO7.out.below hb7)
    have HS8 := Lib.hid (HS7.out.below hb7)
    clear HV7 HR7 HO7 HS7
    go_simp
    refine hK.out _ _ HS8.out (fun _ => ?_)
    clear hK K
    refine wpAnyH_take (i := 9) (v := .agg #[.slice a2.A0 r.s.reg.length a2.c0, .slice a2.A1 r.s.q.length a2.c1, .slice a2.A2 r.s.lk.length a2.c2, .slice a2.A3 r.s.mp.length a2.c3, .slice A7 (Tb.put m.t ⟨e.s, e.q, r.e, r.v, r.n⟩).length c7]) rfl (by kernel_rfl) (by kernel_rfl) (by kernel_rfl) (fun _ _ _ h => h) (Or.inl ⟨by kernel_rfl, fun w _ => by go_simp⟩) HS8.out ?_
    have l1 := HK8.out.lt
    have HS9 := Lib.hid (HS8.out.set5 (k := w.heap.size + 1 + 1) (u0 := .slice a2.A0 r.s.reg.length a2.c0) (u1 := .slice a2.A1 r.s.q.length a2.c1) (u2 := .slice a2.A2 r.s.lk.length a2.c2) (u3 := .slice a2.A3 r.s.mp.length a2.c3) (u4 := .slice A7 (Tb.put m.t ⟨e.s, e.q, r.e, r.v, r.n⟩).length c7) (by omega) (by omega) (by omega) (by omega))
    obtain ⟨_, _, _, _, k5⟩ := put5 HV8.out.v2 (.slice a2.A0 r.s.reg.length a2.c0) (.slice a2.A1 r.s.q.length a2.c1) (.slice a2.A2 r.s.lk.length a2.c2) (.slice a2.A3 r.s.mp.length a2.c3) (.slice A7 (Tb.put m.t ⟨e.s, e.q, r.e, r.v, r.n⟩).length c7)
    have l0 := k5 (w.heap.size + 1 + 1 + 1) _ _ (by omega) HV8.out.v3
    have HS10 := Lib.hid (HS9.out.set3 (k := w.heap.size + 1 + 1 + 1) (u0 := .int .i64 r.e) (u1 := .slice A6 r.v.length c6) (u2 := .int .i64 r.n) (by omega) (by omega) (by omega) (by omega))
    obtain ⟨e1, e2, e3⟩ := HV8.out.end_ (Nat.le_refl _) (r := ⟨⟨r.s, Tb.put m.t ⟨e.s, e.q, r.e, r.v, r.n⟩⟩, r.e, r.v, r.n⟩) (a' := ⟨a2, A7, c7⟩) ⟨HO8.out, ho7⟩ HR8.out (.slice a2.A0 r.s.reg.length a2.c0) (.slice a2.A1 r.s.q.length a2.c1) (.slice a2.A2 r.s.lk.length a2.c2) (.slice a2.A3 r.s.mp.length a2.c3) (.slice A7 (Tb.put m.t ⟨e.s, e.q, r.e, r.v, r.n⟩).length c7) (.int .i64 r.e) (.slice A6 r.v.length c6) (.int .i64 r.n) rfl rfl rfl
    have HE := Lib.hid (And.intro e1 (And.intro e2 e3))
    obtain ⟨_, _, ⟨z0, z1, z2, z3, z4⟩, ⟨u0, u1, u2⟩, ⟨q0, q1, q2, q3, q4⟩, ⟨r0, r1, r2⟩⟩ := HV8.out.cells
    obtain ⟨p0, p1, p2, d0, d1, d2⟩ := three l0
    clear k5 l0 e1 e2 e3 r0 r1 r2 u0 u1 u2
    refine wpAnyH_ready (rs := [11]) (by kernel_rfl) (by simp) ?_
    refine AllReadyH.cons rfl (fun K hK => ?_) AllReadyH.nil
    go_simp
    refine hK.out _ _ HS9.out (fun _ => ?_)
    clear hK K
    clear z0 z1 z2 z3 z4 q0 q1 q2 q3 q4
    generalize (((((w3.setCell ⟨w.heap.size + 1 + 1, 0, none⟩ (.slice a2.A0 r.s.reg.length a2.c0)).setCell ⟨w.heap.size + 1 + 1, 1, none⟩ (.slice a2.A1 r.s.q.length a2.c1)).setCell ⟨w.heap.size + 1 + 1, 2, none⟩ (.slice a2.A2 r.s.lk.length a2.c2)).setCell ⟨w.heap.size + 1 + 1, 3, none⟩ (.slice a2.A3 r.s.mp.length a2.c3)).setCell ⟨w.heap.size + 1 + 1, 4, none⟩ (.slice A7 (Tb.put m.t ⟨e.s, e.q, r.e, r.v, r.n⟩).length c7)) = w9 at HE HS9 HS10 p0 p1 p2 d0 d1 d2 ⊢
    refine wpAnyH_ready (rs := [12]) (by kernel_rfl) (by simp) ?_
    refine AllReadyH.cons rfl (fun K hK => ?_) AllReadyH.nil
    go_simp
    refine hK.out _ _ HS10.out (fun _ => ?_)
    clear hK K
    refine wpAnyH_done (by kernel_rfl) ?_ _
    go_wp2_with fail
    refine bodyPost_ret (results_cells2 rfl _ _ _ _ _ _ _ _ _ _ rfl rfl HE.out.1 HE.out.2.1 Tryz.underlying37 rfl (by kernel_rfl) Tryz.underlying40 rfl (by kernel_rfl)) rfl ?_
    rw [HST.out]
    exact HE.out.2.2
  · have hkb : (K.k != 0) = true := by simpa using hk
    have HST : Hid (m.step e = ⟨m, K.e, K.v, K.n⟩) := Lib.hid (by unfold Mc.step; rw [hK, if_neg hk])
    clear hK hk
    go_enter Tryz.func10, Tryz.ntmps10
    go_upto_region 1 with fail
    generalize ((((w.alloc (.cells #[.slice A0 m.o.reg.length c0, .slice A1 m.o.q.length c1, .slice A2 m.o.lk.length c2, .slice A3 m.o.mp.length c3, .slice At m.t.length ct] 37)).alloc (.cells #[.int .i64 e.s, .int .i64 e.q, .int .i64 e.c.kind, .int .i64 e.c.who, .slice Ak e.c.key.length ck, .slice Av e.c.val.length cv, .slice Ao e.c.old.length co] 28)).alloc (.cells #[.slice none 0 0, .slice none 0 0, .slice none 0 0, .slice none 0 0, .slice none 0 0] 37)).alloc (.cells #[.int .i64 0, .slice none 0 0, .int .i64 0] 40)) = wa at HV ⊢
    obtain ⟨⟨x0, x1, x2, x3, x4⟩, ⟨y0, y1, y2, y3, y4, y5, y6⟩, _⟩ := HV.out.cells
    go_upto_region 3 with (first
      | (go_at_call 30; refine (HLK.out w _ _ HV.out.rm.t HV.out.bel).mono ?_; rintro en w1 ⟨A5, c5, rfl, ho1, hB1, hb1⟩; unfold resV; have HG1 := Lib.hid (HV.out.below hb1).v3.lt; have hb1' := hb1.alloc hb1.size (.cells #[.int .i64 K.e, .slice A5 K.v.length c5, .int .i64 K.n] 40); have HV1 := Lib.hid (HV.out.below hb1'); have HK1 := Lib.hid (Blk.new w1 40 #[.int .i64 K.e, .slice A5 K.v.length c5, .int .i64 K.n]); have HO1 := Lib.hid (own_below ho1 ((Below.refl _ _).alloc (Nat.le_refl _) (.cells #[.int .i64 K.e, .slice A5 K.v.length c5, .int .i64 K.n] 40))); obtain ⟨⟨x0, x1, x2, x3, x4⟩, ⟨y0, y1, y2, y3, y4, y5, y6⟩, _⟩ := HV1.out.cells)
      | fail)
    have hg1 := HG1.out
    clear HV x0 x1 x2 x3 x4 y0 y1 y2 y3 y4 y5 y6 HLK ho1 hB1 hb1 hb1'
    generalize w1.alloc (.cells #[.int .i64 K.e, .slice A5 K.v.length c5, .int .i64 K.n] 40) = wx at HV1 HK1 HO1 ⊢
    have hbd : Below wx.heap.size wx wx.drew := (Below.refl _ _).drew
    have HV7 := Lib.hid (HV1.out.below hbd)
    have HR7 := Lib.hid (own_below HO1.out hbd)
    have HS7 : Hid (Blk wx.drew w.heap.size 37 #[.slice A0 m.o.reg.length c0, .slice A1 m.o.q.length c1, .slice A2 m.o.lk.length c2, .slice A3 m.o.mp.length c3, .slice At m.t.length ct] ∧ Blk wx.drew w1.heap.size 40 #[.int .i64 K.e, .slice A5 K.v.length c5, .int .i64 K.n]) := Lib.hid ⟨HV7.out.v0, HK1.out.below hbd⟩
    refine wp_region_held_drew (S := fun w' => Blk w' w.heap.size 37 #[.slice A0 m.o.reg.length c0, .slice A1 m.o.q.length c1, .slice A2 m.o.lk.length c2, .slice A3 m.o.mp.length c3, .slice At m.t.length ct] ∧ Blk w' w1.heap.size 40 #[.int .i64 K.e, .slice A5 K.v.length c5, .int .i64 K.n]) (by kernel_rfl) HS7.out (fun _ => ?_)
    clear hbd HV1 HK1 HO1
    generalize wx.drew = wd at HV7 HR7 HS7 ⊢
    refine wpAnyH_take (i := 0) (v := .agg #[.slice A0 m.o.reg.length c0, .slice A1 m.o.q.length c1, .slice A2 m.o.lk.length c2, .slice A3 m.o.mp.length c3, .slice At m.t.length ct]) rfl (by kernel_rfl) (by kernel_rfl) (by kernel_rfl) (fun _ _ _ h => h) (Or.inl ⟨by kernel_rfl, fun w h => by obtain ⟨q0, q1, q2, q3, q4⟩ := five h.1; go_simp⟩) HS7.out ?_
    refine wpAnyH_take (i := 2) (v := .agg #[.int .i64 K.e, .slice A5 K.v.length c5, .int .i64 K.n]) rfl (by kernel_rfl) (by kernel_rfl) (by kernel_rfl) (fun _ _ _ h => h) (Or.inl ⟨by kernel_rfl, fun w h => by obtain ⟨q0, q1, q2, _, _, _⟩ := three h.2; go_simp⟩) HS7.out ?_
    refine wpAnyH_ready (rs := [1]) (by kernel_rfl) (by simp) ?_
    refine AllReadyH.cons rfl (fun K hK => ?_) AllReadyH.nil
    go_simp
    refine (machineA_any (W := w) (a := ⟨⟨A0, c0, A1, c1, A2, c2, A3, c3⟩, At, ct⟩) HM.out HV7.out.rm HV7.out.bel).mono ?_
    rintro en w3 ⟨⟨⟨B0, d0, B1, d1, B2, d2, B3, d3⟩, Bt, dt⟩, rfl, ho7, hB7, hb7⟩
    unfold machV machC
    have HV8 := Lib.hid (HV7.out.below hb7)
    have HR8 := Lib.hid (own_below HR7.out hb7)
    have HS8 := Lib.hid (And.intro (HS7.out.1.below hb7) (HS7.out.2.below hb7))
    clear HV7 HR7 HS7
    go_simp
    refine hK.out _ _ HS8.out (fun _ => ?_)
    clear hK K
    have l1 := HS8.out.2.lt
    obtain ⟨_, _, _, _, k5⟩ := put5 HV8.out.v2 (.slice B0 m.o.reg.length d0) (.slice B1 m.o.q.length d1) (.slice B2 m.o.lk.length d2) (.slice B3 m.o.mp.length d3) (.slice Bt m.t.length dt)
    have HS9 := Lib.hid (And.intro (k5 _ _ _ (by omega) HS8.out.1) (k5 _ _ _ (by omega) HS8.out.2))
    have l0 := k5 (w.heap.size + 1 + 1 + 1) _ _ (by omega) HV8.out.v3
    have HS10 := Lib.hid (And.intro (((HS9.out.1.set_other (i := 0) (u := .int .i64 K.e) (b := w.heap.size + 1 + 1 + 1) (by omega)).set_other (i := 1) (u := .slice A5 K.v.length c5) (b := w.heap.size + 1 + 1 + 1) (by omega)).set_other (i := 2) (u := .int .i64 K.n) (b := w.heap.size + 1 + 1 + 1) (by omega)) (((HS9.out.2.set_other (i := 0) (u := .int .i64 K.e) (b := w.heap.size + 1 + 1 + 1) (by omega)).set_other (i := 1) (u := .slice A5 K.v.length c5) (b := w.heap.size + 1 + 1 + 1) (by omega)).set_other (i := 2) (u := .int .i64 K.n) (b := w.heap.size + 1 + 1 + 1) (by omega)))
    obtain ⟨e1, e2, e3⟩ := HV8.out.end_ (Nat.le_refl _) (r := ⟨m, K.e, K.v, K.n⟩) (a' := ⟨⟨B0, d0, B1, d1, B2, d2, B3, d3⟩, Bt, dt⟩) ho7 HR8.out (.slice B0 m.o.reg.length d0) (.slice B1 m.o.q.length d1) (.slice B2 m.o.lk.length d2) (.slice B3 m.o.mp.length d3) (.slice Bt m.t.length dt) (.int .i64 K.e) (.slice A5 K.v.length c5) (.int .i64 K.n) rfl rfl rfl
    have HE := Lib.hid (And.intro e1 (And.intro e2 e3))
    obtain ⟨_, _, ⟨z0, z1, z2, z3, z4⟩, ⟨u0, u1, u2⟩, ⟨q0, q1, q2, q3, q4⟩, ⟨r0, r1, r2⟩⟩ := HV8.out.cells
    obtain ⟨p0, p1, p2, d0', d1', d2'⟩ := three l0
    clear k5 l0 e1 e2 e3 r0 r1 r2 u0 u1 u2
    refine wpAnyH_ready (rs := [3]) (by kernel_rfl) (by simp) ?_
    refine AllReadyH.cons rfl (fun K hK => ?_) AllReadyH.nil
    go_simp
    refine hK.out _ _ HS9.out (fun _ => ?_)
    clear hK K
    clear z0 z1 z2 z3 z4 q0 q1 q2 q3 q4
    generalize (((((w3.setCell ⟨w.heap.size + 1 + 1, 0, none⟩ (.slice B0 m.o.reg.length d0)).setCell ⟨w.heap.size + 1 + 1, 1, none⟩ (.slice B1 m.o.q.length d1)).setCell ⟨w.heap.size + 1 + 1, 2, none⟩ (.slice B2 m.o.lk.length d2)).setCell ⟨w.heap.size + 1 + 1, 3, none⟩ (.slice B3 m.o.mp.length d3)).setCell ⟨w.heap.size + 1 + 1, 4, none⟩ (.slice Bt m.t.length dt)) = w9 at HE HS10 p0 p1 p2 d0' d1' d2' ⊢
    refine wpAnyH_ready (rs := [4]) (by kernel_rfl) (by simp) ?_
    refine AllReadyH.cons rfl (fun K hK => ?_) AllReadyH.nil
    go_simp
    refine hK.out _ _ HS10.out (fun _ => ?_)
    clear hK K
    refine wpAnyH_done (by kernel_rfl) ?_ _
    go_wp2_with fail
    refine bodyPost_ret (results_cells2 rfl _ _ _ _ _ _ _ _ _ _ rfl rfl HE.out.1 HE.out.2.1 Tryz.underlying37 rfl (by kernel_rfl) Tryz.underlying40 rfl (by kernel_rfl)) rfl ?_
    rw [HST.out]
    exact HE.out.2.2
theorem step10 : StepC10 := fun hM hc h h' hB => (step_raw hM hc h h').mono fun e w' h => GotM.of hB h
end Go.Proofs.YthfnnieklkaefaaGreat

namespace Go.Proofs.YthfnnieklkaefaaGreat
open Go.RowKit
set_option linter.unusedVariables false
/-- blocks of other types than bytes stay as they are -/
structure OnlyB (w w' : World) : Prop where
  size : w.heap.size ≤ w'.heap.size
  blk : ∀ {g : Nat} {t : TypeId} {cs : Array Value}, 5 ≠ t → Blk w g t cs → Blk w' g t cs
section
variable {W w w' w'' : World} {A : Option Addr} {n c : Nat} {l : List Nat}
theorem OnlyB.trans (h : OnlyB w w') (h' : OnlyB w' w'') : OnlyB w w'' := ⟨Nat.le_trans h.size h'.size, fun hn hb => h'.blk hn (h.blk hn hb)⟩
theorem OnlyB.of_below (h : Below w.heap.size w w') : OnlyB w w' := ⟨h.size, fun _ hb => hb.below h⟩
theorem OnlyB.grown {base : Nat} {xs : List Value} (h : w.ownsRow base 5 1 (.slice A n c) n xs) (hg : w.grownBy w' (Value.slice A n c).ownBlock) : OnlyB w w' :=
  ⟨hg.size, fun hn hb => hb.apart_own h (Ne.symm hn) hg⟩
end
/-- l, in a row of W's own that may have been there -/
def GotPut (W w : World) (l : List Nat) (e : Ending) (w' : World) : Prop := ∃ A c, e = .returned (.slice A l.length c) ∧ OwnB W w' A l.length c l ∧ Below W.heap.size W w' ∧ OnlyB w w'
theorem GotPut.is {W w w' : World} {l l' : List Nat} {e : Ending} (h : GotPut W w l e w') (he : l = l') : GotPut W w l' e w' := he ▸ h
set_option maxRecDepth 100000 in
theorem putNum_any {W w : World} {A : Option Addr} {n c : Nat} {l : List Nat} (z : Int) (hl : l.length ≤ 1000000) (ho : OwnB W w A n c l) (hB : Below W.heap.size W w) :
    Calls Tryz.prog 56 #[.slice A n c, .int .i64 z] w (GotPut W w (l ++ Pk.enc (Pk.held z))) := by
  obtain rfl := own_len ho
  have HO := Lib.hid ho
  have HB := Lib.hid hB
  have HX : Hid (∀ w, Below W.heap.size W w → Calls Tryz.prog 115 #[.slice none 0 0, .int .i64 z] w fun e w' => ∃ A n c, e = .returned (.slice A n c) ∧ OwnB W w' A n c (Pk.enc (Pk.held z)) ∧ Below W.heap.size W w' ∧ Below w.heap.size w w') :=
    Lib.hid (fun w hb => put_in (W := W) (l := []) (B := 0) (n := 0) (by unfold Lim; omega) (Rd.none_ _ _ _) hb rfl)
  obtain ⟨x, hx⟩ : ∃ x, Pk.enc (Pk.held z) = x := ⟨_, rfl⟩
  have hxl : x.length ≤ 9 := by rw [← hx]; exact (Pk.enc_length _).2
  rw [hx] at HX ⊢
  clear ho hB hx
  go_enter Tryz.func56, Tryz.ntmps56
  go_wp2_with (first
    | (go_at_call 115; refine (HX.out _ HB.out).mono ?_; rintro e w1 ⟨A1, n1, c1, rfl, ho1, hB1, hb1⟩; obtain rfl := own_len ho1)
    | (at_builtin
       refine wpList_append_cells (W := W) cellB (.tmp 5) (.tmp 7) rfl (by rfl) rfl (own_below HO.out hb1) rfl (Rd.own_ ho1) (bv_one _) (by omega) (by omega) hB1 ?_
       intro A3 c3 w3 hown3 hB3 hg3)
    | fail)
  go_ret
  rw [← bv_app] at hown3
  refine ⟨A3, c3, by rw [List.length_append]; rfl, by rw [List.length_append]; exact hown3, hB3, (OnlyB.of_below hb1).trans (OnlyB.grown (own_below HO.out hb1) hg3)⟩
set_option maxRecDepth 100000 in
theorem putBytes_any {W w : World} {A A' : Option Addr} {n c n' c' : Nat} {l x : List Nat} (hl : l.length ≤ 1000000) (hx : x.length ≤ 100000) (ho : OwnB W w A n c l) (hr : Rd W W.heap.size A' n' (bv x)) (hB : Below W.heap.size W w) :
    Calls Tryz.prog 53 #[.slice A n c, .slice A' n' c'] w (GotPut W w (l ++ Pk.encB x)) := by
  obtain rfl := own_len ho
  obtain rfl := hr.length
  have HO := Lib.hid ho
  have HB := Lib.hid hB
  have HX : Hid (∀ w, Below W.heap.size W w → Calls Tryz.prog 114 #[.slice none 0 0, .slice A' x.length c'] w fun e w' => ∃ A n c, e = .returned (.slice A n c) ∧ OwnB W w' A n c (Pk.encB x) ∧ Below W.heap.size W w' ∧ Below w.heap.size w w') :=
    Lib.hid (fun w hb => putb_in (W := W) (l := []) (B := 0) (n := 0) (B' := W.heap.size) (Rd.none_ _ _ _) (hr.below hb) (by unfold Lim; simp; omega) hb rfl)
  have hxl := encB_length x
  obtain ⟨y, hy⟩ : ∃ y, Pk.encB x = y := ⟨_, rfl⟩
  rw [hy] at HX hxl ⊢
  clear ho hB hy hr
  go_enter Tryz.func53, Tryz.ntmps53
  go_wp2_with (first
    | (go_at_call 114; refine (HX.out _ HB.out).mono ?_; rintro e w1 ⟨A1, n1, c1, rfl, ho1, hB1, hb1⟩; obtain rfl := own_len ho1)
    | (at_builtin
       refine wpList_append_cells (W := W) cellB (.tmp 5) (.tmp 7) rfl (by rfl) rfl (own_below HO.out hb1) rfl (Rd.own_ ho1) (bv_one _) (by omega) (by omega) hB1 ?_
       intro A3 c3 w3 hown3 hB3 hg3)
    | fail)
  go_ret
  rw [← bv_app] at hown3
  refine ⟨A3, c3, by rw [List.length_append]; rfl, by rw [List.length_append]; exact hown3, hB3, (OnlyB.of_below hb1).trans (OnlyB.grown (own_below HO.out hb1) hg3)⟩
set_option maxHeartbeats 2000000 in
set_option maxRecDepth 100000 in
theorem putPair_any {W w : World} {A A1 A2 : Option Addr} {n c c1 c2 : Nat} {l : List Nat} {p : Pr} (hl : l.length ≤ 100000) (hp1 : p.1.length ≤ 100000) (hp2 : p.2.length ≤ 100000) (ho : OwnB W w A n c l) (h1 : Rd W W.heap.size A1 p.1.length (bv p.1)) (h2 : Rd W W.heap.size A2 p.2.length (bv p.2)) (hB : Below W.heap.size W w) :
    Calls Tryz.prog 58 #[.slice A n c, .agg #[.slice A1 p.1.length c1, .slice A2 p.2.length c2]] w (GotPut W w (l ++ Pk.encB p.1 ++ Pk.encB p.2)) := by
  obtain rfl := own_len ho
  obtain ⟨wz, hwz⟩ : ∃ wz, w.alloc (.cells #[.slice A1 p.1.length c1, .slice A2 p.2.length c2] 86) = wz := ⟨_, rfl⟩
  have hbz : Below w.heap.size w wz := by rw [← hwz]; exact (Below.refl _ _).alloc (Nat.le_refl _) _
  have hkz : Blk wz w.heap.size 86 #[.slice A1 p.1.length c1, .slice A2 p.2.length c2] := by rw [← hwz]; exact Blk.new _ _ _
  obtain ⟨g, hg⟩ : ∃ g, w.heap.size = g := ⟨_, rfl⟩
  rw [hg] at hkz
  have HZ := Lib.hid hbz
  have HO := Lib.hid (own_below ho hbz)
  have HB := Lib.hid (hB.trans (hbz.mono hB.size))
  have HR1 := Lib.hid h1
  have HR2 := Lib.hid h2
  have HP1 := Lib.hid hp1
  have HP2 := Lib.hid hp2
  have HW := Lib.hid hwz
  have HG := Lib.hid hg
  have HK := Lib.hid hkz
  obtain ⟨l1, e1⟩ : ∃ x, l ++ Pk.encB p.1 = x := ⟨_, rfl⟩
  have hl1 : l1.length ≤ 1000000 := by rw [← e1, List.length_append]; have := encB_length p.1; omega
  obtain ⟨l2, e2⟩ : ∃ x, l1 ++ Pk.encB p.2 = x := ⟨_, rfl⟩
  rw [e1, e2]
  have HE1 := Lib.hid e1
  have HE2 := Lib.hid e2
  have HL := Lib.hid (And.intro hl hl1)
  clear ho hbz hB h1 h2 hp1 hp2 hwz hg hkz e1 e2 hl hl1
  go_enter Tryz.func58, Tryz.ntmps58
  go_upto_region 1 with fail
  rw [HG.out, HW.out]
  refine wp_region_held_drew (S := fun w' => Blk w' g 86 #[.slice A1 p.1.length c1, .slice A2 p.2.length c2]) (by kernel_rfl) HK.out (fun _ => ?_)
  have HD : Hid (Below wz.heap.size wz wz.drew) := Lib.hid (Below.refl _ _).drew
  generalize wz.drew = wd at HD ⊢
  have HK := Lib.hid (HK.out.below HD.out)
  refine wpAnyH_take (i := 0) (v := .slice A l.length c) rfl (by kernel_rfl) (by kernel_rfl) (by kernel_rfl) (fun _ _ _ h => h) (Or.inl ⟨by kernel_rfl, fun w _ => by go_simp⟩) HK.out ?_
  refine wpAnyH_take (i := 1) (v := .pointer (some ⟨g, 0, none⟩)) rfl (by kernel_rfl) (by kernel_rfl) (by kernel_rfl) (fun _ _ _ h => h) (Or.inl ⟨by kernel_rfl, fun w _ => by go_simp⟩) HK.out ?_
  refine wpAnyH_take (i := 4) (v := .pointer (some ⟨g, 1, none⟩)) rfl (by kernel_rfl) (by kernel_rfl) (by kernel_rfl) (fun _ _ _ h => h) (Or.inl ⟨by kernel_rfl, fun w _ => by go_simp⟩) HK.out ?_
  refine wpAnyH_take (i := 2) (v := .slice A1 p.1.length c1) rfl (by kernel_rfl) (by kernel_rfl) (by kernel_rfl) (fun _ _ _ h => h) (Or.inl ⟨by kernel_rfl, fun w h => by have q := h.cell 0; go_simp⟩) HK.out ?_
  refine wpAnyH_take (i := 5) (v := .slice A2 p.2.length c2) rfl (by kernel_rfl) (by kernel_rfl) (by kernel_rfl) (fun _ _ _ h => h) (Or.inl ⟨by kernel_rfl, fun w h => by have q := h.cell 1; go_simp⟩) HK.out ?_
  refine wpAnyH_ready (rs := [3]) (by kernel_rfl) (by simp) ?_
  refine AllReadyH.cons rfl (fun K hK => ?_) AllReadyH.nil
  go_simp
  refine (putBytes_any (W := W) (c' := c1) (Nat.le_trans HL.out.1 (by omega)) HP1.out (own_below HO.out HD.out) HR1.out (HB.out.trans (HD.out.mono HB.out.size))).mono ?_
  rintro en w1 ⟨A3, c3, rfl, ho3, hB3, hb3⟩
  rw [HE1.out] at ho3 ⊢
  have HK3 := Lib.hid (hb3.blk (by decide) HK.out)
  go_simp
  refine hK.out _ _ HK3.out (fun _ => ?_)
  clear hK K
  refine wpAnyH_ready (rs := [6]) (by kernel_rfl) (by simp) ?_
  refine AllReadyH.cons rfl (fun K hK => ?_) AllReadyH.nil
  go_simp
  refine (putBytes_any (W := W) (c' := c2) HL.out.2 HP2.out ho3 HR2.out hB3).mono ?_
  rintro en w2 ⟨A4, c4, rfl, ho4, hB4, hb4⟩
  rw [HE2.out] at ho4 ⊢
  have HK4 := Lib.hid (hb4.blk (by decide) HK3.out)
  go_simp
  refine hK.out _ _ HK4.out (fun _ => ?_)
  clear hK K
  refine wpAnyH_take (i := 7) (v := .slice A4 l2.length c4) rfl (by kernel_rfl) (by kernel_rfl) (by kernel_rfl) (fun _ _ _ h => h) (Or.inl ⟨by kernel_rfl, fun w _ => by go_simp⟩) HK4.out ?_
  refine wpAnyH_done (by kernel_rfl) ?_ _
  go_wp2_with fail
  go_ret
  exact ⟨A4, c4, rfl, ho4, hB4, (((OnlyB.of_below HZ.out).trans (OnlyB.of_below HD.out)).trans hb3).trans hb4⟩
set_option maxHeartbeats 2000000 in
set_option maxRecDepth 100000 in
theorem putLast_any {W w : World} {A A1 : Option Addr} {n c c1 : Nat} {l : List Nat} {m : Ls} (hl : l.length ≤ 100000) (hv : m.v.length ≤ 100000) (hm : -1 ≤ m.n ∧ m.n ≤ 1073741824) (ho : OwnB W w A n c l) (h1 : Rd W W.heap.size A1 m.v.length (bv m.v)) (hB : Below W.heap.size W w) :
    Calls Tryz.prog 60 #[.slice A n c, .agg #[.int .i64 m.s, .int .i64 m.q, .int .i64 m.e, .slice A1 m.v.length c1, .int .i64 m.n]] w (GotPut W w (l ++ encL1 m)) := by
  obtain rfl := own_len ho
  obtain ⟨wz, hwz⟩ : ∃ wz, w.alloc (.cells #[.int .i64 m.s, .int .i64 m.q, .int .i64 m.e, .slice A1 m.v.length c1, .int .i64 m.n] 54) = wz := ⟨_, rfl⟩
  have hbz : Below w.heap.size w wz := by rw [← hwz]; exact (Below.refl _ _).alloc (Nat.le_refl _) _
  have hkz : Blk wz w.heap.size 54 #[.int .i64 m.s, .int .i64 m.q, .int .i64 m.e, .slice A1 m.v.length c1, .int .i64 m.n] := by rw [← hwz]; exact Blk.new _ _ _
  obtain ⟨g, hg⟩ : ∃ g, w.heap.size = g := ⟨_, rfl⟩
  rw [hg] at hkz
  have HZ := Lib.hid hbz
  have HO := Lib.hid (own_below ho hbz)
  have HB := Lib.hid (hB.trans (hbz.mono hB.size))
  have HR1 := Lib.hid h1
  have HV := Lib.hid hv
  have HW := Lib.hid hwz
  have HG := Lib.hid hg
  have HK := Lib.hid hkz
  obtain ⟨s, es⟩ : ∃ x, m.s = x := ⟨_, rfl⟩
  obtain ⟨q, eq⟩ : ∃ x, m.q = x := ⟨_, rfl⟩
  obtain ⟨e, ee⟩ : ∃ x, m.e = x := ⟨_, rfl⟩
  obtain ⟨v, ev⟩ : ∃ x, m.v = x := ⟨_, rfl⟩
  obtain ⟨N, eN⟩ : ∃ x, m.n = x := ⟨_, rfl⟩
  have hEL : encL1 m = Pk.enc (Pk.held s) ++ (Pk.enc (Pk.held q) ++ (Pk.enc (Pk.held e) ++ (Pk.enc (Pk.held (N + 1)) ++ Pk.encB v))) := by unfold encL1; rw [es, eq, ee, ev, eN]
  rw [hEL]
  rw [es, eq, ee, ev, eN] at HK HW
  rw [ev] at HR1 HV
  rw [eN] at hm
  rw [es, eq, ee, ev, eN]
  clear es eq ee ev eN hEL
  have k1 := (Pk.enc_length (Pk.held s)).2
  have k2 := (Pk.enc_length (Pk.held q)).2
  have k3 := (Pk.enc_length (Pk.held e)).2
  have k4 := (Pk.enc_length (Pk.held (N + 1))).2
  obtain ⟨l1, e1⟩ : ∃ x, l ++ Pk.enc (Pk.held s) = x := ⟨_, rfl⟩
  obtain ⟨l2, e2⟩ : ∃ x, l1 ++ Pk.enc (Pk.held q) = x := ⟨_, rfl⟩
  obtain ⟨l3, e3⟩ : ∃ x, l2 ++ Pk.enc (Pk.held e) = x := ⟨_, rfl⟩
  obtain ⟨l4, e4⟩ : ∃ x, l3 ++ Pk.enc (Pk.held (N + 1)) = x := ⟨_, rfl⟩
  obtain ⟨l5, e5⟩ : ∃ x, l4 ++ Pk.encB v = x := ⟨_, rfl⟩
  have hL : l.length ≤ 1000000 ∧ l1.length ≤ 1000000 ∧ l2.length ≤ 1000000 ∧ l3.length ≤ 1000000 ∧ l4.length ≤ 1000000 := by
    rw [← e4, ← e3, ← e2, ← e1]; simp only [List.length_append]; omega
  have hEND : l ++ (Pk.enc (Pk.held s) ++ (Pk.enc (Pk.held q) ++ (Pk.enc (Pk.held e) ++ (Pk.enc (Pk.held (N + 1)) ++ Pk.encB v)))) = l5 := by
    rw [← e5, ← e4, ← e3, ← e2, ← e1]; simp only [List.append_assoc]
  rw [hEND]
  have HL := Lib.hid hL
  have HE1 := Lib.hid e1
  have HE2 := Lib.hid e2
  have HE3 := Lib.hid e3
  have HE4 := Lib.hid e4
  have HE5 := Lib.hid e5
  have HMIN : Hid (N ≤ 1073741824) := Lib.hid hm.2
  have HWR : Hid (IntKind.i64.wrap (N + 1) = N + 1) := Lib.hid (IntWalk.i64_in _ (by omega))
  clear hm
  clear ho hbz hB h1 hv hwz hg hkz e1 e2 e3 e4 e5 hl hL hEND k1 k2 k3 k4
  go_enter Tryz.func60, Tryz.ntmps60
  go_upto_region 1 with fail
  rw [HG.out, HW.out]
  refine wp_region_held_drew (S := fun w' => Blk w' g 54 #[.int .i64 s, .int .i64 q, .int .i64 e, .slice A1 v.length c1, .int .i64 N]) (by kernel_rfl) HK.out (fun _ => ?_)
  have HD : Hid (Below wz.heap.size wz wz.drew) := Lib.hid (Below.refl _ _).drew
  generalize wz.drew = wd at HD ⊢
  have HK := Lib.hid (HK.out.below HD.out)
  refine wpAnyH_take (i := 0) (v := .slice A l.length c) rfl (by kernel_rfl) (by kernel_rfl) (by kernel_rfl) (fun _ _ _ h => h) (Or.inl ⟨by kernel_rfl, fun w _ => by go_simp⟩) HK.out ?_
  refine wpAnyH_take (i := 1) (v := .pointer (some ⟨g, 0, none⟩)) rfl (by kernel_rfl) (by kernel_rfl) (by kernel_rfl) (fun _ _ _ h => h) (Or.inl ⟨by kernel_rfl, fun w _ => by go_simp⟩) HK.out ?_
  refine wpAnyH_take (i := 4) (v := .pointer (some ⟨g, 1, none⟩)) rfl (by kernel_rfl) (by kernel_rfl) (by kernel_rfl) (fun _ _ _ h => h) (Or.inl ⟨by kernel_rfl, fun w _ => by go_simp⟩) HK.out ?_
  refine wpAnyH_take (i := 2) (v := .int .i64 s) rfl (by kernel_rfl) (by kernel_rfl) (by kernel_rfl) (fun _ _ _ h => h) (Or.inl ⟨by kernel_rfl, fun w h => by have q := h.cell 0; go_simp⟩) HK.out ?_
  refine wpAnyH_take (i := 5) (v := .int .i64 q) rfl (by kernel_rfl) (by kernel_rfl) (by kernel_rfl) (fun _ _ _ h => h) (Or.inl ⟨by kernel_rfl, fun w h => by have q := h.cell 1; go_simp⟩) HK.out ?_
  refine wpAnyH_ready (rs := [3]) (by kernel_rfl) (by simp) ?_
  refine AllReadyH.cons rfl (fun K hK => ?_) AllReadyH.nil
  go_simp
  refine (putNum_any (W := W) s HL.out.1 (own_below HO.out HD.out) (HB.out.trans (HD.out.mono HB.out.size))).mono ?_
  rintro en w1 ⟨A3, c3, rfl, ho3, hB3, hb3⟩
  rw [HE1.out] at ho3 ⊢
  have HK3 := Lib.hid (hb3.blk (by decide) HK.out)
  go_simp
  refine hK.out _ _ HK3.out (fun _ => ?_)
  clear hK K
  refine wpAnyH_ready (rs := [6]) (by kernel_rfl) (by simp) ?_
  refine AllReadyH.cons rfl (fun K hK => ?_) AllReadyH.nil
  go_simp
  refine (putNum_any (W := W) q HL.out.2.1 ho3 hB3).mono ?_
  rintro en w2 ⟨A4, c4, rfl, ho4, hB4, hb4⟩
  rw [HE2.out] at ho4 ⊢
  have HK4 := Lib.hid (hb4.blk (by decide) HK3.out)
  go_simp
  refine hK.out _ _ HK4.out (fun _ => ?_)
  clear hK K
  refine wpAnyH_take (i := 7) (v := .slice A4 l2.length c4) rfl (by kernel_rfl) (by kernel_rfl) (by kernel_rfl) (fun _ _ _ h => h) (Or.inl ⟨by kernel_rfl, fun w _ => by go_simp⟩) HK4.out ?_
  refine wpAnyH_done (by kernel_rfl) ?_ _
  obtain ⟨x0, x1, x2, x3, x4⟩ := five HK4.out
  go_upto_region 3 with (first
    | (go_at_call 56; refine (putNum_any (W := W) e HL.out.2.2.1 ho4 hB4).mono ?_; rintro en w5 ⟨A5, c5, rfl, ho5, hB5, hb5⟩; rw [HE3.out] at ho5 ⊢; have HK5 := Lib.hid (hb5.blk (by decide) HK4.out); obtain ⟨y0, y1, y2, y3, y4⟩ := five HK5.out)
    | fail)
  have hmin : ∀ (ts : Array TypeId) (t : TypeId) (w : World), (Builtin.min_ ts t #[.int .i64 N, .int .i64 9223372036854775806]).run Tryz.prog w = .ok (.int .i64 N) w := fun ts t w => by
    rw [run_min_int2, if_neg (by have := HMIN.out; omega)]
  have hwr := HWR.out
  clear HMIN HWR x0 x1 x2 x3 x4
  go_wp2_with (first
    | (go_at_call 56; refine (putNum_any (W := W) (N + 1) HL.out.2.2.2.1 ho5 hB5).mono ?_; rintro en w6 ⟨A6, c6, rfl, ho6, hB6, hb6⟩; rw [HE4.out] at ho6 ⊢; have HK6 := Lib.hid (hb6.blk (by decide) HK5.out); obtain ⟨z0, z1, z2, z3, z4⟩ := five HK6.out)
    | (go_at_call 53; refine (putBytes_any (W := W) (c' := c1) HL.out.2.2.2.2 HV.out ho6 HR1.out hB6).mono ?_; rintro en w7 ⟨A7, c7, rfl, ho7, hB7, hb7⟩; rw [HE5.out] at ho7 ⊢)
    | fail)
  go_ret
  exact ⟨A7, c7, rfl, ho7, hB7, ((((((OnlyB.of_below HZ.out).trans (OnlyB.of_below HD.out)).trans hb3).trans hb4).trans hb5).trans hb6).trans hb7⟩
end Go.Proofs.YthfnnieklkaefaaGreat

