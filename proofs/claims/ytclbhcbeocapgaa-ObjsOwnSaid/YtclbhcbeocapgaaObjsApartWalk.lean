/- The contract of the code: objs.Apply. ObjsApart: the walk, at the landed code. -/
import Derived.Test.YtclbhcbeocapgaaObjsCopied
import Derived.Test.YtclbhcbeocapgaaObjsC0
import Derived.Test.YtclbhcbeocapgaaObjsSame
import Derived.Test.YtclbhcbeocapgaaRegsWalks
import Derived.Test.YtclbhcbeocapgaaFifoWalks
import Derived.Test.YtclbhcbeocapgaaLockWalks2
import Derived.Test.YtclbhcbeocapgaaMapsCode5
import Derived.Deep.CutBlock
import Derived.Deep.RegionHeld3
import Derived.Test.YtclbhcbeocapgaaObjsApartCore
import Derived.Test.YtclbhcbeocapgaaObjsAwake
namespace Go.Proofs.Ytclbhcbeocapgaa
open Go.RowKit
set_option linter.unusedVariables false
/-- the variables of Apply: s, c, the two answers', next -/
structure VarsN (w wx : World) (b h : Nat) (a0 : OA) (s0 : Ob) (a : OA) (s : Ob) (ca : CA) (c : Cm) : Prop where
  vs : Blk wx b 32 (objC a0 s0)
  vc : Blk wx (b + 1) 24 (cmdC ca c)
  v2 : Blk wx (b + 1 + 1) 32 #[.slice none 0 0, .slice none 0 0, .slice none 0 0, .slice none 0 0]
  v3 : Blk wx (b + 1 + 1 + 1) 34 zeroR
  nx : Blk wx h 32 (objC a s)
  own : OwnO w wx a s
  bel : Below w.heap.size w wx
  lt : b + 1 + 1 + 1 < h
theorem VarsN.below {w wx wy : World} {b h : Nat} {a0 a : OA} {s0 s : Ob} {ca : CA} {c : Cm} (H : VarsN w wx b h a0 s0 a s ca c) (hb : Below wx.heap.size wx wy) : VarsN w wy b h a0 s0 a s ca c :=
  ⟨H.vs.below hb, H.vc.below hb, H.v2.below hb, H.v3.below hb, H.nx.below hb, H.own.below hb, H.bel.trans (hb.mono H.bel.size), H.lt⟩
section
variable {w wx : World} {b h g : Nat} {a0 a : OA} {s0 s : Ob} {ca : CA} {c : Cm} {x0 x1 x2 : Value}
/-- one cell of the answer's variable is written -/
theorem VarsN.res0 (H : VarsN w wx b h a0 s0 a s ca c) (hw : w.heap.size ≤ g) (hk : Blk wx g 34 #[x0, x1, x2]) (hg : g ≠ b + 1 + 1 + 1) (x : Value) :
    VarsN w (wx.setCell ⟨g, 0, none⟩ x) b h a0 s0 a s ca c ∧ Blk (wx.setCell ⟨g, 0, none⟩ x) g 34 #[x, x1, x2] := by
  have q1 : 5 ≠ 34 := by decide
  have q2 : 22 ≠ 34 := by decide
  have q3 : 3 ≠ 34 := by decide
  have q4 : 42 ≠ 34 := by decide
  have n0 : b ≠ g := H.vs.apart hk (by decide)
  have n1 : b + 1 ≠ g := H.vc.apart hk (by decide)
  have n2 : b + 1 + 1 ≠ g := H.v2.apart hk (by decide)
  have n3 : h ≠ g := H.nx.apart hk (by decide)
  exact ⟨⟨H.vs.set_other n0, H.vc.set_other n1, H.v2.set_other n2, H.v3.set_other hg.symm, H.nx.set_other n3,
    H.own.set_t hk q1 q2 q3 q4, H.bel.setCell (p := ⟨g, 0, none⟩) hw _, H.lt⟩, hk.set_ 0 x⟩
/-- the answer's variable is written -/
theorem VarsN.res (H : VarsN w wx b h a0 s0 a s ca c) (hw : w.heap.size ≤ g) (hk : Blk wx g 34 #[x0, x1, x2]) (hg : g ≠ b + 1 + 1 + 1) (x y z : Value) :
    VarsN w (((wx.setCell ⟨g, 0, none⟩ x).setCell ⟨g, 1, none⟩ y).setCell ⟨g, 2, none⟩ z) b h a0 s0 a s ca c ∧ Blk (((wx.setCell ⟨g, 0, none⟩ x).setCell ⟨g, 1, none⟩ y).setCell ⟨g, 2, none⟩ z) g 34 #[x, y, z] := by
  have q1 : 5 ≠ 34 := by decide
  have q2 : 22 ≠ 34 := by decide
  have q3 : 3 ≠ 34 := by decide
  have q4 : 42 ≠ 34 := by decide
  have n0 : b ≠ g := H.vs.apart hk (by decide)
  have n1 : b + 1 ≠ g := H.vc.apart hk (by decide)
  have n2 : b + 1 + 1 ≠ g := H.v2.apart hk (by decide)
  have n3 : h ≠ g := H.nx.apart hk (by decide)
  have k1 := hk.set_ 0 x
  have k2 := k1.set_ 1 y
  exact ⟨⟨((H.vs.set_other n0).set_other n0).set_other n0, ((H.vc.set_other n1).set_other n1).set_other n1, ((H.v2.set_other n2).set_other n2).set_other n2, ((H.v3.set_other hg.symm).set_other hg.symm).set_other hg.symm, ((H.nx.set_other n3).set_other n3).set_other n3,
    ((H.own.set_t hk q1 q2 q3 q4).set_t k1 q1 q2 q3 q4).set_t k2 q1 q2 q3 q4, ((H.bel.setCell (p := ⟨g, 0, none⟩) hw _).setCell (p := ⟨g, 1, none⟩) hw _).setCell (p := ⟨g, 2, none⟩) hw _, H.lt⟩, k2.set_ 2 z⟩
/-- next is written -/
theorem VarsN.set (H : VarsN w wx b h a0 s0 a s ca c) (hw : w.heap.size ≤ b) (i : Nat) (u : Value) {a' : OA} {s' : Ob} (hc : (objC a s).setIfInBounds i u = objC a' s') (ho : OwnO w wx a' s') : VarsN w (wx.setCell ⟨h, i, none⟩ u) b h a0 s0 a' s' ca c := by
  have q1 : 5 ≠ 32 := by decide
  have k1 := H.nx.set_ i u
  rw [hc] at k1
  have hl := H.lt
  have hwh : w.heap.size ≤ h := by omega
  exact ⟨H.vs.set_other (by omega), H.vc.set_other (by omega), H.v2.set_other (by omega), H.v3.set_other (by omega), k1, ho.set_t H.nx q1 (by decide) (by decide) (by decide), H.bel.setCell (p := ⟨h, i, none⟩) hwh _, hl⟩
/-- the walk's end behind a call that only answers -/
theorem VarsN.done (H : VarsN w wx b h a0 s0 a s ca c) (hk : Blk wx g 34 #[x0, x1, x2]) (hg : h ≠ g ∧ w.heap.size ≤ g ∧ g ≠ b + 1 + 1 + 1) {Ar : Option Addr} {cr : Nat} {v : List Nat} {e n : Int} (hv : OwnB w wx Ar v.length cr v) {r : Ans} (hr : r = ⟨s, e, v, n⟩) :
    ∃ a' Ar' cr', Hid (VarsN w (((wx.setCell ⟨g, 0, none⟩ (.int .i64 e)).setCell ⟨g, 1, none⟩ (.slice Ar v.length cr)).setCell ⟨g, 2, none⟩ (.int .i64 n)) b h a0 s0 a' r.s ca c) ∧
      Hid (Blk (((wx.setCell ⟨g, 0, none⟩ (.int .i64 e)).setCell ⟨g, 1, none⟩ (.slice Ar v.length cr)).setCell ⟨g, 2, none⟩ (.int .i64 n)) g 34 #[.int .i64 r.e, .slice Ar' r.v.length cr', .int .i64 r.n]) ∧
      Hid (OwnB w (((wx.setCell ⟨g, 0, none⟩ (.int .i64 e)).setCell ⟨g, 1, none⟩ (.slice Ar v.length cr)).setCell ⟨g, 2, none⟩ (.int .i64 n)) Ar' r.v.length cr' r.v) := by
  subst hr
  obtain ⟨q1, q2⟩ := H.res hg.2.1 hk hg.2.2 (.int .i64 e) (.slice Ar v.length cr) (.int .i64 n)
  exact ⟨a, Ar, cr, Lib.hid q1, Lib.hid q2, Lib.hid (own_res hv hk _ _ _)⟩
/-- .. that makes one of the objects anew -/
theorem VarsN.doneSet (H : VarsN w wx b h a0 s0 a s ca c) (hk : Blk wx g 34 #[x0, x1, x2]) (hg : h ≠ g ∧ w.heap.size ≤ g ∧ g ≠ b + 1 + 1 + 1) (hw : w.heap.size ≤ b) (i : Nat) (u : Value) (a' : OA) (s' : Ob) (hc : (objC a s).setIfInBounds i u = objC a' s') (ho : OwnO w wx a' s')
    {Ar : Option Addr} {cr : Nat} {v : List Nat} {e n : Int} (hv : OwnB w wx Ar v.length cr v) {r : Ans} (hr : r = ⟨s', e, v, n⟩) :
    ∃ a' Ar' cr', Hid (VarsN w ((((wx.setCell ⟨h, i, none⟩ u).setCell ⟨g, 0, none⟩ (.int .i64 e)).setCell ⟨g, 1, none⟩ (.slice Ar v.length cr)).setCell ⟨g, 2, none⟩ (.int .i64 n)) b h a0 s0 a' r.s ca c) ∧
      Hid (Blk ((((wx.setCell ⟨h, i, none⟩ u).setCell ⟨g, 0, none⟩ (.int .i64 e)).setCell ⟨g, 1, none⟩ (.slice Ar v.length cr)).setCell ⟨g, 2, none⟩ (.int .i64 n)) g 34 #[.int .i64 r.e, .slice Ar' r.v.length cr', .int .i64 r.n]) ∧
      Hid (OwnB w ((((wx.setCell ⟨h, i, none⟩ u).setCell ⟨g, 0, none⟩ (.int .i64 e)).setCell ⟨g, 1, none⟩ (.slice Ar v.length cr)).setCell ⟨g, 2, none⟩ (.int .i64 n)) Ar' r.v.length cr' r.v) :=
  VarsN.done (H.set hw i u hc ho) (hk.set_other hg.1.symm) hg (own_set_t hv H.nx (by decide)) hr
/-- the two answers' variables are written -/
theorem VarsN.end_ (H : VarsN w wx b h a0 s0 a s ca c) (hw : w.heap.size ≤ b) {Ar : Option Addr} {cr n : Nat} {v : List Nat} (hv : OwnB w wx Ar n cr v) (x0 x1 x2 x3 y0 y1 y2 : Value) :
    let wy := (((((((wx.setCell ⟨b + 1 + 1, 0, none⟩ x0).setCell ⟨b + 1 + 1, 1, none⟩ x1).setCell ⟨b + 1 + 1, 2, none⟩ x2).setCell ⟨b + 1 + 1, 3, none⟩ x3).setCell ⟨b + 1 + 1 + 1, 0, none⟩ y0).setCell ⟨b + 1 + 1 + 1, 1, none⟩ y1).setCell ⟨b + 1 + 1 + 1, 2, none⟩ y2)
    Blk wy (b + 1 + 1) 32 #[x0, x1, x2, x3] ∧ Blk wy (b + 1 + 1 + 1) 34 #[y0, y1, y2] ∧ OwnO w wy a s ∧ OwnB w wy Ar n cr v ∧ Below w.heap.size w wy := by
  intro wy
  have k0 := H.v2
  have k1 := k0.set_ 0 x0
  have k2 := k1.set_ 1 x1
  have k3 := k2.set_ 2 x2
  have k4 := k3.set_ 3 x3
  have l0 := (((H.v3.set_other (i := 0) (u := x0) (b := b + 1 + 1) (by omega)).set_other (i := 1) (u := x1) (b := b + 1 + 1) (by omega)).set_other (i := 2) (u := x2) (b := b + 1 + 1) (by omega)).set_other (i := 3) (u := x3) (b := b + 1 + 1) (by omega)
  have l1 := l0.set_ 0 y0
  have l2 := l1.set_ 1 y1
  have l3 := l2.set_ 2 y2
  have q1 : 5 ≠ 32 := by decide
  have q2 : 22 ≠ 32 := by decide
  have q3 : 3 ≠ 32 := by decide
  have q4 : 42 ≠ 32 := by decide
  have r1 : 5 ≠ 34 := by decide
  have r2 : 22 ≠ 34 := by decide
  have r3 : 3 ≠ 34 := by decide
  have r4 : 42 ≠ 34 := by decide
  have hw2 : w.heap.size ≤ b + 1 + 1 := by omega
  have hw3 : w.heap.size ≤ b + 1 + 1 + 1 := by omega
  refine ⟨((k4.set_other (i := 0) (u := y0) (b := b + 1 + 1 + 1) (by omega)).set_other (i := 1) (u := y1) (b := b + 1 + 1 + 1) (by omega)).set_other (i := 2) (u := y2) (b := b + 1 + 1 + 1) (by omega), l3,
    ((((((H.own.set_t k0 q1 q2 q3 q4).set_t k1 q1 q2 q3 q4).set_t k2 q1 q2 q3 q4).set_t k3 q1 q2 q3 q4).set_t l0 r1 r2 r3 r4).set_t l1 r1 r2 r3 r4).set_t l2 r1 r2 r3 r4,
    own_set_t (own_set_t (own_set_t (own_set_t (own_set_t (own_set_t (own_set_t hv k0 q1) k1 q1) k2 q1) k3 q1) l0 r1) l1 r1) l2 r1,
    ((((((H.bel.setCell (p := ⟨b + 1 + 1, 0, none⟩) hw2 _).setCell (p := ⟨b + 1 + 1, 1, none⟩) hw2 _).setCell (p := ⟨b + 1 + 1, 2, none⟩) hw2 _).setCell (p := ⟨b + 1 + 1, 3, none⟩) hw2 _).setCell (p := ⟨b + 1 + 1 + 1, 0, none⟩) hw3 _).setCell (p := ⟨b + 1 + 1 + 1, 1, none⟩) hw3 _).setCell (p := ⟨b + 1 + 1 + 1, 2, none⟩) hw3 _⟩
end
/-- a command that can't be handed on -/
theorem Ob.apply_bad {s : Ob} {c : Cm} (h : c.known = false) : s.apply c = ⟨s, 7, [], 0⟩ := by
  have h := of_decide_eq_false h
  unfold Ob.apply
  rw [if_neg (by omega), if_neg (by omega), if_neg (by omega), if_neg (by omega), if_neg (by omega), if_neg (by omega), if_neg (by omega), if_neg (by omega), if_neg (by omega), if_neg (by omega), if_neg (by omega)]
set_option maxHeartbeats 8000000 in
set_option maxRecDepth 100000 in
theorem apply8_raw {w : World} {a : OA} {ca : CA} {s : Ob} {c : Cm} {B B' : Nat} (hI : s.Inv) (hc : c.Fits) (h : RdO w B a s) (h' : RdC w B' ca c) :
    Calls Try.prog 7 #[objV a s, cmdV ca c] w (GotO w w (s.apply c)) := by
  obtain ⟨A0, c0, A1, c1, A2, c2, A3, c3⟩ := a
  obtain ⟨Ak, ck, Av, cv, Ao, co⟩ := ca
  have HI := Lib.hid hI
  have HF := Lib.hid hc
  obtain ⟨b, hb⟩ : ∃ b, w.heap.size = b := ⟨_, rfl⟩
  obtain ⟨wz, hwz⟩ : ∃ wz, (((w.alloc (.cells (objC ⟨A0, c0, A1, c1, A2, c2, A3, c3⟩ s) 32)).alloc (.cells (cmdC ⟨Ak, ck, Av, cv, Ao, co⟩ c) 24)).alloc (.cells #[.slice none 0 0, .slice none 0 0, .slice none 0 0, .slice none 0 0] 32)).alloc (.cells zeroR 34) = wz := ⟨_, rfl⟩
  have hbz : Below w.heap.size w wz := by
    rw [← hwz]; exact ((((Below.refl _ _).alloc (Nat.le_refl _) _).alloc (by simp) _).alloc (by simp; omega) _).alloc (by simp; omega) _
  have H := Lib.hid ((h.fit.below hbz).fit)
  have H' := Lib.hid ((h'.fit.below hbz).fit)
  have HC0 := Lib.hid h'.fit
  have HS0 := Lib.hid h.fit
  have HBZ := Lib.hid hbz
  have HV : Hid (Blk wz b 32 (objC ⟨A0, c0, A1, c1, A2, c2, A3, c3⟩ s) ∧ Blk wz (b + 1) 24 (cmdC ⟨Ak, ck, Av, cv, Ao, co⟩ c) ∧ Blk wz (b + 1 + 1) 32 #[.slice none 0 0, .slice none 0 0, .slice none 0 0, .slice none 0 0] ∧ Blk wz (b + 1 + 1 + 1) 34 zeroR) := Lib.hid (by
    subst hb
    rw [← hwz]
    refine ⟨(((Blk.new _ _ _).alloc _).alloc _).alloc _, ?_, ?_, ?_⟩
    · have := ((Blk.new (w.alloc (.cells (objC ⟨A0, c0, A1, c1, A2, c2, A3, c3⟩ s) 32)) 24 (cmdC ⟨Ak, ck, Av, cv, Ao, co⟩ c)).alloc (.cells #[.slice none 0 0, .slice none 0 0, .slice none 0 0, .slice none 0 0] 32)).alloc (.cells zeroR 34)
      rwa [World.size_alloc] at this
    · have := (Blk.new ((w.alloc (.cells (objC ⟨A0, c0, A1, c1, A2, c2, A3, c3⟩ s) 32)).alloc (.cells (cmdC ⟨Ak, ck, Av, cv, Ao, co⟩ c) 24)) 32 #[.slice none 0 0, .slice none 0 0, .slice none 0 0, .slice none 0 0]).alloc (.cells zeroR 34)
      rwa [World.size_alloc, World.size_alloc] at this
    · have := Blk.new (((w.alloc (.cells (objC ⟨A0, c0, A1, c1, A2, c2, A3, c3⟩ s) 32)).alloc (.cells (cmdC ⟨Ak, ck, Av, cv, Ao, co⟩ c) 24)).alloc (.cells #[.slice none 0 0, .slice none 0 0, .slice none 0 0, .slice none 0 0] 32)) 34 zeroR
      rwa [World.size_alloc, World.size_alloc, World.size_alloc] at this)
  have HW := Lib.hid hwz
  have HBB := Lib.hid hb
  clear h h' hI hc hbz hwz hb
  unfold objV cmdV
  simp only [objC, cmdC] at HW ⊢
  go_enter Try.func7, Try.ntmps7
  go_upto_region 1 with fail
  rw [HBB.out]
  rw [HW.out]
  have hv := HV.out.1
  simp only [objC] at hv
  obtain ⟨p0, p1, p2, p3, _, _, _, _⟩ := four hv
  clear hv
  go_upto_region 3 with (first
    | (go_at_call 19; refine (copied8 (W := w) (a := ⟨A0, c0, A1, c1, A2, c2, A3, c3⟩) HI.out H.out HBZ.out).mono ?_; rintro e w1 ⟨⟨A5, c5, A6, c6, A7, c7, A8, c8⟩, rfl, ho1, hB1, hb1⟩; unfold objV; simp only [objC])
    | fail)
  have HWB := Lib.hid (show w.heap.size ≤ b by have := HBB.out; omega)
  obtain ⟨h, hh⟩ : ∃ x, w1.heap.size = x := ⟨_, rfl⟩
  have hb2 : Below w1.heap.size w1 (w1.alloc (.cells #[.slice A5 s.reg.length c5, .slice A6 s.q.length c6, .slice A7 s.lk.length c7, .slice A8 s.mp.length c8] 32)) := (Below.refl _ _).alloc (Nat.le_refl _) _
  have hb3 := hb2.alloc (Nat.le_of_lt (by simp)) (.cells zeroR 34)
  have HX3 : Hid (VarsN w ((w1.alloc (.cells #[.slice A5 s.reg.length c5, .slice A6 s.q.length c6, .slice A7 s.lk.length c7, .slice A8 s.mp.length c8] 32)).alloc (.cells zeroR 34)) b h ⟨A0, c0, A1, c1, A2, c2, A3, c3⟩ s ⟨A5, c5, A6, c6, A7, c7, A8, c8⟩ s ⟨Ak, ck, Av, cv, Ao, co⟩ c) := Lib.hid (by
    have hbb := hb1.trans (hb3.mono hb1.size)
    have k1 := HV.out.2.2.2.lt
    have k2 := hb1.size
    refine ⟨HV.out.1.below hbb, HV.out.2.1.below hbb, HV.out.2.2.1.below hbb, HV.out.2.2.2.below hbb, ?_, ho1.below hb3, hB1.trans (hb3.mono hB1.size), by omega⟩
    rw [← hh]
    exact (Blk.new _ _ _).alloc _)
  have HK3 : Hid (Blk ((w1.alloc (.cells #[.slice A5 s.reg.length c5, .slice A6 s.q.length c6, .slice A7 s.lk.length c7, .slice A8 s.mp.length c8] 32)).alloc (.cells zeroR 34)) (h + 1) 34 zeroR) := Lib.hid (by
    have := Blk.new (w1.alloc (.cells #[.slice A5 s.reg.length c5, .slice A6 s.q.length c6, .slice A7 s.lk.length c7, .slice A8 s.mp.length c8] 32)) 34 zeroR
    rwa [World.size_alloc, hh] at this)
  have HGB : Hid (h ≠ h + 1 ∧ w.heap.size ≤ h + 1 ∧ h + 1 ≠ b + 1 + 1 + 1) := Lib.hid (by have h1 := HX3.out.lt; have h3 := HWB.out; omega)
  rw [hh]
  obtain ⟨w3, hw3⟩ : ∃ x, (w1.alloc (.cells #[.slice A5 s.reg.length c5, .slice A6 s.q.length c6, .slice A7 s.lk.length c7, .slice A8 s.mp.length c8] 32)).alloc (.cells zeroR 34) = x := ⟨_, rfl⟩
  rw [hw3] at HX3 HK3 ⊢
  have HHG := Lib.hid (show h + 1 = h + 1 from rfl)
  obtain ⟨g, hg⟩ : ∃ x, h + 1 = x := ⟨_, rfl⟩
  rw [hg] at HK3 HGB ⊢
  clear hw3 hb1 hb2 hb3 ho1 hB1 hh hg HHG H H' HV HW HBZ p0 p1 p2 p3
  have hy := HX3.out.vc
  simp only [cmdC] at hy
  obtain ⟨y0, y1, y2, y3, y4⟩ := five hy
  clear hy
  have hkn : ∀ w, Calls Try.prog 20 #[.agg #[.int .i64 c.kind, .int .i64 c.who, .slice Ak c.key.length ck, .slice Av c.val.length cv, .slice Ao c.old.length co]] w fun e w' => e = .returned (.bool c.known) ∧ Below w.heap.size w w' := fun w => isKnown_any w ⟨Ak, ck, Av, cv, Ao, co⟩ c
  have hgh : g ≠ h := HGB.out.1.symm
  have hhg : h ≠ g := HGB.out.1
  cases hq : c.known with
  | false =>
    rw [hq] at hkn
    have HKN := Lib.hid hkn
    have HQ0 := Lib.hid (Ob.apply_bad (s := s) hq)
    clear hkn hq
    go_upto_region 5 with (first
      | (go_at_call 20; refine (HKN.out _).mono ?_; rintro e w4 ⟨rfl, hb4⟩; have HX4 := Lib.hid (HX3.out.below hb4); have HK4 := Lib.hid (HK3.out.below hb4); obtain ⟨z0, z1, z2, d0, d1, d2⟩ := three HK4.out)
      | fail)
    have hrr := HX4.out.res0 HGB.out.2.1 HK4.out HGB.out.2.2 (.int .i64 7)
    obtain ⟨r, hr⟩ : ∃ r, s.apply c = r := ⟨_, rfl⟩
    have hr2 : r = ⟨s, 7, [], 0⟩ := hr.symm.trans HQ0.out
    obtain ⟨w5, hw5⟩ : ∃ x, w4.setCell ⟨g, 0, none⟩ (.int .i64 7) = x := ⟨_, rfl⟩
    rw [hw5] at hrr ⊢
    have HX5 : Hid (VarsN w w5 b h ⟨A0, c0, A1, c1, A2, c2, A3, c3⟩ s ⟨A5, c5, A6, c6, A7, c7, A8, c8⟩ r.s ⟨Ak, ck, Av, cv, Ao, co⟩ c) := Lib.hid (by rw [hr2]; exact hrr.1)
    have HK5 : Hid (Blk w5 g 34 #[.int .i64 r.e, .slice none r.v.length 0, .int .i64 r.n]) := Lib.hid (by rw [hr2]; exact hrr.2)
    have HV5 : Hid (OwnB w w5 none r.v.length 0 r.v) := Lib.hid (by rw [hr2]; exact own_nil _ _)
    have HR := Lib.hid hr
    have hsl : s = r.s := by rw [hr2]
    obtain ⟨A5', h5⟩ : ∃ x, A5 = x := ⟨_, rfl⟩
    obtain ⟨A6', h6⟩ : ∃ x, A6 = x := ⟨_, rfl⟩
    obtain ⟨A7', h7⟩ : ∃ x, A7 = x := ⟨_, rfl⟩
    obtain ⟨A8', h8⟩ : ∃ x, A8 = x := ⟨_, rfl⟩
    obtain ⟨c5', k5⟩ : ∃ x, c5 = x := ⟨_, rfl⟩
    obtain ⟨c6', k6⟩ : ∃ x, c6 = x := ⟨_, rfl⟩
    obtain ⟨c7', k7⟩ : ∃ x, c7 = x := ⟨_, rfl⟩
    obtain ⟨c8', k8⟩ : ∃ x, c8 = x := ⟨_, rfl⟩
    rw [h5, h6, h7, h8, k5, k6, k7, k8] at HX5
    obtain ⟨Ar, hAr⟩ : ∃ x : Option Addr, none = x := ⟨_, rfl⟩
    obtain ⟨cr, hcr⟩ : ∃ x : Nat, 0 = x := ⟨_, rfl⟩
    rw [hAr, hcr] at HK5 HV5
    obtain ⟨v0, v1, v2, v3, e0, e1, e2, e3⟩ := four HX5.out.v2
    obtain ⟨t0, t1, t2, d0, d1, d2⟩ := three HX5.out.v3
    have hx := HX5.out.nx
    simp only [objC] at hx
    obtain ⟨p0, p1, p2, p3, _, _, _, _⟩ := four hx
    obtain ⟨z0, z1, z2, _, _, _⟩ := three HK5.out
    have n1 : ¬ g = b + 1 + 1 := fun e => HX5.out.v2.apart HK5.out (by decide) e.symm
    have n2 : ¬ g = b + 1 + 1 + 1 := HGB.out.2.2
    clear hrr hw5 hr hr2 hsl h5 h6 h7 h8 k5 k6 k7 k8 hAr hcr hx HX3 HK3 HX4 HK4 hb4 HQ0 HKN HC0 HS0 HI HF y0 y1 y2 y3 y4 hgh hhg
    refine wp_region_held_drew (S := fun w' => Blk w' h 32 #[.slice A5' r.s.reg.length c5', .slice A6' r.s.q.length c6', .slice A7' r.s.lk.length c7', .slice A8' r.s.mp.length c8'] ∧ Blk w' g 34 #[.int .i64 r.e, .slice Ar r.v.length cr, .int .i64 r.n]) (by kernel_rfl) ⟨HX5.out.nx.drew, HK5.out.drew⟩ (fun _ => ?_)
    have hl := HX5.out.lt
    have HX6 := Lib.hid (HX5.out.below (Below.refl _ _).drew)
    have HV6 := Lib.hid (own_below HV5.out (Below.refl w5.heap.size w5).drew)
    have HS := Lib.hid (And.intro HX5.out.nx.drew HK5.out.drew)
    simp only [objC] at HS
    clear HX5 HK5 HV5 p0 p1 p2 p3 z0 z1 z2 v0 v1 v2 v3 e0 e1 e2 e3 t0 t1 t2 d0 d1 d2
    generalize w5.drew = w6 at HX6 HV6 HS ⊢
    obtain ⟨v0, v1, v2, v3, e0, e1, e2, e3⟩ := four HX6.out.v2
    refine wpAnyH_take (i := 0) (v := .agg #[.slice A5' r.s.reg.length c5', .slice A6' r.s.q.length c6', .slice A7' r.s.lk.length c7', .slice A8' r.s.mp.length c8']) rfl (by kernel_rfl) (by kernel_rfl) (by kernel_rfl) (fun _ _ _ h => h) (Or.inl ⟨by kernel_rfl, fun w h => by obtain ⟨p0, p1, p2, p3, _, _, _, _⟩ := four h.1; go_simp⟩) HS.out ?_
    refine wpAnyH_take (i := 1) (v := .agg #[.int .i64 r.e, .slice Ar r.v.length cr, .int .i64 r.n]) rfl (by kernel_rfl) (by kernel_rfl) (by kernel_rfl) (fun _ _ _ h => h) (Or.inl ⟨by kernel_rfl, fun w h => by obtain ⟨p0, p1, p2, _, _, _⟩ := three h.2; go_simp⟩) HS.out ?_
    have HS2 := Lib.hid (show Blk ((((w6.setCell ⟨b + 1 + 1, 0, none⟩ (.slice A5' r.s.reg.length c5')).setCell ⟨b + 1 + 1, 1, none⟩ (.slice A6' r.s.q.length c6')).setCell ⟨b + 1 + 1, 2, none⟩ (.slice A7' r.s.lk.length c7')).setCell ⟨b + 1 + 1, 3, none⟩ (.slice A8' r.s.mp.length c8')) h 32 #[.slice A5' r.s.reg.length c5', .slice A6' r.s.q.length c6', .slice A7' r.s.lk.length c7', .slice A8' r.s.mp.length c8'] ∧ Blk ((((w6.setCell ⟨b + 1 + 1, 0, none⟩ (.slice A5' r.s.reg.length c5')).setCell ⟨b + 1 + 1, 1, none⟩ (.slice A6' r.s.q.length c6')).setCell ⟨b + 1 + 1, 2, none⟩ (.slice A7' r.s.lk.length c7')).setCell ⟨b + 1 + 1, 3, none⟩ (.slice A8' r.s.mp.length c8')) g 34 #[.int .i64 r.e, .slice Ar r.v.length cr, .int .i64 r.n] from
      ⟨(((HS.out.1.set_other (by omega)).set_other (by omega)).set_other (by omega)).set_other (by omega), (((HS.out.2.set_other n1).set_other n1).set_other n1).set_other n1⟩)
    refine wpAnyH_ready (rs := [2]) (by kernel_rfl) (by simp) ?_
    refine AllReadyH.cons rfl (fun K hK => ?_) AllReadyH.nil
    go_simp
    refine hK.out _ _ HS2.out (fun _ => ?_)
    clear hK K v0 v1 v2 v3 e0 e1 e2 e3
    obtain ⟨t0, t1, t2, d0, d1, d2⟩ := three ((((HX6.out.v3.set_other (i := 0) (u := .slice A5' r.s.reg.length c5') (b := b + 1 + 1) (by omega)).set_other (i := 1) (u := .slice A6' r.s.q.length c6') (b := b + 1 + 1) (by omega)).set_other (i := 2) (u := .slice A7' r.s.lk.length c7') (b := b + 1 + 1) (by omega)).set_other (i := 3) (u := .slice A8' r.s.mp.length c8') (b := b + 1 + 1) (by omega))
    obtain ⟨q1, q2, q3, q4, q5⟩ := HX6.out.end_ HWB.out HV6.out (.slice A5' r.s.reg.length c5') (.slice A6' r.s.q.length c6') (.slice A7' r.s.lk.length c7') (.slice A8' r.s.mp.length c8') (.int .i64 r.e) (.slice Ar r.v.length cr) (.int .i64 r.n)
    have HQ := Lib.hid (And.intro q1 (And.intro q2 (And.intro q3 (And.intro q4 q5))))
    have HS3 := Lib.hid (And.intro (((HS2.out.1.set_other (i := 0) (u := .int .i64 r.e) (b := b + 1 + 1 + 1) (by omega)).set_other (i := 1) (u := .slice Ar r.v.length cr) (b := b + 1 + 1 + 1) (by omega)).set_other (i := 2) (u := .int .i64 r.n) (b := b + 1 + 1 + 1) (by omega)) (((HS2.out.2.set_other (i := 0) (u := .int .i64 r.e) n2).set_other (i := 1) (u := .slice Ar r.v.length cr) n2).set_other (i := 2) (u := .int .i64 r.n) n2))
    clear q1 q2 q3 q4 q5 HX6 HV6 HS
    generalize (((w6.setCell ⟨b + 1 + 1, 0, none⟩ (.slice A5' r.s.reg.length c5')).setCell ⟨b + 1 + 1, 1, none⟩ (.slice A6' r.s.q.length c6')).setCell ⟨b + 1 + 1, 2, none⟩ (.slice A7' r.s.lk.length c7')).setCell ⟨b + 1 + 1, 3, none⟩ (.slice A8' r.s.mp.length c8') = w7 at HQ HS2 HS3 t0 t1 t2 d0 d1 d2 ⊢
    refine wpAnyH_ready (rs := [3]) (by kernel_rfl) (by simp) ?_
    refine AllReadyH.cons rfl (fun K hK => ?_) AllReadyH.nil
    go_simp
    refine hK.out _ _ HS3.out (fun _ => ?_)
    clear hK K t0 t1 t2 d0 d1 d2
    refine wpAnyH_done (by kernel_rfl) ?_ _
    go_wp2_with fail
    refine bodyPost_ret (results_cells2 rfl _ _ _ _ _ _ _ _ _ _ rfl rfl HQ.out.1 HQ.out.2.1 Try.underlying32 rfl (by kernel_rfl) Try.underlying34 rfl (by kernel_rfl)) rfl ?_
    rw [HR.out]
    exact ⟨⟨A5', c5', A6', c6', A7', c7', A8', c8'⟩, Ar, cr, rfl, HQ.out.2.2.1, HQ.out.2.2.2.1, HQ.out.2.2.2.2, HQ.out.2.2.2.2⟩
  | true =>
    rw [hq] at hkn
    have HKN := Lib.hid hkn
    have HKW := Lib.hid (of_decide_eq_true hq)
    clear hkn hq
    go_upto_block 0 with (first
      | (go_at_call 20; refine (HKN.out _).mono ?_; rintro e w4 ⟨rfl, hb4⟩
         have HX4 := Lib.hid (HX3.out.below hb4)
         have HK4 := Lib.hid (HK3.out.below hb4)
         have hy := HX4.out.vc
         simp only [cmdC] at hy
         obtain ⟨y0, y1, y2, y3, y4⟩ := five hy
         clear hy)
      | fail)
    clear HX3 HK3 hb4 HKN
    obtain ⟨w3', hw3⟩ : ∃ x, w4 = x := ⟨_, rfl⟩
    rw [hw3] at HX4 HK4 y0 y1 y2 y3 y4 ⊢
    clear hw3
    have HX3 := HX4
    have HK3 := HK4
    clear HX4 HK4
    have hx := HX3.out.vs
    simp only [objC] at hx
    obtain ⟨p0, p1, p2, p3, _, _, _, _⟩ := four hx
    clear hx
    go_cut [] from 18 to 124 (fun wx => ∃ a' Ar cr, Hid (VarsN w wx b h ⟨A0, c0, A1, c1, A2, c2, A3, c3⟩ s a' (s.apply c).s ⟨Ak, ck, Av, cv, Ao, co⟩ c) ∧ Hid (Blk wx g 34 #[.int .i64 (s.apply c).e, .slice Ar (s.apply c).v.length cr, .int .i64 (s.apply c).n]) ∧ Hid (OwnB w wx Ar (s.apply c).v.length cr (s.apply c).v))
    case first =>
      by_cases hkk : c.kind = 1
      · have k1 : (c.kind == 1) = true := by simp; omega
        obtain ⟨r, hr⟩ : ∃ r, s.apply c = r := ⟨_, rfl⟩
        have hr2 := hr
        unfold Ob.apply at hr2
        rw [if_pos (by omega)] at hr2
        have hcall := read_any (W := w) (c := c0) (by have := HI.out.reg; unfold Lim; omega) (HS0.out.below HX3.out.bel).r0 HX3.out.bel
        have HR := Lib.hid (hr.trans hr2.symm)
        have HCALL := Lib.hid hcall
        clear hr hr2 hkk hcall
        go_wp2_with (first
          | (go_at_call 21; refine HCALL.out.mono ?_; rintro e w4 ⟨Ar, cr, rfl, hv4, hB4, hb4⟩; unfold resV; have HX4 := Lib.hid (HX3.out.below hb4); have HK4 := Lib.hid (HK3.out.below hb4); have hx := HX4.out.nx; simp only [objC] at hx; obtain ⟨p0, p1, p2, p3, e0, e1, e2, e3⟩ := four hx; obtain ⟨z0, z1, z2, d0, d1, d2⟩ := three HK4.out; clear hx)
          | fail)
        go_meet
        exact HX4.out.done HK4.out HGB.out hv4 HR.out
      by_cases hkk : c.kind = 2
      · have k1 : (c.kind == 1) = false := by simp; omega
        have k2 : (c.kind == 2) = true := by simp; omega
        obtain ⟨r, hr⟩ : ∃ r, s.apply c = r := ⟨_, rfl⟩
        have hr2 := hr
        unfold Ob.apply at hr2
        rw [if_neg (by omega), if_pos (by omega)] at hr2
        have hcall := write_any (W := w) (c := c0) (c' := cv) (by have := HI.out.reg; unfold Lim; omega) (by have := HF.out.val.1; unfold Lim; omega) (HS0.out.below HX3.out.bel).r0 (HC0.out.below HX3.out.bel).rv HX3.out.bel
        obtain ⟨l2, hl2⟩ : ∃ x, (if c.val.length ≤ 16 then c.val else s.reg) = x := ⟨_, rfl⟩
        obtain ⟨e2, he2⟩ : ∃ x, (if c.val.length ≤ 16 then (0 : Int) else 1) = x := ⟨_, rfl⟩
        rw [hl2, he2] at hr2 hcall
        have HR := Lib.hid (hr.trans hr2.symm)
        have HCALL := Lib.hid hcall
        clear hr hr2 hkk hcall hl2 he2
        go_wp2_with (first
          | (go_at_call 22; refine HCALL.out.mono ?_; rintro e w4 ⟨An, cn, Ar, cr, rfl, ho4, hv4, hB4, hb4⟩; unfold resV; have HX4 := Lib.hid (HX3.out.below hb4); have HK4 := Lib.hid (HK3.out.below hb4); have hx := HX4.out.nx; simp only [objC] at hx; obtain ⟨p0, p1, p2, p3, e0, e1, e2, e3⟩ := four hx; obtain ⟨z0, z1, z2, d0, d1, d2⟩ := three HK4.out; clear hx)
          | fail)
        go_meet
        exact HX4.out.doneSet HK4.out HGB.out HWB.out 0 (.slice An l2.length cn) ⟨An, cn, A6, c6, A7, c7, A8, c8⟩ { s with reg := l2 } rfl ⟨ho4, HX4.out.own.o1, HX4.out.own.o2, HX4.out.own.o3⟩ hv4 HR.out
      by_cases hkk : c.kind = 3
      · have k1 : (c.kind == 1) = false := by simp; omega
        have k2 : (c.kind == 2) = false := by simp; omega
        have k3 : (c.kind == 3) = true := by simp; omega
        obtain ⟨r, hr⟩ : ∃ r, s.apply c = r := ⟨_, rfl⟩
        have hr2 := hr
        unfold Ob.apply at hr2
        rw [if_neg (by omega), if_neg (by omega), if_pos (by omega)] at hr2
        have hcall := cas_any (W := w) (c := c0) (c' := cv) (c2 := co) (by have := HI.out.reg; unfold Lim; omega) (by have := HF.out.val.1; unfold Lim; omega) HI.out.regb HF.out.old.2 (HS0.out.below HX3.out.bel).r0 (HC0.out.below HX3.out.bel).rv (HC0.out.below HX3.out.bel).ro HX3.out.bel
        obtain ⟨l2, hl2⟩ : ∃ x, casS s.reg c.old c.val = x := ⟨_, rfl⟩
        obtain ⟨e2, he2⟩ : ∃ x, casE s.reg c.old c.val = x := ⟨_, rfl⟩
        obtain ⟨v2, hv2⟩ : ∃ x, casV s.reg c.old c.val = x := ⟨_, rfl⟩
        rw [hl2, he2, hv2] at hr2 hcall
        have HR := Lib.hid (hr.trans hr2.symm)
        have HCALL := Lib.hid hcall
        clear hr hr2 hkk hcall hl2 he2 hv2
        go_wp2_with (first
          | (go_at_call 23; refine HCALL.out.mono ?_; rintro e w4 ⟨An, cn, Ar, cr, rfl, ho4, hv4, hB4, hb4⟩; unfold resV; have HX4 := Lib.hid (HX3.out.below hb4); have HK4 := Lib.hid (HK3.out.below hb4); have hx := HX4.out.nx; simp only [objC] at hx; obtain ⟨p0, p1, p2, p3, e0, e1, e2, e3⟩ := four hx; obtain ⟨z0, z1, z2, d0, d1, d2⟩ := three HK4.out; clear hx)
          | fail)
        go_meet
        exact HX4.out.doneSet HK4.out HGB.out HWB.out 0 (.slice An l2.length cn) ⟨An, cn, A6, c6, A7, c7, A8, c8⟩ { s with reg := l2 } rfl ⟨ho4, HX4.out.own.o1, HX4.out.own.o2, HX4.out.own.o3⟩ hv4 HR.out
      by_cases hkk : c.kind = 4
      · have k1 : (c.kind == 1) = false := by simp; omega
        have k2 : (c.kind == 2) = false := by simp; omega
        have k3 : (c.kind == 3) = false := by simp; omega
        have k4 : (c.kind == 4) = true := by simp; omega
        obtain ⟨r, hr⟩ : ∃ r, s.apply c = r := ⟨_, rfl⟩
        have hr2 := hr
        unfold Ob.apply at hr2
        rw [if_neg (by omega), if_neg (by omega), if_neg (by omega), if_pos (by omega)] at hr2
        have hcall := push_any (W := w) (c := c1) (c' := cv) (by have := HI.out.ql; omega) (fun l hl => by have := HI.out.qv l hl; unfold Lim; omega) (by have := HF.out.val.1; unfold Lim; omega) (HS0.out.below HX3.out.bel).r1 (HC0.out.below HX3.out.bel).rv HX3.out.bel
        obtain ⟨l2, hl2⟩ : ∃ x, pushS s.q c.val = x := ⟨_, rfl⟩
        obtain ⟨e2, he2⟩ : ∃ x, pushE s.q c.val = x := ⟨_, rfl⟩
        obtain ⟨n2, hn2⟩ : ∃ x, pushN s.q c.val = x := ⟨_, rfl⟩
        rw [hl2, he2, hn2] at hr2 hcall
        have HR := Lib.hid (hr.trans hr2.symm)
        have HCALL := Lib.hid hcall
        clear hr hr2 hkk hcall hl2 he2 hn2
        go_wp2_with (first
          | (go_at_call 24; refine HCALL.out.mono ?_; rintro e w4 ⟨An, cn, Ar, cr, rfl, ho4, hv4, hB4, hb4⟩; unfold resV; have HX4 := Lib.hid (HX3.out.below hb4); have HK4 := Lib.hid (HK3.out.below hb4); have hx := HX4.out.nx; simp only [objC] at hx; obtain ⟨p0, p1, p2, p3, e0, e1, e2, e3⟩ := four hx; obtain ⟨z0, z1, z2, d0, d1, d2⟩ := three HK4.out; clear hx)
          | fail)
        go_meet
        exact HX4.out.doneSet HK4.out HGB.out HWB.out 1 (.slice An l2.length cn) ⟨A5, c5, An, cn, A7, c7, A8, c8⟩ { s with q := l2 } rfl ⟨HX4.out.own.o0, ho4, HX4.out.own.o2, HX4.out.own.o3⟩ hv4 HR.out
      by_cases hkk : c.kind = 5
      · have k1 : (c.kind == 1) = false := by simp; omega
        have k2 : (c.kind == 2) = false := by simp; omega
        have k3 : (c.kind == 3) = false := by simp; omega
        have k4 : (c.kind == 4) = false := by simp; omega
        have k5 : (c.kind == 5) = true := by simp; omega
        obtain ⟨r, hr⟩ : ∃ r, s.apply c = r := ⟨_, rfl⟩
        have hr2 := hr
        unfold Ob.apply at hr2
        rw [if_neg (by omega), if_neg (by omega), if_neg (by omega), if_neg (by omega), if_pos (by omega)] at hr2
        have hcall := pop_any (W := w) (c := c1) (by have := HI.out.ql; omega) (HS0.out.below HX3.out.bel).l1 (fun l hl => by have := HI.out.qv l hl; unfold Lim; omega) (HS0.out.below HX3.out.bel).r1 HX3.out.bel
        obtain ⟨l2, hl2⟩ : ∃ x, s.q.tail = x := ⟨_, rfl⟩
        obtain ⟨e2, he2⟩ : ∃ x, popE s.q = x := ⟨_, rfl⟩
        obtain ⟨v2, hv2⟩ : ∃ x, popV s.q = x := ⟨_, rfl⟩
        rw [hl2, he2, hv2] at hr2 hcall
        have HR := Lib.hid (hr.trans hr2.symm)
        have HCALL := Lib.hid hcall
        clear hr hr2 hkk hcall hl2 he2 hv2
        go_wp2_with (first
          | (go_at_call 25; refine HCALL.out.mono ?_; rintro e w4 ⟨An, cn, Ar, cr, rfl, ho4, hv4, hB4, hb4⟩; unfold resV; have HX4 := Lib.hid (HX3.out.below hb4); have HK4 := Lib.hid (HK3.out.below hb4); have hx := HX4.out.nx; simp only [objC] at hx; obtain ⟨p0, p1, p2, p3, e0, e1, e2, e3⟩ := four hx; obtain ⟨z0, z1, z2, d0, d1, d2⟩ := three HK4.out; clear hx)
          | fail)
        go_meet
        exact HX4.out.doneSet HK4.out HGB.out HWB.out 1 (.slice An l2.length cn) ⟨A5, c5, An, cn, A7, c7, A8, c8⟩ { s with q := l2 } rfl ⟨HX4.out.own.o0, ho4, HX4.out.own.o2, HX4.out.own.o3⟩ hv4 HR.out
      by_cases hkk : c.kind = 6
      · have k1 : (c.kind == 1) = false := by simp; omega
        have k2 : (c.kind == 2) = false := by simp; omega
        have k3 : (c.kind == 3) = false := by simp; omega
        have k4 : (c.kind == 4) = false := by simp; omega
        have k5 : (c.kind == 5) = false := by simp; omega
        have k6 : (c.kind == 6) = true := by simp; omega
        obtain ⟨r, hr⟩ : ∃ r, s.apply c = r := ⟨_, rfl⟩
        have hr2 := hr
        have hkw := HKW.out.2.2 (by omega)
        unfold Ob.apply at hr2
        rw [if_neg (by omega), if_neg (by omega), if_neg (by omega), if_neg (by omega), if_neg (by omega), if_pos (by omega)] at hr2
        have hcall := take_any (W := w) (c := c2) c.who (by have := HI.out.lkl; omega) (HS0.out.below HX3.out.bel).l2 (HS0.out.below HX3.out.bel).r2 HX3.out.bel
        obtain ⟨l2, hl2⟩ : ∃ x, takeS s.lk c.who = x := ⟨_, rfl⟩
        obtain ⟨e2, he2⟩ : ∃ x, takeE s.lk c.who = x := ⟨_, rfl⟩
        obtain ⟨n2, hn2⟩ : ∃ x, takeN s.lk c.who = x := ⟨_, rfl⟩
        rw [hl2, he2, hn2] at hr2 hcall
        have HR := Lib.hid (hr.trans hr2.symm)
        have HCALL := Lib.hid hcall
        clear hr hr2 hkk hcall hl2 he2 hn2 hkw
        go_wp2_with (first
          | (go_at_call 26; refine HCALL.out.mono ?_; rintro e w4 ⟨An, cn, Ar, cr, rfl, ho4, hv4, hB4, hb4⟩; unfold resV; have HX4 := Lib.hid (HX3.out.below hb4); have HK4 := Lib.hid (HK3.out.below hb4); have hx := HX4.out.nx; simp only [objC] at hx; obtain ⟨p0, p1, p2, p3, e0, e1, e2, e3⟩ := four hx; obtain ⟨z0, z1, z2, d0, d1, d2⟩ := three HK4.out; clear hx)
          | fail)
        go_meet
        exact HX4.out.doneSet HK4.out HGB.out HWB.out 2 (.slice An l2.length cn) ⟨A5, c5, A6, c6, An, cn, A8, c8⟩ { s with lk := l2 } rfl ⟨HX4.out.own.o0, HX4.out.own.o1, ho4, HX4.out.own.o3⟩ hv4 HR.out
      by_cases hkk : c.kind = 7
      · have k1 : (c.kind == 1) = false := by simp; omega
        have k2 : (c.kind == 2) = false := by simp; omega
        have k3 : (c.kind == 3) = false := by simp; omega
        have k4 : (c.kind == 4) = false := by simp; omega
        have k5 : (c.kind == 5) = false := by simp; omega
        have k6 : (c.kind == 6) = false := by simp; omega
        have k7 : (c.kind == 7) = true := by simp; omega
        obtain ⟨r, hr⟩ : ∃ r, s.apply c = r := ⟨_, rfl⟩
        have hr2 := hr
        have hkw := HKW.out.2.2 (by omega)
        unfold Ob.apply at hr2
        rw [if_neg (by omega), if_neg (by omega), if_neg (by omega), if_neg (by omega), if_neg (by omega), if_neg (by omega), if_pos (by omega)] at hr2
        have hcall := free_any (W := w) (c := c2) c.who (by have := HI.out.lkl; omega) (HS0.out.below HX3.out.bel).l2 HI.out.lkn (HS0.out.below HX3.out.bel).r2 HX3.out.bel
        obtain ⟨l2, hl2⟩ : ∃ x, s.lk.erase c.who = x := ⟨_, rfl⟩
        obtain ⟨e2, he2⟩ : ∃ x, freeE s.lk c.who = x := ⟨_, rfl⟩
        obtain ⟨n2, hn2⟩ : ∃ x, freeN s.lk c.who = x := ⟨_, rfl⟩
        rw [hl2, he2, hn2] at hr2 hcall
        have HR := Lib.hid (hr.trans hr2.symm)
        have HCALL := Lib.hid hcall
        clear hr hr2 hkk hcall hl2 he2 hn2 hkw
        go_wp2_with (first
          | (go_at_call 27; refine HCALL.out.mono ?_; rintro e w4 ⟨An, cn, Ar, cr, rfl, ho4, hv4, hB4, hb4⟩; unfold resV; have HX4 := Lib.hid (HX3.out.below hb4); have HK4 := Lib.hid (HK3.out.below hb4); have hx := HX4.out.nx; simp only [objC] at hx; obtain ⟨p0, p1, p2, p3, e0, e1, e2, e3⟩ := four hx; obtain ⟨z0, z1, z2, d0, d1, d2⟩ := three HK4.out; clear hx)
          | fail)
        go_meet
        exact HX4.out.doneSet HK4.out HGB.out HWB.out 2 (.slice An l2.length cn) ⟨A5, c5, A6, c6, An, cn, A8, c8⟩ { s with lk := l2 } rfl ⟨HX4.out.own.o0, HX4.out.own.o1, ho4, HX4.out.own.o3⟩ hv4 HR.out
      by_cases hkk : c.kind = 8
      · have k1 : (c.kind == 1) = false := by simp; omega
        have k2 : (c.kind == 2) = false := by simp; omega
        have k3 : (c.kind == 3) = false := by simp; omega
        have k4 : (c.kind == 4) = false := by simp; omega
        have k5 : (c.kind == 5) = false := by simp; omega
        have k6 : (c.kind == 6) = false := by simp; omega
        have k7 : (c.kind == 7) = false := by simp; omega
        have k8 : (c.kind == 8) = true := by simp; omega
        obtain ⟨r, hr⟩ : ∃ r, s.apply c = r := ⟨_, rfl⟩
        have hr2 := hr
        unfold Ob.apply at hr2
        rw [if_neg (by omega), if_neg (by omega), if_neg (by omega), if_neg (by omega), if_neg (by omega), if_neg (by omega), if_neg (by omega), if_pos (by omega)] at hr2
        have hcall := owner_any (W := w) (c := c2) (by have := HI.out.lkl; omega) (HS0.out.below HX3.out.bel).l2 (HS0.out.below HX3.out.bel).r2 HX3.out.bel
        obtain ⟨e2, he2⟩ : ∃ x, ownerE s.lk = x := ⟨_, rfl⟩
        obtain ⟨n2, hn2⟩ : ∃ x, ownerN s.lk = x := ⟨_, rfl⟩
        rw [he2, hn2] at hr2 hcall
        have HR := Lib.hid (hr.trans hr2.symm)
        have HCALL := Lib.hid hcall
        clear hr hr2 hkk hcall he2 hn2
        go_wp2_with (first
          | (go_at_call 28; refine HCALL.out.mono ?_; rintro e w4 ⟨Ar, cr, rfl, hv4, hB4, hb4⟩; unfold resV; have HX4 := Lib.hid (HX3.out.below hb4); have HK4 := Lib.hid (HK3.out.below hb4); have hx := HX4.out.nx; simp only [objC] at hx; obtain ⟨p0, p1, p2, p3, e0, e1, e2, e3⟩ := four hx; obtain ⟨z0, z1, z2, d0, d1, d2⟩ := three HK4.out; clear hx)
          | fail)
        go_meet
        exact HX4.out.done HK4.out HGB.out hv4 HR.out
      by_cases hkk : c.kind = 9
      · have k1 : (c.kind == 1) = false := by simp; omega
        have k2 : (c.kind == 2) = false := by simp; omega
        have k3 : (c.kind == 3) = false := by simp; omega
        have k4 : (c.kind == 4) = false := by simp; omega
        have k5 : (c.kind == 5) = false := by simp; omega
        have k6 : (c.kind == 6) = false := by simp; omega
        have k7 : (c.kind == 7) = false := by simp; omega
        have k8 : (c.kind == 8) = false := by simp; omega
        have k9 : (c.kind == 9) = true := by simp; omega
        obtain ⟨r, hr⟩ : ∃ r, s.apply c = r := ⟨_, rfl⟩
        have hr2 := hr
        unfold Ob.apply at hr2
        rw [if_neg (by omega), if_neg (by omega), if_neg (by omega), if_neg (by omega), if_neg (by omega), if_neg (by omega), if_neg (by omega), if_neg (by omega), if_pos (by omega)] at hr2
        have hcall := putC7 (W := w) (c := c3) (c' := ck) (c'' := cv) (HS0.out.below HX3.out.bel).l3 HI.out.mp HF.out.key.2 HF.out.val.2 (by have := HF.out.key.1; omega) (by have := HF.out.val.1; omega) (HS0.out.below HX3.out.bel).r3 (HC0.out.below HX3.out.bel).rk (HC0.out.below HX3.out.bel).rv HX3.out.bel
        obtain ⟨l2, hl2⟩ : ∃ x, Mp.putS s.mp c.key c.val = x := ⟨_, rfl⟩
        obtain ⟨e2, he2⟩ : ∃ x, Mp.putE s.mp c.key c.val = x := ⟨_, rfl⟩
        obtain ⟨v2, hv2⟩ : ∃ x, Mp.putV s.mp c.key c.val = x := ⟨_, rfl⟩
        obtain ⟨n2, hn2⟩ : ∃ x, Mp.putN s.mp c.key c.val = x := ⟨_, rfl⟩
        rw [hl2, he2, hv2, hn2] at hr2 hcall
        have HR := Lib.hid (hr.trans hr2.symm)
        have HCALL := Lib.hid hcall
        clear hr hr2 hkk hcall hl2 he2 hv2 hn2
        go_wp2_with (first
          | (go_at_call 29; refine HCALL.out.mono ?_; rintro e w4 ⟨An, cn, Ar, cr, rfl, ho4, hv4, hB4, hb4⟩; unfold resV; have HX4 := Lib.hid (HX3.out.below hb4); have HK4 := Lib.hid (HK3.out.below hb4); have hx := HX4.out.nx; simp only [objC] at hx; obtain ⟨p0, p1, p2, p3, e0, e1, e2, e3⟩ := four hx; obtain ⟨z0, z1, z2, d0, d1, d2⟩ := three HK4.out; clear hx)
          | fail)
        go_meet
        exact HX4.out.doneSet HK4.out HGB.out HWB.out 3 (.slice An l2.length cn) ⟨A5, c5, A6, c6, A7, c7, An, cn⟩ { s with mp := l2 } rfl ⟨HX4.out.own.o0, HX4.out.own.o1, HX4.out.own.o2, ho4⟩ hv4 HR.out
      by_cases hkk : c.kind = 10
      · have k1 : (c.kind == 1) = false := by simp; omega
        have k2 : (c.kind == 2) = false := by simp; omega
        have k3 : (c.kind == 3) = false := by simp; omega
        have k4 : (c.kind == 4) = false := by simp; omega
        have k5 : (c.kind == 5) = false := by simp; omega
        have k6 : (c.kind == 6) = false := by simp; omega
        have k7 : (c.kind == 7) = false := by simp; omega
        have k8 : (c.kind == 8) = false := by simp; omega
        have k9 : (c.kind == 9) = false := by simp; omega
        have k10 : (c.kind == 10) = true := by simp; omega
        obtain ⟨r, hr⟩ : ∃ r, s.apply c = r := ⟨_, rfl⟩
        have hr2 := hr
        unfold Ob.apply at hr2
        rw [if_neg (by omega), if_neg (by omega), if_neg (by omega), if_neg (by omega), if_neg (by omega), if_neg (by omega), if_neg (by omega), if_neg (by omega), if_neg (by omega), if_pos (by omega)] at hr2
        have hcall := getC7 (W := w) (c := c3) (c' := ck) (HS0.out.below HX3.out.bel).l3 HI.out.mp HF.out.key.2 (by have := HF.out.key.1; omega) (HS0.out.below HX3.out.bel).r3 (HC0.out.below HX3.out.bel).rk HX3.out.bel
        obtain ⟨e2, he2⟩ : ∃ x, Mp.getE s.mp c.key = x := ⟨_, rfl⟩
        obtain ⟨v2, hv2⟩ : ∃ x, Mp.getV s.mp c.key = x := ⟨_, rfl⟩
        rw [he2, hv2] at hr2 hcall
        have HR := Lib.hid (hr.trans hr2.symm)
        have HCALL := Lib.hid hcall
        clear hr hr2 hkk hcall he2 hv2
        go_wp2_with (first
          | (go_at_call 30; refine HCALL.out.mono ?_; rintro e w4 ⟨Ar, cr, rfl, hv4, hB4, hb4⟩; unfold resV; have HX4 := Lib.hid (HX3.out.below hb4); have HK4 := Lib.hid (HK3.out.below hb4); have hx := HX4.out.nx; simp only [objC] at hx; obtain ⟨p0, p1, p2, p3, e0, e1, e2, e3⟩ := four hx; obtain ⟨z0, z1, z2, d0, d1, d2⟩ := three HK4.out; clear hx)
          | fail)
        go_meet
        exact HX4.out.done HK4.out HGB.out hv4 HR.out
      have hkk : c.kind = 11 := by have := HKW.out; omega
      have k1 : (c.kind == 1) = false := by simp; omega
      have k2 : (c.kind == 2) = false := by simp; omega
      have k3 : (c.kind == 3) = false := by simp; omega
      have k4 : (c.kind == 4) = false := by simp; omega
      have k5 : (c.kind == 5) = false := by simp; omega
      have k6 : (c.kind == 6) = false := by simp; omega
      have k7 : (c.kind == 7) = false := by simp; omega
      have k8 : (c.kind == 8) = false := by simp; omega
      have k9 : (c.kind == 9) = false := by simp; omega
      have k10 : (c.kind == 10) = false := by simp; omega
      have k11 : (c.kind == 11) = true := by simp; omega
      obtain ⟨r, hr⟩ : ∃ r, s.apply c = r := ⟨_, rfl⟩
      have hr2 := hr
      unfold Ob.apply at hr2
      rw [if_neg (by omega), if_neg (by omega), if_neg (by omega), if_neg (by omega), if_neg (by omega), if_neg (by omega), if_neg (by omega), if_neg (by omega), if_neg (by omega), if_neg (by omega), if_pos (by omega)] at hr2
      have hcall := delC7 (W := w) (c := c3) (c' := ck) (HS0.out.below HX3.out.bel).l3 HI.out.mp HF.out.key.2 (by have := HF.out.key.1; omega) (HS0.out.below HX3.out.bel).r3 (HC0.out.below HX3.out.bel).rk HX3.out.bel
      obtain ⟨l2, hl2⟩ : ∃ x, Mp.delS s.mp c.key = x := ⟨_, rfl⟩
      obtain ⟨e2, he2⟩ : ∃ x, Mp.getE s.mp c.key = x := ⟨_, rfl⟩
      obtain ⟨v2, hv2⟩ : ∃ x, Mp.getV s.mp c.key = x := ⟨_, rfl⟩
      rw [hl2, he2, hv2] at hr2 hcall
      have HR := Lib.hid (hr.trans hr2.symm)
      have HCALL := Lib.hid hcall
      clear hr hr2 hkk hcall hl2 he2 hv2
      go_wp2_with (first
        | (go_at_call 31; refine HCALL.out.mono ?_; rintro e w4 ⟨An, cn, Ar, cr, rfl, ho4, hv4, hB4, hb4⟩; unfold resV; have HX4 := Lib.hid (HX3.out.below hb4); have HK4 := Lib.hid (HK3.out.below hb4); have hx := HX4.out.nx; simp only [objC] at hx; obtain ⟨p0, p1, p2, p3, e0, e1, e2, e3⟩ := four hx; obtain ⟨z0, z1, z2, d0, d1, d2⟩ := three HK4.out; clear hx)
        | fail)
      go_meet
      exact HX4.out.doneSet HK4.out HGB.out HWB.out 3 (.slice An l2.length cn) ⟨A5, c5, A6, c6, A7, c7, An, cn⟩ { s with mp := l2 } rfl ⟨HX4.out.own.o0, HX4.out.own.o1, HX4.out.own.o2, ho4⟩ hv4 HR.out
    case rest =>
      obtain ⟨⟨A5', c5', A6', c6', A7', c7', A8', c8'⟩, Ar, cr, HX5, HK5, HV5⟩ := hcut
      rename World => w5
      obtain ⟨r, hr⟩ : ∃ r, s.apply c = r := ⟨_, rfl⟩
      rw [hr] at HX5 HK5 HV5
      have HR := Lib.hid hr
      have hx := HX5.out.nx
      simp only [objC] at hx
      obtain ⟨p0, p1, p2, p3, _, _, _, _⟩ := four hx
      obtain ⟨z0, z1, z2, _, _, _⟩ := three HK5.out
      obtain ⟨v0, v1, v2, v3, e0, e1, e2, e3⟩ := four HX5.out.v2
      obtain ⟨t0, t1, t2, d0, d1, d2⟩ := three HX5.out.v3
      have n1 : ¬ g = b + 1 + 1 := fun e => HX5.out.v2.apart HK5.out (by decide) e.symm
      have n2 : ¬ g = b + 1 + 1 + 1 := HGB.out.2.2
      clear hx hr HX3 HK3 HC0 HS0 HI HF HKW y0 y1 y2 y3 y4 hgh hhg
      go_upto_region 29 with fail
      refine wp_region_held_drew (S := fun w' => Blk w' h 32 #[.slice A5' r.s.reg.length c5', .slice A6' r.s.q.length c6', .slice A7' r.s.lk.length c7', .slice A8' r.s.mp.length c8'] ∧ Blk w' g 34 #[.int .i64 r.e, .slice Ar r.v.length cr, .int .i64 r.n]) (by kernel_rfl) ⟨HX5.out.nx.drew, HK5.out.drew⟩ (fun _ => ?_)
      have hl := HX5.out.lt
      have HX6 := Lib.hid (HX5.out.below (Below.refl _ _).drew)
      have HV6 := Lib.hid (own_below HV5.out (Below.refl w5.heap.size w5).drew)
      have HS := Lib.hid (And.intro HX5.out.nx.drew HK5.out.drew)
      simp only [objC] at HS
      clear HX5 HK5 HV5 p0 p1 p2 p3 z0 z1 z2 v0 v1 v2 v3 e0 e1 e2 e3 t0 t1 t2 d0 d1 d2
      generalize w5.drew = w6 at HX6 HV6 HS ⊢
      obtain ⟨v0, v1, v2, v3, e0, e1, e2, e3⟩ := four HX6.out.v2
      refine wpAnyH_take (i := 0) (v := .agg #[.slice A5' r.s.reg.length c5', .slice A6' r.s.q.length c6', .slice A7' r.s.lk.length c7', .slice A8' r.s.mp.length c8']) rfl (by kernel_rfl) (by kernel_rfl) (by kernel_rfl) (fun _ _ _ h => h) (Or.inl ⟨by kernel_rfl, fun w h => by obtain ⟨p0, p1, p2, p3, _, _, _, _⟩ := four h.1; go_simp⟩) HS.out ?_
      refine wpAnyH_take (i := 1) (v := .agg #[.int .i64 r.e, .slice Ar r.v.length cr, .int .i64 r.n]) rfl (by kernel_rfl) (by kernel_rfl) (by kernel_rfl) (fun _ _ _ h => h) (Or.inl ⟨by kernel_rfl, fun w h => by obtain ⟨p0, p1, p2, _, _, _⟩ := three h.2; go_simp⟩) HS.out ?_
      have HS2 := Lib.hid (show Blk ((((w6.setCell ⟨b + 1 + 1, 0, none⟩ (.slice A5' r.s.reg.length c5')).setCell ⟨b + 1 + 1, 1, none⟩ (.slice A6' r.s.q.length c6')).setCell ⟨b + 1 + 1, 2, none⟩ (.slice A7' r.s.lk.length c7')).setCell ⟨b + 1 + 1, 3, none⟩ (.slice A8' r.s.mp.length c8')) h 32 #[.slice A5' r.s.reg.length c5', .slice A6' r.s.q.length c6', .slice A7' r.s.lk.length c7', .slice A8' r.s.mp.length c8'] ∧ Blk ((((w6.setCell ⟨b + 1 + 1, 0, none⟩ (.slice A5' r.s.reg.length c5')).setCell ⟨b + 1 + 1, 1, none⟩ (.slice A6' r.s.q.length c6')).setCell ⟨b + 1 + 1, 2, none⟩ (.slice A7' r.s.lk.length c7')).setCell ⟨b + 1 + 1, 3, none⟩ (.slice A8' r.s.mp.length c8')) g 34 #[.int .i64 r.e, .slice Ar r.v.length cr, .int .i64 r.n] from
        ⟨(((HS.out.1.set_other (by omega)).set_other (by omega)).set_other (by omega)).set_other (by omega), (((HS.out.2.set_other n1).set_other n1).set_other n1).set_other n1⟩)
      refine wpAnyH_ready (rs := [2]) (by kernel_rfl) (by simp) ?_
      refine AllReadyH.cons rfl (fun K hK => ?_) AllReadyH.nil
      go_simp
      refine hK.out _ _ HS2.out (fun _ => ?_)
      clear hK K v0 v1 v2 v3 e0 e1 e2 e3
      obtain ⟨t0, t1, t2, d0, d1, d2⟩ := three ((((HX6.out.v3.set_other (i := 0) (u := .slice A5' r.s.reg.length c5') (b := b + 1 + 1) (by omega)).set_other (i := 1) (u := .slice A6' r.s.q.length c6') (b := b + 1 + 1) (by omega)).set_other (i := 2) (u := .slice A7' r.s.lk.length c7') (b := b + 1 + 1) (by omega)).set_other (i := 3) (u := .slice A8' r.s.mp.length c8') (b := b + 1 + 1) (by omega))
      obtain ⟨q1, q2, q3, q4, q5⟩ := HX6.out.end_ HWB.out HV6.out (.slice A5' r.s.reg.length c5') (.slice A6' r.s.q.length c6') (.slice A7' r.s.lk.length c7') (.slice A8' r.s.mp.length c8') (.int .i64 r.e) (.slice Ar r.v.length cr) (.int .i64 r.n)
      have HQ := Lib.hid (And.intro q1 (And.intro q2 (And.intro q3 (And.intro q4 q5))))
      have HS3 := Lib.hid (And.intro (((HS2.out.1.set_other (i := 0) (u := .int .i64 r.e) (b := b + 1 + 1 + 1) (by omega)).set_other (i := 1) (u := .slice Ar r.v.length cr) (b := b + 1 + 1 + 1) (by omega)).set_other (i := 2) (u := .int .i64 r.n) (b := b + 1 + 1 + 1) (by omega)) (((HS2.out.2.set_other (i := 0) (u := .int .i64 r.e) n2).set_other (i := 1) (u := .slice Ar r.v.length cr) n2).set_other (i := 2) (u := .int .i64 r.n) n2))
      clear q1 q2 q3 q4 q5 HX6 HV6 HS
      generalize (((w6.setCell ⟨b + 1 + 1, 0, none⟩ (.slice A5' r.s.reg.length c5')).setCell ⟨b + 1 + 1, 1, none⟩ (.slice A6' r.s.q.length c6')).setCell ⟨b + 1 + 1, 2, none⟩ (.slice A7' r.s.lk.length c7')).setCell ⟨b + 1 + 1, 3, none⟩ (.slice A8' r.s.mp.length c8') = w7 at HQ HS2 HS3 t0 t1 t2 d0 d1 d2 ⊢
      refine wpAnyH_ready (rs := [3]) (by kernel_rfl) (by simp) ?_
      refine AllReadyH.cons rfl (fun K hK => ?_) AllReadyH.nil
      go_simp
      refine hK.out _ _ HS3.out (fun _ => ?_)
      clear hK K t0 t1 t2 d0 d1 d2
      refine wpAnyH_done (by kernel_rfl) ?_ _
      go_wp2_with fail
      refine bodyPost_ret (results_cells2 rfl _ _ _ _ _ _ _ _ _ _ rfl rfl HQ.out.1 HQ.out.2.1 Try.underlying32 rfl (by kernel_rfl) Try.underlying34 rfl (by kernel_rfl)) rfl ?_
      rw [HR.out]
      exact ⟨⟨A5', c5', A6', c6', A7', c7', A8', c8'⟩, Ar, cr, rfl, HQ.out.2.2.1, HQ.out.2.2.2.1, HQ.out.2.2.2.2, HQ.out.2.2.2.2⟩
theorem apply8 : ApplyC8 := fun {W w a ca s c B B'} hI hc h h' hB => (apply8_raw hI hc h h').mono fun e w' h => GotO.of hB h
end Go.Proofs.Ytclbhcbeocapgaa
namespace Go.Proofs.Ytclbhcbeocapgaa
open Go.RowKit
set_option linter.unusedVariables false
theorem awake8 : AwakeC8 := objsAwake apply8 ok8 same8 sameRes8
theorem objsApart_walk (a0 : Option Addr) (len0 cap0 : Nat) (z0 : List Int) (w : World) (w0 : IsRow .i64 w a0 len0 cap0 z0) :
    Calls Try.prog 6 #[.slice a0 len0 cap0] w fun e w' => e = .returned (.bool true) ∧ Below w.heap.size w w' :=
  objsApart_core apply8 awake8 a0 len0 cap0 z0 w w0
end Go.Proofs.Ytclbhcbeocapgaa
