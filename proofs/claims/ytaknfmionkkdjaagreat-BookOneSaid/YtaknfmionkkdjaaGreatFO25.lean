/- ObjRef -/
import Derived.Test.YtaknfmionkkdjaaGreatFO11
import Derived.Test.YtaknfmionkkdjaaGreatFO12
import Derived.Test.YtaknfmionkkdjaaGreatFO13
import Derived.Test.YtaknfmionkkdjaaGreatFO23
import Derived.Test.YtaknfmionkkdjaaGreatFO24
import Derived.Deep.CutBlock
import Derived.Deep.RegionHeld3
namespace Go.Proofs.YtaknfmionkkdjaaGreat
open Go.RowKit
set_option linter.unusedVariables false
/-- the variables of Apply: s, c, the two answers' -/
structure VarsO (w wx : World) (b : Nat) (a : OA) (s : Ob) (ca : CA) (c : Cm) : Prop where
  vs : Blk wx b 30 (objC a s)
  vc : Blk wx (b + 1) 38 (cmdC ca c)
  v2 : Blk wx (b + 1 + 1) 30 #[.slice none 0 0, .slice none 0 0, .slice none 0 0, .slice none 0 0]
  v3 : Blk wx (b + 1 + 1 + 1) 47 zeroR
  own : OwnO w wx a s
  bel : Below w.heap.size w wx
theorem OwnQ.grownI {W w w' : World} {A A' : Option Addr} {n c base' size' n' c' : Nat} {xs' : List Value} {qs : List (List Nat)} (h : OwnQ W w A n c qs) (ho : w.ownsRow base' 3 size' (.slice A' n' c') n' xs') (hg : w.grownBy w' (Value.slice A' n' c').ownBlock) : OwnQ W w' A n c qs := by
  obtain ⟨vs, h1, h2⟩ := h
  exact ⟨vs, own_grown_t h1 ho (by decide) hg, h2.len, fun i l hl => by obtain ⟨A, c, e, hq⟩ := h2.cell i l hl; exact ⟨A, c, e, own_grown_t hq ho (by decide) hg⟩⟩
theorem VarsO.below {w wx wy : World} {b : Nat} {a : OA} {s : Ob} {ca : CA} {c : Cm} (h : VarsO w wx b a s ca c) (hb : Below wx.heap.size wx wy) : VarsO w wy b a s ca c :=
  ⟨h.vs.below hb, h.vc.below hb, h.v2.below hb, h.v3.below hb, h.own.below hb, h.bel.trans (hb.mono h.bel.size)⟩
theorem VarsO.lt {w wx : World} {b : Nat} {a : OA} {s : Ob} {ca : CA} {c : Cm} (h : VarsO w wx b a s ca c) : b + 1 + 1 + 1 < wx.heap.size := h.v3.lt
section
variable {w wx : World} {b g : Nat} {a : OA} {s : Ob} {ca : CA} {c : Cm} {x0 x1 x2 : Value}
/-- the answer's variable is written -/
theorem VarsO.res (h : VarsO w wx b a s ca c) (hw : w.heap.size ≤ g) (hk : Blk wx g 47 #[x0, x1, x2]) (hg : g ≠ b + 1 + 1 + 1) (x y z : Value) :
    VarsO w (((wx.setCell ⟨g, 0, none⟩ x).setCell ⟨g, 1, none⟩ y).setCell ⟨g, 2, none⟩ z) b a s ca c ∧ Blk (((wx.setCell ⟨g, 0, none⟩ x).setCell ⟨g, 1, none⟩ y).setCell ⟨g, 2, none⟩ z) g 47 #[x, y, z] := by
  have q1 : 5 ≠ 47 := by decide
  have q2 : 26 ≠ 47 := by decide
  have q3 : 3 ≠ 47 := by decide
  have q4 : 55 ≠ 47 := by decide
  have n0 : b ≠ g := h.vs.apart hk (by decide)
  have n1 : b + 1 ≠ g := h.vc.apart hk (by decide)
  have n2 : b + 1 + 1 ≠ g := h.v2.apart hk (by decide)
  have k1 := hk.set_ 0 x
  have k2 := k1.set_ 1 y
  exact ⟨⟨((h.vs.set_other n0).set_other n0).set_other n0, ((h.vc.set_other n1).set_other n1).set_other n1, ((h.v2.set_other n2).set_other n2).set_other n2, ((h.v3.set_other hg.symm).set_other hg.symm).set_other hg.symm,
    ((h.own.set_t hk q1 q2 q3 q4).set_t k1 q1 q2 q3 q4).set_t k2 q1 q2 q3 q4, ((h.bel.setCell (p := ⟨g, 0, none⟩) hw _).setCell (p := ⟨g, 1, none⟩) hw _).setCell (p := ⟨g, 2, none⟩) hw _⟩, k2.set_ 2 z⟩
/-- a row of bytes of the call's own over the answer's variable -/
theorem own_res {A : Option Addr} {n cc : Nat} {l : List Nat} (h : OwnB w wx A n cc l) (hk : Blk wx g 47 #[x0, x1, x2]) (x y z : Value) : OwnB w (((wx.setCell ⟨g, 0, none⟩ x).setCell ⟨g, 1, none⟩ y).setCell ⟨g, 2, none⟩ z) A n cc l :=
  own_set_t (own_set_t (own_set_t h hk (by decide)) (hk.set_ 0 x) (by decide)) ((hk.set_ 0 x).set_ 1 y) (by decide)
/-- the objects' variable is written -/
theorem VarsO.set (h : VarsO w wx b a s ca c) (hw : w.heap.size ≤ b) (i : Nat) (u : Value) {a' : OA} {s' : Ob} (hc : (objC a s).setIfInBounds i u = objC a' s') (ho : OwnO w wx a' s') : VarsO w (wx.setCell ⟨b, i, none⟩ u) b a' s' ca c := by
  have q1 : 5 ≠ 30 := by decide
  have k1 := h.vs.set_ i u
  rw [hc] at k1
  exact ⟨k1, h.vc.set_other (by omega), h.v2.set_other (by omega), h.v3.set_other (by omega), ho.set_t h.vs q1 (by decide) (by decide) (by decide), h.bel.setCell (p := ⟨b, i, none⟩) hw _⟩
/-- the walk's end behind a call that only answers -/
theorem VarsO.done (h : VarsO w wx b a s ca c) (hk : Blk wx g 47 #[x0, x1, x2]) (hg : b ≠ g ∧ w.heap.size ≤ g ∧ g ≠ b + 1 + 1 + 1) {Ar : Option Addr} {cr : Nat} {v : List Nat} {e n : Int} (hv : OwnB w wx Ar v.length cr v) {r : Ans} (hr : r = ⟨s, e, v, n⟩) :
    ∃ a' Ar' cr', Hid (VarsO w (((wx.setCell ⟨g, 0, none⟩ (.int .i64 e)).setCell ⟨g, 1, none⟩ (.slice Ar v.length cr)).setCell ⟨g, 2, none⟩ (.int .i64 n)) b a' r.s ca c) ∧
      Hid (Blk (((wx.setCell ⟨g, 0, none⟩ (.int .i64 e)).setCell ⟨g, 1, none⟩ (.slice Ar v.length cr)).setCell ⟨g, 2, none⟩ (.int .i64 n)) g 47 #[.int .i64 r.e, .slice Ar' r.v.length cr', .int .i64 r.n]) ∧
      Hid (OwnB w (((wx.setCell ⟨g, 0, none⟩ (.int .i64 e)).setCell ⟨g, 1, none⟩ (.slice Ar v.length cr)).setCell ⟨g, 2, none⟩ (.int .i64 n)) Ar' r.v.length cr' r.v) := by
  subst hr
  obtain ⟨q1, q2⟩ := h.res hg.2.1 hk hg.2.2 (.int .i64 e) (.slice Ar v.length cr) (.int .i64 n)
  exact ⟨a, Ar, cr, Lib.hid q1, Lib.hid q2, Lib.hid (own_res hv hk _ _ _)⟩
/-- .. that makes one of the objects anew -/
theorem VarsO.doneSet (h : VarsO w wx b a s ca c) (hk : Blk wx g 47 #[x0, x1, x2]) (hg : b ≠ g ∧ w.heap.size ≤ g ∧ g ≠ b + 1 + 1 + 1) (hw : w.heap.size ≤ b) (i : Nat) (u : Value) (a' : OA) (s' : Ob) (hc : (objC a s).setIfInBounds i u = objC a' s') (ho : OwnO w wx a' s')
    {Ar : Option Addr} {cr : Nat} {v : List Nat} {e n : Int} (hv : OwnB w wx Ar v.length cr v) {r : Ans} (hr : r = ⟨s', e, v, n⟩) :
    ∃ a' Ar' cr', Hid (VarsO w ((((wx.setCell ⟨b, i, none⟩ u).setCell ⟨g, 0, none⟩ (.int .i64 e)).setCell ⟨g, 1, none⟩ (.slice Ar v.length cr)).setCell ⟨g, 2, none⟩ (.int .i64 n)) b a' r.s ca c) ∧
      Hid (Blk ((((wx.setCell ⟨b, i, none⟩ u).setCell ⟨g, 0, none⟩ (.int .i64 e)).setCell ⟨g, 1, none⟩ (.slice Ar v.length cr)).setCell ⟨g, 2, none⟩ (.int .i64 n)) g 47 #[.int .i64 r.e, .slice Ar' r.v.length cr', .int .i64 r.n]) ∧
      Hid (OwnB w ((((wx.setCell ⟨b, i, none⟩ u).setCell ⟨g, 0, none⟩ (.int .i64 e)).setCell ⟨g, 1, none⟩ (.slice Ar v.length cr)).setCell ⟨g, 2, none⟩ (.int .i64 n)) Ar' r.v.length cr' r.v) :=
  VarsO.done (h.set hw i u hc ho) (hk.set_other hg.1.symm) hg (own_set_t hv h.vs (by decide)) hr
end
theorem results_cells2 {P : Program} {fn : Func} {p q : Tmp} {ty ty' : TypeId} (h : fn.results = #[.cell p ty, .cell q ty']) (tmps : Array Value) (w : World) (g g' : Nat) (t t' : TypeId) (cs cs' : Array Value) (d d' : TypeDesc)
    (hp : tmps.getD p undef = .pointer (some ⟨g, 0, none⟩)) (hq : tmps.getD q undef = .pointer (some ⟨g', 0, none⟩)) (hg : Blk w g t cs) (hg' : Blk w g' t' cs')
    (hu : P.underlying ty = some d) (hd : (match d with | .struct _ | .array _ _ => true | _ => false) = true) (hi : (P.info? ty).map (·.size) = some cs.size)
    (hu' : P.underlying ty' = some d') (hd' : (match d' with | .struct _ | .array _ _ => true | _ => false) = true) (hi' : (P.info? ty').map (·.size) = some cs'.size) :
    (results fn tmps).run P w = .ok (.tuple #[.agg cs, .agg cs']) w := by
  have hp' : tmps[p]?.getD undef = .pointer (some ⟨g, 0, none⟩) := by simpa using hp
  have hq' : tmps[q]?.getD undef = .pointer (some ⟨g', 0, none⟩) := by simpa using hq
  simp [results, h, hp', hq', asAddr, run_loadVar_row w g t ty cs (0, 0) d hg hu hd hi, run_loadVar_row w g' t' ty' cs' (0, 0) d' hg' hu' hd' hi']
/-- the two answers' variables are written -/
theorem VarsO.end_ {w wx : World} {b : Nat} {a : OA} {s : Ob} {ca : CA} {c : Cm} (h : VarsO w wx b a s ca c) (hw : w.heap.size ≤ b) {Ar : Option Addr} {cr n : Nat} {v : List Nat} (hv : OwnB w wx Ar n cr v) (x0 x1 x2 x3 y0 y1 y2 : Value) :
    let wy := (((((((wx.setCell ⟨b + 1 + 1, 0, none⟩ x0).setCell ⟨b + 1 + 1, 1, none⟩ x1).setCell ⟨b + 1 + 1, 2, none⟩ x2).setCell ⟨b + 1 + 1, 3, none⟩ x3).setCell ⟨b + 1 + 1 + 1, 0, none⟩ y0).setCell ⟨b + 1 + 1 + 1, 1, none⟩ y1).setCell ⟨b + 1 + 1 + 1, 2, none⟩ y2)
    Blk wy (b + 1 + 1) 30 #[x0, x1, x2, x3] ∧ Blk wy (b + 1 + 1 + 1) 47 #[y0, y1, y2] ∧ OwnO w wy a s ∧ OwnB w wy Ar n cr v ∧ Below w.heap.size w wy := by
  intro wy
  have k0 := h.v2
  have k1 := k0.set_ 0 x0
  have k2 := k1.set_ 1 x1
  have k3 := k2.set_ 2 x2
  have k4 := k3.set_ 3 x3
  have l0 := (((h.v3.set_other (i := 0) (u := x0) (b := b + 1 + 1) (by omega)).set_other (i := 1) (u := x1) (b := b + 1 + 1) (by omega)).set_other (i := 2) (u := x2) (b := b + 1 + 1) (by omega)).set_other (i := 3) (u := x3) (b := b + 1 + 1) (by omega)
  have l1 := l0.set_ 0 y0
  have l2 := l1.set_ 1 y1
  have l3 := l2.set_ 2 y2
  have q1 : 5 ≠ 30 := by decide
  have q2 : 26 ≠ 30 := by decide
  have q3 : 3 ≠ 30 := by decide
  have q4 : 55 ≠ 30 := by decide
  have r1 : 5 ≠ 47 := by decide
  have r2 : 26 ≠ 47 := by decide
  have r3 : 3 ≠ 47 := by decide
  have r4 : 55 ≠ 47 := by decide
  have hw2 : w.heap.size ≤ b + 1 + 1 := by omega
  have hw3 : w.heap.size ≤ b + 1 + 1 + 1 := by omega
  refine ⟨((k4.set_other (i := 0) (u := y0) (b := b + 1 + 1 + 1) (by omega)).set_other (i := 1) (u := y1) (b := b + 1 + 1 + 1) (by omega)).set_other (i := 2) (u := y2) (b := b + 1 + 1 + 1) (by omega), l3,
    ((((((h.own.set_t k0 q1 q2 q3 q4).set_t k1 q1 q2 q3 q4).set_t k2 q1 q2 q3 q4).set_t k3 q1 q2 q3 q4).set_t l0 r1 r2 r3 r4).set_t l1 r1 r2 r3 r4).set_t l2 r1 r2 r3 r4,
    own_set_t (own_set_t (own_set_t (own_set_t (own_set_t (own_set_t (own_set_t hv k0 q1) k1 q1) k2 q1) k3 q1) l0 r1) l1 r1) l2 r1,
    ((((((h.bel.setCell (p := ⟨b + 1 + 1, 0, none⟩) hw2 _).setCell (p := ⟨b + 1 + 1, 1, none⟩) hw2 _).setCell (p := ⟨b + 1 + 1, 2, none⟩) hw2 _).setCell (p := ⟨b + 1 + 1, 3, none⟩) hw2 _).setCell (p := ⟨b + 1 + 1 + 1, 0, none⟩) hw3 _).setCell (p := ⟨b + 1 + 1 + 1, 1, none⟩) hw3 _).setCell (p := ⟨b + 1 + 1 + 1, 2, none⟩) hw3 _⟩
set_option maxHeartbeats 8000000 in
set_option maxRecDepth 100000 in
theorem refApply_raw {w : World} {a : OA} {ca : CA} {s : Ob} {c : Cm} {B B' : Nat} (hI : s.Inv) (hc : c.Fits) (h : RdO w B a s) (h' : RdC w B' ca c) :
    Calls Tryz.prog 56 #[objV a s, cmdV ca c] w (GotO w w (s.apply c)) := by
  obtain ⟨A0, c0, A1, c1, A2, c2, A3, c3⟩ := a
  obtain ⟨Ak, ck, Av, cv, Ao, co⟩ := ca
  have HI := Lib.hid hI
  have HF := Lib.hid hc
  obtain ⟨b, hb⟩ : ∃ b, w.heap.size = b := ⟨_, rfl⟩
  obtain ⟨wz, hwz⟩ : ∃ wz, (((w.alloc (.cells (objC ⟨A0, c0, A1, c1, A2, c2, A3, c3⟩ s) 30)).alloc (.cells (cmdC ⟨Ak, ck, Av, cv, Ao, co⟩ c) 38)).alloc (.cells #[.slice none 0 0, .slice none 0 0, .slice none 0 0, .slice none 0 0] 30)).alloc (.cells zeroR 47) = wz := ⟨_, rfl⟩
  have hbz : Below w.heap.size w wz := by
    rw [← hwz]; exact ((((Below.refl _ _).alloc (Nat.le_refl _) _).alloc (by simp) _).alloc (by simp; omega) _).alloc (by simp; omega) _
  have H := Lib.hid ((h.fit.below hbz).fit)
  have H' := Lib.hid ((h'.fit.below hbz).fit)
  have HC0 := Lib.hid h'.fit
  have HBZ := Lib.hid hbz
  have HV : Hid (Blk wz b 30 (objC ⟨A0, c0, A1, c1, A2, c2, A3, c3⟩ s) ∧ Blk wz (b + 1) 38 (cmdC ⟨Ak, ck, Av, cv, Ao, co⟩ c) ∧ Blk wz (b + 1 + 1) 30 #[.slice none 0 0, .slice none 0 0, .slice none 0 0, .slice none 0 0] ∧ Blk wz (b + 1 + 1 + 1) 47 zeroR) := Lib.hid (by
    subst hb
    rw [← hwz]
    refine ⟨(((Blk.new _ _ _).alloc _).alloc _).alloc _, ?_, ?_, ?_⟩
    · have := ((Blk.new (w.alloc (.cells (objC ⟨A0, c0, A1, c1, A2, c2, A3, c3⟩ s) 30)) 38 (cmdC ⟨Ak, ck, Av, cv, Ao, co⟩ c)).alloc (.cells #[.slice none 0 0, .slice none 0 0, .slice none 0 0, .slice none 0 0] 30)).alloc (.cells zeroR 47)
      rwa [World.size_alloc] at this
    · have := (Blk.new ((w.alloc (.cells (objC ⟨A0, c0, A1, c1, A2, c2, A3, c3⟩ s) 30)).alloc (.cells (cmdC ⟨Ak, ck, Av, cv, Ao, co⟩ c) 38)) 30 #[.slice none 0 0, .slice none 0 0, .slice none 0 0, .slice none 0 0]).alloc (.cells zeroR 47)
      rwa [World.size_alloc, World.size_alloc] at this
    · have := Blk.new (((w.alloc (.cells (objC ⟨A0, c0, A1, c1, A2, c2, A3, c3⟩ s) 30)).alloc (.cells (cmdC ⟨Ak, ck, Av, cv, Ao, co⟩ c) 38)).alloc (.cells #[.slice none 0 0, .slice none 0 0, .slice none 0 0, .slice none 0 0] 30)) 47 zeroR
      rwa [World.size_alloc, World.size_alloc, World.size_alloc] at this)
  have HW := Lib.hid hwz
  have HBB := Lib.hid hb
  clear h h' hI hc hbz hwz hb
  unfold objV cmdV
  simp only [objC, cmdC] at HW ⊢
  go_enter Tryz.func56, Tryz.ntmps56
  go_upto_region 1 with fail
  rw [HBB.out]
  rw [HW.out]
  go_cut [] from 8 to 21 (fun wx => ∃ a', Hid (VarsO w wx b a' s ⟨Ak, ck, Av, cv, Ao, co⟩ c))
  case first =>
    have fin : ∀ (A5 : Option Addr) (c5 : Nat) (A6 : Option Addr) (c6 : Nat) (A7 : Option Addr) (c7 : Nat) (A8 : Option Addr) (c8 : Nat) (wx : World), Below wz.heap.size wz wx → OwnB wz wx A5 s.reg.length c5 s.reg → OwnQ wz wx A6 s.q.length c6 s.q → OwnI wz wx A7 s.lk.length c7 s.lk → OwnP wz wx A8 s.mp.length c8 s.mp →
        ∃ a', Hid (VarsO w ((((wx.setCell ⟨b, 0, none⟩ (.slice A5 s.reg.length c5)).setCell ⟨b, 1, none⟩ (.slice A6 s.q.length c6)).setCell ⟨b, 2, none⟩ (.slice A7 s.lk.length c7)).setCell ⟨b, 3, none⟩ (.slice A8 s.mp.length c8)) b a' s ⟨Ak, ck, Av, cv, Ao, co⟩ c) := fun A5 c5 A6 c6 A7 c7 A8 c8 wx hS h5 h6 h7 h8 => by
      have k0 := HV.out.1.below hS
      have ho : OwnO wz wx ⟨A5, c5, A6, c6, A7, c7, A8, c8⟩ s := ⟨h5, h6, h7, h8⟩
      have q1 : 5 ≠ 30 := by decide
      have q2 : 26 ≠ 30 := by decide
      have q3 : 3 ≠ 30 := by decide
      have q4 : 55 ≠ 30 := by decide
      have k1 := k0.set_ 0 (.slice A5 s.reg.length c5)
      have k2 := k1.set_ 1 (.slice A6 s.q.length c6)
      have k3 := k2.set_ 2 (.slice A7 s.lk.length c7)
      have k4 := k3.set_ 3 (.slice A8 s.mp.length c8)
      have hs := HBZ.out.size
      have hwb : w.heap.size ≤ b := by have := HBB.out; omega
      have hw : Below w.heap.size w wx := HBZ.out.trans (hS.mono hs)
      refine ⟨⟨A5, c5, A6, c6, A7, c7, A8, c8⟩, Lib.hid ⟨k4, ?_, ?_, ?_, (((((ho.set_t k0 q1 q2 q3 q4).set_t k1 q1 q2 q3 q4).set_t k2 q1 q2 q3 q4).set_t k3 q1 q2 q3 q4)).of hs, (((hw.setCell (p := ⟨b, 0, none⟩) hwb _).setCell (p := ⟨b, 1, none⟩) hwb _).setCell (p := ⟨b, 2, none⟩) hwb _).setCell (p := ⟨b, 3, none⟩) hwb _⟩⟩
      · exact ((((HV.out.2.1.below hS).set_other (by omega)).set_other (by omega)).set_other (by omega)).set_other (by omega)
      · exact ((((HV.out.2.2.1.below hS).set_other (by omega)).set_other (by omega)).set_other (by omega)).set_other (by omega)
      · exact ((((HV.out.2.2.2.below hS).set_other (by omega)).set_other (by omega)).set_other (by omega)).set_other (by omega)
    refine region_T (n := 14) (S := fun w' => Below wz.heap.size wz w') (by kernel_rfl) ?_
    have hS0 : Below wz.heap.size wz wz.drew := (Below.refl _ _).drew
    generalize wz.drew = w4 at hS0 ⊢
    have hS := Lib.hid hS0
    clear hS0
    refine AnyT.take (i := 0) (v := .pointer (some ⟨b, 0, none⟩)) rfl (by kernel_rfl) (by kernel_rfl) (by kernel_rfl) (by kernel_rfl) (fun _ _ _ h => h) (Or.inl ⟨by kernel_rfl, fun w _ => by go_simp⟩) hS.out ?_
    refine AnyT.take (i := 3) (v := .pointer (some ⟨b, 1, none⟩)) rfl (by kernel_rfl) (by kernel_rfl) (by kernel_rfl) (by kernel_rfl) (fun _ _ _ h => h) (Or.inl ⟨by kernel_rfl, fun w _ => by go_simp⟩) hS.out ?_
    refine AnyT.take (i := 7) (v := .pointer (some ⟨b, 2, none⟩)) rfl (by kernel_rfl) (by kernel_rfl) (by kernel_rfl) (by kernel_rfl) (fun _ _ _ h => h) (Or.inl ⟨by kernel_rfl, fun w _ => by go_simp⟩) hS.out ?_
    refine AnyT.take (i := 10) (v := .pointer (some ⟨b, 3, none⟩)) rfl (by kernel_rfl) (by kernel_rfl) (by kernel_rfl) (by kernel_rfl) (fun _ _ _ h => h) (Or.inl ⟨by kernel_rfl, fun w _ => by go_simp⟩) hS.out ?_
    refine AnyT.take (i := 1) (v := .slice A0 s.reg.length c0) rfl (by kernel_rfl) (by kernel_rfl) (by kernel_rfl) (by kernel_rfl) (fun _ _ _ h => h) (Or.inl ⟨by kernel_rfl, fun w h => by have q := (Below.cell h (p := ⟨b, 0, none⟩) HV.out.1.lt).trans (HV.out.1.cell 0); simp only [objC] at q; go_simp⟩) hS.out ?_
    refine AnyT.take (i := 4) (v := .slice A1 s.q.length c1) rfl (by kernel_rfl) (by kernel_rfl) (by kernel_rfl) (by kernel_rfl) (fun _ _ _ h => h) (Or.inl ⟨by kernel_rfl, fun w h => by have q := (Below.cell h (p := ⟨b, 1, none⟩) HV.out.1.lt).trans (HV.out.1.cell 1); simp only [objC] at q; go_simp⟩) hS.out ?_
    refine AnyT.take (i := 8) (v := .slice A2 s.lk.length c2) rfl (by kernel_rfl) (by kernel_rfl) (by kernel_rfl) (by kernel_rfl) (fun _ _ _ h => h) (Or.inl ⟨by kernel_rfl, fun w h => by have q := (Below.cell h (p := ⟨b, 2, none⟩) HV.out.1.lt).trans (HV.out.1.cell 2); simp only [objC] at q; go_simp⟩) hS.out ?_
    refine AnyT.take (i := 11) (v := .slice A3 s.mp.length c3) rfl (by kernel_rfl) (by kernel_rfl) (by kernel_rfl) (by kernel_rfl) (fun _ _ _ h => h) (Or.inl ⟨by kernel_rfl, fun w h => by have q := (Below.cell h (p := ⟨b, 3, none⟩) HV.out.1.lt).trans (HV.out.1.cell 3); simp only [objC] at q; go_simp⟩) hS.out ?_
    have hLr : Lim 0 s.reg.length := by have := HI.out.reg; unfold Lim; omega
    have hLqn : s.q.length ≤ 100000 := by have := HI.out.ql; omega
    have hLq : LimL s.q := fun l hl => by have := HI.out.qv l hl; unfold Lim; omega
    have hll : s.lk.length ≤ 5 := HI.out.lkl
    have hLmn : s.mp.length ≤ 100000 := by have := HI.out.mp.few; omega
    have hLm : LimP s.mp := fun p hp => by have := HI.out.mp.len p hp; unfold Lim; exact ⟨by omega, by omega⟩
    refine AnyT.ready (rs := [2, 6]) (by kernel_rfl) (by simp) ?_
    refine AllT.cons rfl (fun K hK => ?_) (AllT.cons rfl (fun K hK => ?_) AllT.nil)
    · go_simp
      refine (ownref_any (W := wz) (l := s.reg) hLr (H.out.r0.below hS.out) hS.out).mono ?_
      rintro e w5 ⟨A5, c5, rfl, ho5, hB5, hb5⟩
      have hS := Lib.hid (hS.out.trans (hb5.mono hS.out.size))
      go_simp
      refine hK.out _ _ (Or.inr (hS.out)) (fun _ => ?_)
      clear hK K
      refine AnyT.ready (rs := [5, 6]) (by kernel_rfl) (by simp) ?_
      refine AllT.cons rfl (fun K hK => ?_) (AllT.cons rfl (fun K hK => ?_) AllT.nil)
      · go_simp
        refine (refRows_any (W := wz) (qs := s.q) hLqn hLq (H.out.r1.below hS.out) hS.out).mono ?_
        rintro e w6 ⟨A6, c6, rfl, ho6, hB6, hb6⟩
        have hS := Lib.hid (hS.out.trans (hb6.mono hS.out.size))
        have ho5 := own_below ho5 hb6
        go_simp
        refine hK.out _ _ (Or.inr (hS.out)) (fun _ => ?_)
        clear hK K
        refine AnyT.ready (rs := [6]) (by kernel_rfl) (by simp) ?_
        refine AllT.cons rfl (fun K hK => ?_) AllT.nil
        go_simp
        obtain ⟨gE, hgE⟩ : ∃ g, w6.heap.size = g := ⟨_, rfl⟩
        rw [hgE]
        have hoE : OwnI wz (w6.alloc (.cells #[] 3)) (some ⟨gE, 0, none⟩) 0 0 [] := ownI_at hS.out hgE
        have hbE : Below w6.heap.size w6 (w6.alloc (.cells #[] 3)) := (Below.refl _ _).alloc (Nat.le_refl _) _
        have hS := Lib.hid (hS.out.trans (hbE.mono hS.out.size))
        have ho5 := own_below ho5 hbE
        have ho6 := ho6.below hbE
        go_simp
        refine hK.out _ _ (Or.inr (hS.out)) (fun _ => ?_)
        clear hK K
        refine AnyT.ready (rs := [9]) (by kernel_rfl) (by simp) ?_
        refine AllT.cons rfl (fun K hK => ?_) AllT.nil
        refine step_append_cells (W := wz) (c' := c2) cellI (.tmp 14) (.tmp 16) rfl rfl (by kernel_rfl) hoE (by kernel_rfl) (H.out.r2.below hS.out) (iv_one _) (by omega) (by omega) hS.out ?_
        intro A7 c7 w7 ho7 hB7 hg7
        have ho5 : OwnB wz w7 A5 s.reg.length c5 s.reg := own_grown_t ho5 hoE (by decide) hg7
        have ho6 : OwnQ wz w7 A6 s.q.length c6 s.q := ho6.grownI hoE hg7
        have hS := Lib.hid hB7
        rw [Nat.zero_add]
        simp only [Nat.zero_add, iv, List.map_nil, List.nil_append] at ho7
        refine hK.out _ _ (Or.inr (hS.out)) (fun _ => ?_)
        clear hK K
        refine AnyT.ready (rs := [12]) (by kernel_rfl) (by simp) ?_
        refine AllT.cons rfl (fun K hK => ?_) AllT.nil
        go_simp
        refine (refPairs_any (W := wz) (ps := s.mp) hLmn hLm (H.out.r3.below hS.out) hS.out).mono ?_
        rintro e w8 ⟨A8, c8, rfl, ho8, hB8, hb8⟩
        have hS := Lib.hid (hS.out.trans (hb8.mono hS.out.size))
        have ho5 := own_below ho5 hb8
        have ho6 := ho6.below hb8
        have ho7 := ownsRow_below ho7 hb8
        have hk := HV.out.1.below hS.out
        simp only [objC] at hk
        obtain ⟨x0, x1, x2, x3, f0, f1, f2, f3⟩ := four hk
        go_simp
        refine hK.out _ _ (Or.inr (hS.out)) (fun _ => ?_)
        clear hK K
        refine AnyT.take (i := 13) (v := .agg #[.slice A5 s.reg.length c5, .slice A6 s.q.length c6, .slice A7 s.lk.length c7, .slice A8 s.mp.length c8]) rfl (by kernel_rfl) (by kernel_rfl) (by kernel_rfl) (by kernel_rfl) (fun _ _ _ h => h) (Or.inl ⟨by kernel_rfl, fun w _ => by go_simp⟩) hS.out ?_
        refine AnyT.ready (rs := [14]) (by kernel_rfl) (by simp) ?_
        refine AllT.cons rfl (fun K hK => ?_) AllT.nil
        go_simp
        refine hK.out _ _ (Or.inl rfl) (fun _ => ?_)
        clear hK K
        refine AnyT.done (by kernel_rfl) ?_ _
        go_wp2_with fail
        go_meet
        exact fin _ _ _ _ _ _ _ _ _ hS.out ho5 ho6 ho7 ho8
      · go_simp
        obtain ⟨gE, hgE⟩ : ∃ g, w5.heap.size = g := ⟨_, rfl⟩
        rw [hgE]
        have hoE : OwnI wz (w5.alloc (.cells #[] 3)) (some ⟨gE, 0, none⟩) 0 0 [] := ownI_at hS.out hgE
        have hbE : Below w5.heap.size w5 (w5.alloc (.cells #[] 3)) := (Below.refl _ _).alloc (Nat.le_refl _) _
        have hS := Lib.hid (hS.out.trans (hbE.mono hS.out.size))
        have ho5 := own_below ho5 hbE
        go_simp
        refine hK.out _ _ (Or.inr (hS.out)) (fun _ => ?_)
        clear hK K
        refine AnyT.ready (rs := [5]) (by kernel_rfl) (by simp) ?_
        refine AllT.cons rfl (fun K hK => ?_) AllT.nil
        go_simp
        refine (refRows_any (W := wz) (qs := s.q) hLqn hLq (H.out.r1.below hS.out) hS.out).mono ?_
        rintro e w6 ⟨A6, c6, rfl, ho6, hB6, hb6⟩
        have hS := Lib.hid (hS.out.trans (hb6.mono hS.out.size))
        have ho5 := own_below ho5 hb6
        have hoE := ownsRow_below hoE hb6
        go_simp
        refine hK.out _ _ (Or.inr (hS.out)) (fun _ => ?_)
        clear hK K
        refine AnyT.ready (rs := [9]) (by kernel_rfl) (by simp) ?_
        refine AllT.cons rfl (fun K hK => ?_) AllT.nil
        refine step_append_cells (W := wz) (c' := c2) cellI (.tmp 14) (.tmp 16) rfl rfl (by kernel_rfl) hoE (by kernel_rfl) (H.out.r2.below hS.out) (iv_one _) (by omega) (by omega) hS.out ?_
        intro A7 c7 w7 ho7 hB7 hg7
        have ho5 : OwnB wz w7 A5 s.reg.length c5 s.reg := own_grown_t ho5 hoE (by decide) hg7
        have ho6 : OwnQ wz w7 A6 s.q.length c6 s.q := ho6.grownI hoE hg7
        have hS := Lib.hid hB7
        rw [Nat.zero_add]
        simp only [Nat.zero_add, iv, List.map_nil, List.nil_append] at ho7
        refine hK.out _ _ (Or.inr (hS.out)) (fun _ => ?_)
        clear hK K
        refine AnyT.ready (rs := [12]) (by kernel_rfl) (by simp) ?_
        refine AllT.cons rfl (fun K hK => ?_) AllT.nil
        go_simp
        refine (refPairs_any (W := wz) (ps := s.mp) hLmn hLm (H.out.r3.below hS.out) hS.out).mono ?_
        rintro e w8 ⟨A8, c8, rfl, ho8, hB8, hb8⟩
        have hS := Lib.hid (hS.out.trans (hb8.mono hS.out.size))
        have ho5 := own_below ho5 hb8
        have ho6 := ho6.below hb8
        have ho7 := ownsRow_below ho7 hb8
        have hk := HV.out.1.below hS.out
        simp only [objC] at hk
        obtain ⟨x0, x1, x2, x3, f0, f1, f2, f3⟩ := four hk
        go_simp
        refine hK.out _ _ (Or.inr (hS.out)) (fun _ => ?_)
        clear hK K
        refine AnyT.take (i := 13) (v := .agg #[.slice A5 s.reg.length c5, .slice A6 s.q.length c6, .slice A7 s.lk.length c7, .slice A8 s.mp.length c8]) rfl (by kernel_rfl) (by kernel_rfl) (by kernel_rfl) (by kernel_rfl) (fun _ _ _ h => h) (Or.inl ⟨by kernel_rfl, fun w _ => by go_simp⟩) hS.out ?_
        refine AnyT.ready (rs := [14]) (by kernel_rfl) (by simp) ?_
        refine AllT.cons rfl (fun K hK => ?_) AllT.nil
        go_simp
        refine hK.out _ _ (Or.inl rfl) (fun _ => ?_)
        clear hK K
        refine AnyT.done (by kernel_rfl) ?_ _
        go_wp2_with fail
        go_meet
        exact fin _ _ _ _ _ _ _ _ _ hS.out ho5 ho6 ho7 ho8
    · go_simp
      obtain ⟨gE, hgE⟩ : ∃ g, w4.heap.size = g := ⟨_, rfl⟩
      rw [hgE]
      have hoE : OwnI wz (w4.alloc (.cells #[] 3)) (some ⟨gE, 0, none⟩) 0 0 [] := ownI_at hS.out hgE
      have hbE : Below w4.heap.size w4 (w4.alloc (.cells #[] 3)) := (Below.refl _ _).alloc (Nat.le_refl _) _
      have hS := Lib.hid (hS.out.trans (hbE.mono hS.out.size))
      go_simp
      refine hK.out _ _ (Or.inr (hS.out)) (fun _ => ?_)
      clear hK K
      refine AnyT.ready (rs := [2]) (by kernel_rfl) (by simp) ?_
      refine AllT.cons rfl (fun K hK => ?_) AllT.nil
      go_simp
      refine (ownref_any (W := wz) (l := s.reg) hLr (H.out.r0.below hS.out) hS.out).mono ?_
      rintro e w5 ⟨A5, c5, rfl, ho5, hB5, hb5⟩
      have hS := Lib.hid (hS.out.trans (hb5.mono hS.out.size))
      have hoE := ownsRow_below hoE hb5
      go_simp
      refine hK.out _ _ (Or.inr (hS.out)) (fun _ => ?_)
      clear hK K
      refine AnyT.ready (rs := [5]) (by kernel_rfl) (by simp) ?_
      refine AllT.cons rfl (fun K hK => ?_) AllT.nil
      go_simp
      refine (refRows_any (W := wz) (qs := s.q) hLqn hLq (H.out.r1.below hS.out) hS.out).mono ?_
      rintro e w6 ⟨A6, c6, rfl, ho6, hB6, hb6⟩
      have hS := Lib.hid (hS.out.trans (hb6.mono hS.out.size))
      have ho5 := own_below ho5 hb6
      have hoE := ownsRow_below hoE hb6
      go_simp
      refine hK.out _ _ (Or.inr (hS.out)) (fun _ => ?_)
      clear hK K
      refine AnyT.ready (rs := [9]) (by kernel_rfl) (by simp) ?_
      refine AllT.cons rfl (fun K hK => ?_) AllT.nil
      refine step_append_cells (W := wz) (c' := c2) cellI (.tmp 14) (.tmp 16) rfl rfl (by kernel_rfl) hoE (by kernel_rfl) (H.out.r2.below hS.out) (iv_one _) (by omega) (by omega) hS.out ?_
      intro A7 c7 w7 ho7 hB7 hg7
      have ho5 : OwnB wz w7 A5 s.reg.length c5 s.reg := own_grown_t ho5 hoE (by decide) hg7
      have ho6 : OwnQ wz w7 A6 s.q.length c6 s.q := ho6.grownI hoE hg7
      have hS := Lib.hid hB7
      rw [Nat.zero_add]
      simp only [Nat.zero_add, iv, List.map_nil, List.nil_append] at ho7
      refine hK.out _ _ (Or.inr (hS.out)) (fun _ => ?_)
      clear hK K
      refine AnyT.ready (rs := [12]) (by kernel_rfl) (by simp) ?_
      refine AllT.cons rfl (fun K hK => ?_) AllT.nil
      go_simp
      refine (refPairs_any (W := wz) (ps := s.mp) hLmn hLm (H.out.r3.below hS.out) hS.out).mono ?_
      rintro e w8 ⟨A8, c8, rfl, ho8, hB8, hb8⟩
      have hS := Lib.hid (hS.out.trans (hb8.mono hS.out.size))
      have ho5 := own_below ho5 hb8
      have ho6 := ho6.below hb8
      have ho7 := ownsRow_below ho7 hb8
      have hk := HV.out.1.below hS.out
      simp only [objC] at hk
      obtain ⟨x0, x1, x2, x3, f0, f1, f2, f3⟩ := four hk
      go_simp
      refine hK.out _ _ (Or.inr (hS.out)) (fun _ => ?_)
      clear hK K
      refine AnyT.take (i := 13) (v := .agg #[.slice A5 s.reg.length c5, .slice A6 s.q.length c6, .slice A7 s.lk.length c7, .slice A8 s.mp.length c8]) rfl (by kernel_rfl) (by kernel_rfl) (by kernel_rfl) (by kernel_rfl) (fun _ _ _ h => h) (Or.inl ⟨by kernel_rfl, fun w _ => by go_simp⟩) hS.out ?_
      refine AnyT.ready (rs := [14]) (by kernel_rfl) (by simp) ?_
      refine AllT.cons rfl (fun K hK => ?_) AllT.nil
      go_simp
      refine hK.out _ _ (Or.inl rfl) (fun _ => ?_)
      clear hK K
      refine AnyT.done (by kernel_rfl) ?_ _
      go_wp2_with fail
      go_meet
      exact fin _ _ _ _ _ _ _ _ _ hS.out ho5 ho6 ho7 ho8
  case rest =>
    obtain ⟨⟨A5, c5, A6, c6, A7, c7, A8, c8⟩, HX⟩ := hcut
    have HWB := Lib.hid (show w.heap.size ≤ b by have := HBB.out; omega)
    clear H H' HV HW HBZ
    rename World => w1
    go_upto_region 3 with (first
      | (go_at_call 69; refine (bad_any _ 7).mono ?_; rintro e w2 ⟨rfl, hb2⟩; unfold resV)
      | fail)
    have hb3 : Below w2.heap.size w2 (w2.alloc (.cells #[.int .i64 7, .slice none 0 0, .int .i64 0] 47)) := (Below.refl _ _).alloc (Nat.le_refl _) _
    have HX3 := Lib.hid ((HX.out.below hb2).below hb3)
    have HK3 := Lib.hid (Blk.new w2 47 #[.int .i64 7, .slice none 0 0, .int .i64 0])
    obtain ⟨w3, hw3⟩ : ∃ x, w2.alloc (.cells #[.int .i64 7, .slice none 0 0, .int .i64 0] 47) = x := ⟨_, rfl⟩
    obtain ⟨g, hg⟩ : ∃ x, w2.heap.size = x := ⟨_, rfl⟩
    have HGB : Hid (b ≠ g ∧ w.heap.size ≤ g ∧ g ≠ b + 1 + 1 + 1) := Lib.hid (by have h1 := HX.out.lt; have h2 := hb2.size; have h3 := HWB.out; omega)
    rw [hw3] at HX3
    rw [hw3, hg] at HK3
    rw [hw3, hg]
    clear hb2 hb3 hw3 hg HX
    have hy := HX3.out.vc
    simp only [cmdC] at hy
    obtain ⟨y0, y1, y2, y3, y4⟩ := five hy
    have hx := HX3.out.vs
    simp only [objC] at hx
    obtain ⟨p0, p1, p2, p3, _, _, _, _⟩ := four hx
    clear hx hy
    have HLM : Hid (LimP s.mp) := Lib.hid (fun p hp => by have := HI.out.mp.len p hp; unfold Lim; exact ⟨by omega, by omega⟩)
    obtain ⟨oo, hoo⟩ : ∃ o : Bool, decide (0 ≤ c.who ∧ c.who ≤ 999) = o := ⟨_, rfl⟩
    have HOO := Lib.hid hoo
    clear hoo
    have hgb : g ≠ b := HGB.out.1.symm
    have hbg : b ≠ g := HGB.out.1
    go_cut [7] from 23 to 30 (fun s7 wx => s7 = .bool oo ∧ wx = w3)
    case first =>
      by_cases h1 : 0 ≤ c.who
      · by_cases h2 : c.who ≤ 999
        · go_wp2_with fail
          go_meet
          exact ⟨by rw [← HOO.out, decide_eq_true (show 0 ≤ c.who ∧ c.who ≤ 999 from ⟨h1, h2⟩)], rfl⟩
        · go_wp2_with fail
          go_meet
          exact ⟨by rw [← HOO.out, decide_eq_false (show ¬ (0 ≤ c.who ∧ c.who ≤ 999) by omega)], rfl⟩
      · go_wp2_with fail
        go_meet
        exact ⟨by rw [← HOO.out, decide_eq_false (show ¬ (0 ≤ c.who ∧ c.who ≤ 999) by omega)], rfl⟩
    case rest =>
      obtain ⟨rfl, rfl⟩ := hcut
      rename World => w3
      go_upto_block 0 with fail
      go_cut [] from 33 to 141 (fun wx => ∃ a' Ar cr, Hid (VarsO w wx b a' (s.apply c).s ⟨Ak, ck, Av, cv, Ao, co⟩ c) ∧ Hid (Blk wx g 47 #[.int .i64 (s.apply c).e, .slice Ar (s.apply c).v.length cr, .int .i64 (s.apply c).n]) ∧ Hid (OwnB w wx Ar (s.apply c).v.length cr (s.apply c).v))
      case first =>
        by_cases hkk : c.kind = 1
        · have k1 : (c.kind == 1) = true := by simp; omega
          obtain ⟨r, hr⟩ : ∃ r, s.apply c = r := ⟨_, rfl⟩
          have hr2 := hr
          unfold Ob.apply at hr2
          rw [if_pos (by omega)] at hr2
          have hcall := refRead_any (W := w) (c := c5) (by have := HI.out.reg; unfold Lim; omega) HX3.out.own.rd.r0 HX3.out.bel
          have HR := Lib.hid (hr.trans hr2.symm)
          have HCALL := Lib.hid hcall
          clear hr hr2 hkk hcall
          go_wp2_with (first
            | (go_at_call 75; refine HCALL.out.mono ?_; rintro e w4 ⟨Ar, cr, rfl, hv4, hB4, hb4⟩; unfold resV; have HX4 := Lib.hid (HX3.out.below hb4); have HK4 := Lib.hid (HK3.out.below hb4); have hx := HX4.out.vs; simp only [objC] at hx; obtain ⟨p0, p1, p2, p3, e0, e1, e2, e3⟩ := four hx; obtain ⟨z0, z1, z2, d0, d1, d2⟩ := three HK4.out; clear hx)
            | fail)
          go_meet
          exact HX4.out.done HK4.out HGB.out hv4 HR.out
        by_cases hkk : c.kind = 2
        · have k1 : (c.kind == 1) = false := by simp; omega
          have k2 : (c.kind == 2) = true := by simp; omega
          obtain ⟨r, hr⟩ : ∃ r, s.apply c = r := ⟨_, rfl⟩
          have hr2 := hr
          unfold Ob.apply at hr2
          rw [if_neg (by omega), if_pos (by omega)] at hr2
          have hcall := refWrite_any (W := w) (c := c5) (c' := cv) (by have := HI.out.reg; unfold Lim; omega) (by have := HF.out.val.1; unfold Lim; omega) HX3.out.own.rd.r0 (HC0.out.below HX3.out.bel).rv HX3.out.bel
          obtain ⟨l2, hl2⟩ : ∃ x, (if c.val.length ≤ 16 then c.val else s.reg) = x := ⟨_, rfl⟩
          obtain ⟨e2, he2⟩ : ∃ x, (if c.val.length ≤ 16 then (0 : Int) else 1) = x := ⟨_, rfl⟩
          rw [hl2, he2] at hr2 hcall
          have HR := Lib.hid (hr.trans hr2.symm)
          have HCALL := Lib.hid hcall
          clear hr hr2 hkk hcall hl2 he2
          go_wp2_with (first
            | (go_at_call 76; refine HCALL.out.mono ?_; rintro e w4 ⟨An, cn, Ar, cr, rfl, ho4, hv4, hB4, hb4⟩; unfold resV; have HX4 := Lib.hid (HX3.out.below hb4); have HK4 := Lib.hid (HK3.out.below hb4); have hx := HX4.out.vs; simp only [objC] at hx; obtain ⟨p0, p1, p2, p3, e0, e1, e2, e3⟩ := four hx; obtain ⟨z0, z1, z2, d0, d1, d2⟩ := three HK4.out; clear hx)
            | fail)
          go_meet
          exact HX4.out.doneSet HK4.out HGB.out HWB.out 0 (.slice An l2.length cn) ⟨An, cn, A6, c6, A7, c7, A8, c8⟩ { s with reg := l2 } rfl ⟨ho4, HX4.out.own.o1, HX4.out.own.o2, HX4.out.own.o3⟩ hv4 HR.out
        by_cases hkk : c.kind = 3
        · have k1 : (c.kind == 1) = false := by simp; omega
          have k2 : (c.kind == 2) = false := by simp; omega
          have k3 : (c.kind == 3) = true := by simp; omega
          obtain ⟨r, hr⟩ : ∃ r, s.apply c = r := ⟨_, rfl⟩
          have hr2 := hr
          unfold Ob.apply at hr2
          rw [if_neg (by omega), if_neg (by omega), if_pos (by omega)] at hr2
          have hcall := refCas_any (W := w) (c := c5) (c' := cv) (c2 := co) (by have := HI.out.reg; unfold Lim; omega) (by have := HF.out.val.1; unfold Lim; omega) HI.out.regb HF.out.old.2 HX3.out.own.rd.r0 (HC0.out.below HX3.out.bel).rv (HC0.out.below HX3.out.bel).ro HX3.out.bel
          obtain ⟨l2, hl2⟩ : ∃ x, casS s.reg c.old c.val = x := ⟨_, rfl⟩
          obtain ⟨e2, he2⟩ : ∃ x, casE s.reg c.old c.val = x := ⟨_, rfl⟩
          obtain ⟨v2, hv2⟩ : ∃ x, casV s.reg c.old c.val = x := ⟨_, rfl⟩
          rw [hl2, he2, hv2] at hr2 hcall
          have HR := Lib.hid (hr.trans hr2.symm)
          have HCALL := Lib.hid hcall
          clear hr hr2 hkk hcall hl2 he2 hv2
          go_wp2_with (first
            | (go_at_call 77; refine HCALL.out.mono ?_; rintro e w4 ⟨An, cn, Ar, cr, rfl, ho4, hv4, hB4, hb4⟩; unfold resV; have HX4 := Lib.hid (HX3.out.below hb4); have HK4 := Lib.hid (HK3.out.below hb4); have hx := HX4.out.vs; simp only [objC] at hx; obtain ⟨p0, p1, p2, p3, e0, e1, e2, e3⟩ := four hx; obtain ⟨z0, z1, z2, d0, d1, d2⟩ := three HK4.out; clear hx)
            | fail)
          go_meet
          exact HX4.out.doneSet HK4.out HGB.out HWB.out 0 (.slice An l2.length cn) ⟨An, cn, A6, c6, A7, c7, A8, c8⟩ { s with reg := l2 } rfl ⟨ho4, HX4.out.own.o1, HX4.out.own.o2, HX4.out.own.o3⟩ hv4 HR.out
        by_cases hkk : c.kind = 4
        · have k1 : (c.kind == 1) = false := by simp; omega
          have k2 : (c.kind == 2) = false := by simp; omega
          have k3 : (c.kind == 3) = false := by simp; omega
          have k4 : (c.kind == 4) = true := by simp; omega
          obtain ⟨r, hr⟩ : ∃ r, s.apply c = r := ⟨_, rfl⟩
          have hr2 := hr
          unfold Ob.apply at hr2
          rw [if_neg (by omega), if_neg (by omega), if_neg (by omega), if_pos (by omega)] at hr2
          have hcall := refPush_any (W := w) (c := c6) (c' := cv) (by have := HI.out.ql; omega) (fun l hl => by have := HI.out.qv l hl; unfold Lim; omega) (by have := HF.out.val.1; unfold Lim; omega) HX3.out.own.rd.r1 (HC0.out.below HX3.out.bel).rv HX3.out.bel
          obtain ⟨l2, hl2⟩ : ∃ x, pushS s.q c.val = x := ⟨_, rfl⟩
          obtain ⟨e2, he2⟩ : ∃ x, pushE s.q c.val = x := ⟨_, rfl⟩
          obtain ⟨n2, hn2⟩ : ∃ x, pushN s.q c.val = x := ⟨_, rfl⟩
          rw [hl2, he2, hn2] at hr2 hcall
          have HR := Lib.hid (hr.trans hr2.symm)
          have HCALL := Lib.hid hcall
          clear hr hr2 hkk hcall hl2 he2 hn2
          go_wp2_with (first
            | (go_at_call 78; refine HCALL.out.mono ?_; rintro e w4 ⟨An, cn, Ar, cr, rfl, ho4, hv4, hB4, hb4⟩; unfold resV; have HX4 := Lib.hid (HX3.out.below hb4); have HK4 := Lib.hid (HK3.out.below hb4); have hx := HX4.out.vs; simp only [objC] at hx; obtain ⟨p0, p1, p2, p3, e0, e1, e2, e3⟩ := four hx; obtain ⟨z0, z1, z2, d0, d1, d2⟩ := three HK4.out; clear hx)
            | fail)
          go_meet
          exact HX4.out.doneSet HK4.out HGB.out HWB.out 1 (.slice An l2.length cn) ⟨A5, c5, An, cn, A7, c7, A8, c8⟩ { s with q := l2 } rfl ⟨HX4.out.own.o0, ho4, HX4.out.own.o2, HX4.out.own.o3⟩ hv4 HR.out
        by_cases hkk : c.kind = 5
        · have k1 : (c.kind == 1) = false := by simp; omega
          have k2 : (c.kind == 2) = false := by simp; omega
          have k3 : (c.kind == 3) = false := by simp; omega
          have k4 : (c.kind == 4) = false := by simp; omega
          have k5 : (c.kind == 5) = true := by simp; omega
          obtain ⟨r, hr⟩ : ∃ r, s.apply c = r := ⟨_, rfl⟩
          have hr2 := hr
          unfold Ob.apply at hr2
          rw [if_neg (by omega), if_neg (by omega), if_neg (by omega), if_neg (by omega), if_pos (by omega)] at hr2
          have hcall := refPop_any (W := w) (c := c6) (by have := HI.out.ql; omega) HX3.out.own.rd.l1 (fun l hl => by have := HI.out.qv l hl; unfold Lim; omega) HX3.out.own.rd.r1 HX3.out.bel
          obtain ⟨l2, hl2⟩ : ∃ x, s.q.tail = x := ⟨_, rfl⟩
          obtain ⟨e2, he2⟩ : ∃ x, popE s.q = x := ⟨_, rfl⟩
          obtain ⟨v2, hv2⟩ : ∃ x, popV s.q = x := ⟨_, rfl⟩
          rw [hl2, he2, hv2] at hr2 hcall
          have HR := Lib.hid (hr.trans hr2.symm)
          have HCALL := Lib.hid hcall
          clear hr hr2 hkk hcall hl2 he2 hv2
          go_wp2_with (first
            | (go_at_call 79; refine HCALL.out.mono ?_; rintro e w4 ⟨An, cn, Ar, cr, rfl, ho4, hv4, hB4, hb4⟩; unfold resV; have HX4 := Lib.hid (HX3.out.below hb4); have HK4 := Lib.hid (HK3.out.below hb4); have hx := HX4.out.vs; simp only [objC] at hx; obtain ⟨p0, p1, p2, p3, e0, e1, e2, e3⟩ := four hx; obtain ⟨z0, z1, z2, d0, d1, d2⟩ := three HK4.out; clear hx)
            | fail)
          go_meet
          exact HX4.out.doneSet HK4.out HGB.out HWB.out 1 (.slice An l2.length cn) ⟨A5, c5, An, cn, A7, c7, A8, c8⟩ { s with q := l2 } rfl ⟨HX4.out.own.o0, ho4, HX4.out.own.o2, HX4.out.own.o3⟩ hv4 HR.out
        by_cases hkk : c.kind = 6
        · by_cases hw : 0 ≤ c.who ∧ c.who ≤ 999
          · have k1 : (c.kind == 1) = false := by simp; omega
            have k2 : (c.kind == 2) = false := by simp; omega
            have k3 : (c.kind == 3) = false := by simp; omega
            have k4 : (c.kind == 4) = false := by simp; omega
            have k5 : (c.kind == 5) = false := by simp; omega
            have k6 : (c.kind == 6) = true := by simp; omega
            have hwho : oo = true := HOO.out.symm.trans (decide_eq_true hw)
            obtain ⟨r, hr⟩ : ∃ r, s.apply c = r := ⟨_, rfl⟩
            have hr2 := hr
            unfold Ob.apply at hr2
            rw [if_neg (by omega), if_neg (by omega), if_neg (by omega), if_neg (by omega), if_neg (by omega), if_pos (by omega)] at hr2
            have hcall := refTake_any (W := w) (c := c7) c.who (by have := HI.out.lkl; unfold Lim; omega) HX3.out.own.rd.r2 HX3.out.bel
            obtain ⟨l2, hl2⟩ : ∃ x, takeS s.lk c.who = x := ⟨_, rfl⟩
            obtain ⟨e2, he2⟩ : ∃ x, takeE s.lk c.who = x := ⟨_, rfl⟩
            obtain ⟨n2, hn2⟩ : ∃ x, takeN s.lk c.who = x := ⟨_, rfl⟩
            rw [hl2, he2, hn2] at hr2 hcall
            have HR := Lib.hid (hr.trans hr2.symm)
            have HCALL := Lib.hid hcall
            clear hr hr2 hkk hcall hl2 he2 hn2
            clear hw
            subst hwho
            go_wp2_with (first
              | (go_at_call 80; refine HCALL.out.mono ?_; rintro e w4 ⟨An, cn, Ar, cr, rfl, ho4, hv4, hB4, hb4⟩; unfold resV; have HX4 := Lib.hid (HX3.out.below hb4); have HK4 := Lib.hid (HK3.out.below hb4); have hx := HX4.out.vs; simp only [objC] at hx; obtain ⟨p0, p1, p2, p3, e0, e1, e2, e3⟩ := four hx; obtain ⟨z0, z1, z2, d0, d1, d2⟩ := three HK4.out; clear hx)
              | fail)
            go_meet
            exact HX4.out.doneSet HK4.out HGB.out HWB.out 2 (.slice An l2.length cn) ⟨A5, c5, A6, c6, An, cn, A8, c8⟩ { s with lk := l2 } rfl ⟨HX4.out.own.o0, HX4.out.own.o1, ho4, HX4.out.own.o3⟩ hv4 HR.out
          · have k1 : (c.kind == 1) = false := by simp; omega
            have k2 : (c.kind == 2) = false := by simp; omega
            have k3 : (c.kind == 3) = false := by simp; omega
            have k4 : (c.kind == 4) = false := by simp; omega
            have k5 : (c.kind == 5) = false := by simp; omega
            have k6 : (c.kind == 6) = true := by simp; omega
            have hwho : oo = false := HOO.out.symm.trans (decide_eq_false hw)
            have hr : s.apply c = ⟨s, 7, [], 0⟩ := by unfold Ob.apply; rw [if_neg (by omega), if_neg (by omega), if_neg (by omega), if_neg (by omega), if_neg (by omega), if_neg (by omega), if_neg (by omega), if_neg (by omega), if_neg (by omega), if_neg (by omega), if_neg (by omega)]
            have HR := Lib.hid hr
            clear hr hkk hw
            subst hwho
            go_wp2_with fail
            go_meet
            rw [HR.out]
            exact ⟨_, none, 0, HX3, HK3, Lib.hid (own_nil _ _)⟩
        by_cases hkk : c.kind = 7
        · by_cases hw : 0 ≤ c.who ∧ c.who ≤ 999
          · have k1 : (c.kind == 1) = false := by simp; omega
            have k2 : (c.kind == 2) = false := by simp; omega
            have k3 : (c.kind == 3) = false := by simp; omega
            have k4 : (c.kind == 4) = false := by simp; omega
            have k5 : (c.kind == 5) = false := by simp; omega
            have k6 : (c.kind == 6) = false := by simp; omega
            have k7 : (c.kind == 7) = true := by simp; omega
            have hwho : oo = true := HOO.out.symm.trans (decide_eq_true hw)
            obtain ⟨r, hr⟩ : ∃ r, s.apply c = r := ⟨_, rfl⟩
            have hr2 := hr
            unfold Ob.apply at hr2
            rw [if_neg (by omega), if_neg (by omega), if_neg (by omega), if_neg (by omega), if_neg (by omega), if_neg (by omega), if_pos (by omega)] at hr2
            have hcall := refFree_any (W := w) (c := c7) c.who (by have := HI.out.lkl; unfold Lim; omega) HX3.out.own.rd.l2 HX3.out.own.rd.r2 HX3.out.bel
            obtain ⟨l2, hl2⟩ : ∃ x, s.lk.erase c.who = x := ⟨_, rfl⟩
            obtain ⟨e2, he2⟩ : ∃ x, freeE s.lk c.who = x := ⟨_, rfl⟩
            obtain ⟨n2, hn2⟩ : ∃ x, freeN s.lk c.who = x := ⟨_, rfl⟩
            rw [hl2, he2, hn2] at hr2 hcall
            have HR := Lib.hid (hr.trans hr2.symm)
            have HCALL := Lib.hid hcall
            clear hr hr2 hkk hcall hl2 he2 hn2
            clear hw
            subst hwho
            go_wp2_with (first
              | (go_at_call 81; refine HCALL.out.mono ?_; rintro e w4 ⟨An, cn, Ar, cr, rfl, ho4, hv4, hB4, hb4⟩; unfold resV; have HX4 := Lib.hid (HX3.out.below hb4); have HK4 := Lib.hid (HK3.out.below hb4); have hx := HX4.out.vs; simp only [objC] at hx; obtain ⟨p0, p1, p2, p3, e0, e1, e2, e3⟩ := four hx; obtain ⟨z0, z1, z2, d0, d1, d2⟩ := three HK4.out; clear hx)
              | fail)
            go_meet
            exact HX4.out.doneSet HK4.out HGB.out HWB.out 2 (.slice An l2.length cn) ⟨A5, c5, A6, c6, An, cn, A8, c8⟩ { s with lk := l2 } rfl ⟨HX4.out.own.o0, HX4.out.own.o1, ho4, HX4.out.own.o3⟩ hv4 HR.out
          · have k1 : (c.kind == 1) = false := by simp; omega
            have k2 : (c.kind == 2) = false := by simp; omega
            have k3 : (c.kind == 3) = false := by simp; omega
            have k4 : (c.kind == 4) = false := by simp; omega
            have k5 : (c.kind == 5) = false := by simp; omega
            have k6 : (c.kind == 6) = false := by simp; omega
            have k7 : (c.kind == 7) = true := by simp; omega
            have hwho : oo = false := HOO.out.symm.trans (decide_eq_false hw)
            have hr : s.apply c = ⟨s, 7, [], 0⟩ := by unfold Ob.apply; rw [if_neg (by omega), if_neg (by omega), if_neg (by omega), if_neg (by omega), if_neg (by omega), if_neg (by omega), if_neg (by omega), if_neg (by omega), if_neg (by omega), if_neg (by omega), if_neg (by omega)]
            have HR := Lib.hid hr
            clear hr hkk hw
            subst hwho
            go_wp2_with fail
            go_meet
            rw [HR.out]
            exact ⟨_, none, 0, HX3, HK3, Lib.hid (own_nil _ _)⟩
        by_cases hkk : c.kind = 8
        · have k1 : (c.kind == 1) = false := by simp; omega
          have k2 : (c.kind == 2) = false := by simp; omega
          have k3 : (c.kind == 3) = false := by simp; omega
          have k4 : (c.kind == 4) = false := by simp; omega
          have k5 : (c.kind == 5) = false := by simp; omega
          have k6 : (c.kind == 6) = false := by simp; omega
          have k7 : (c.kind == 7) = false := by simp; omega
          have k8 : (c.kind == 8) = true := by simp; omega
          obtain ⟨r, hr⟩ : ∃ r, s.apply c = r := ⟨_, rfl⟩
          have hr2 := hr
          unfold Ob.apply at hr2
          rw [if_neg (by omega), if_neg (by omega), if_neg (by omega), if_neg (by omega), if_neg (by omega), if_neg (by omega), if_neg (by omega), if_pos (by omega)] at hr2
          have hcall := refOwner_any (c := c7) _ HX3.out.own.rd.r2
          obtain ⟨e2, he2⟩ : ∃ x, ownerE s.lk = x := ⟨_, rfl⟩
          obtain ⟨n2, hn2⟩ : ∃ x, ownerN s.lk = x := ⟨_, rfl⟩
          rw [he2, hn2] at hr2 hcall
          have HR := Lib.hid (hr.trans hr2.symm)
          have HCALL := Lib.hid hcall
          clear hr hr2 hkk hcall he2 hn2
          go_wp2_with (first
            | (go_at_call 82; refine HCALL.out.mono ?_; rintro e w4 ⟨rfl, hb4⟩; unfold resV; have HX4 := Lib.hid (HX3.out.below hb4); have HK4 := Lib.hid (HK3.out.below hb4); have hx := HX4.out.vs; simp only [objC] at hx; obtain ⟨p0, p1, p2, p3, e0, e1, e2, e3⟩ := four hx; obtain ⟨z0, z1, z2, d0, d1, d2⟩ := three HK4.out; clear hx)
            | fail)
          go_meet
          have hv4 : OwnB w w4 none 0 0 [] := own_nil _ _
          exact HX4.out.done HK4.out HGB.out hv4 HR.out
        by_cases hkk : c.kind = 9
        · have k1 : (c.kind == 1) = false := by simp; omega
          have k2 : (c.kind == 2) = false := by simp; omega
          have k3 : (c.kind == 3) = false := by simp; omega
          have k4 : (c.kind == 4) = false := by simp; omega
          have k5 : (c.kind == 5) = false := by simp; omega
          have k6 : (c.kind == 6) = false := by simp; omega
          have k7 : (c.kind == 7) = false := by simp; omega
          have k8 : (c.kind == 8) = false := by simp; omega
          have k9 : (c.kind == 9) = true := by simp; omega
          obtain ⟨r, hr⟩ : ∃ r, s.apply c = r := ⟨_, rfl⟩
          have hr2 := hr
          unfold Ob.apply at hr2
          rw [if_neg (by omega), if_neg (by omega), if_neg (by omega), if_neg (by omega), if_neg (by omega), if_neg (by omega), if_neg (by omega), if_neg (by omega), if_pos (by omega)] at hr2
          have hcall := refPut_any (W := w) (c := c8) (c' := ck) (c'' := cv) (by have := HI.out.mp.few; omega) HLM.out HI.out.mp.byt HF.out.key.2 HI.out.mp.rise HX3.out.own.rd.r3 (HC0.out.below HX3.out.bel).rk (HC0.out.below HX3.out.bel).rv HX3.out.bel
          obtain ⟨l2, hl2⟩ : ∃ x, Mp.putS s.mp c.key c.val = x := ⟨_, rfl⟩
          obtain ⟨e2, he2⟩ : ∃ x, Mp.putE s.mp c.key c.val = x := ⟨_, rfl⟩
          obtain ⟨v2, hv2⟩ : ∃ x, Mp.putV s.mp c.key c.val = x := ⟨_, rfl⟩
          obtain ⟨n2, hn2⟩ : ∃ x, Mp.putN s.mp c.key c.val = x := ⟨_, rfl⟩
          rw [hl2, he2, hv2, hn2] at hr2 hcall
          have HR := Lib.hid (hr.trans hr2.symm)
          have HCALL := Lib.hid hcall
          clear hr hr2 hkk hcall hl2 he2 hv2 hn2
          go_wp2_with (first
            | (go_at_call 83; refine HCALL.out.mono ?_; rintro e w4 ⟨An, cn, Ar, cr, rfl, ho4, hv4, hB4, hb4⟩; unfold resV; have HX4 := Lib.hid (HX3.out.below hb4); have HK4 := Lib.hid (HK3.out.below hb4); have hx := HX4.out.vs; simp only [objC] at hx; obtain ⟨p0, p1, p2, p3, e0, e1, e2, e3⟩ := four hx; obtain ⟨z0, z1, z2, d0, d1, d2⟩ := three HK4.out; clear hx)
            | fail)
          go_meet
          exact HX4.out.doneSet HK4.out HGB.out HWB.out 3 (.slice An l2.length cn) ⟨A5, c5, A6, c6, A7, c7, An, cn⟩ { s with mp := l2 } rfl ⟨HX4.out.own.o0, HX4.out.own.o1, HX4.out.own.o2, ho4⟩ hv4 HR.out
        by_cases hkk : c.kind = 10
        · have k1 : (c.kind == 1) = false := by simp; omega
          have k2 : (c.kind == 2) = false := by simp; omega
          have k3 : (c.kind == 3) = false := by simp; omega
          have k4 : (c.kind == 4) = false := by simp; omega
          have k5 : (c.kind == 5) = false := by simp; omega
          have k6 : (c.kind == 6) = false := by simp; omega
          have k7 : (c.kind == 7) = false := by simp; omega
          have k8 : (c.kind == 8) = false := by simp; omega
          have k9 : (c.kind == 9) = false := by simp; omega
          have k10 : (c.kind == 10) = true := by simp; omega
          obtain ⟨r, hr⟩ : ∃ r, s.apply c = r := ⟨_, rfl⟩
          have hr2 := hr
          unfold Ob.apply at hr2
          rw [if_neg (by omega), if_neg (by omega), if_neg (by omega), if_neg (by omega), if_neg (by omega), if_neg (by omega), if_neg (by omega), if_neg (by omega), if_neg (by omega), if_pos (by omega)] at hr2
          have hcall := refGet_any (W := w) (c := c8) (c' := ck) (by have := HI.out.mp.few; omega) HLM.out HI.out.mp.byt HF.out.key.2 HX3.out.own.rd.r3 (HC0.out.below HX3.out.bel).rk HX3.out.bel
          obtain ⟨e2, he2⟩ : ∃ x, Mp.getE s.mp c.key = x := ⟨_, rfl⟩
          obtain ⟨v2, hv2⟩ : ∃ x, Mp.getV s.mp c.key = x := ⟨_, rfl⟩
          rw [he2, hv2] at hr2 hcall
          have HR := Lib.hid (hr.trans hr2.symm)
          have HCALL := Lib.hid hcall
          clear hr hr2 hkk hcall he2 hv2
          go_wp2_with (first
            | (go_at_call 84; refine HCALL.out.mono ?_; rintro e w4 ⟨Ar, cr, rfl, hv4, hB4, hb4⟩; unfold resV; have HX4 := Lib.hid (HX3.out.below hb4); have HK4 := Lib.hid (HK3.out.below hb4); have hx := HX4.out.vs; simp only [objC] at hx; obtain ⟨p0, p1, p2, p3, e0, e1, e2, e3⟩ := four hx; obtain ⟨z0, z1, z2, d0, d1, d2⟩ := three HK4.out; clear hx)
            | fail)
          go_meet
          exact HX4.out.done HK4.out HGB.out hv4 HR.out
        by_cases hkk : c.kind = 11
        · have k1 : (c.kind == 1) = false := by simp; omega
          have k2 : (c.kind == 2) = false := by simp; omega
          have k3 : (c.kind == 3) = false := by simp; omega
          have k4 : (c.kind == 4) = false := by simp; omega
          have k5 : (c.kind == 5) = false := by simp; omega
          have k6 : (c.kind == 6) = false := by simp; omega
          have k7 : (c.kind == 7) = false := by simp; omega
          have k8 : (c.kind == 8) = false := by simp; omega
          have k9 : (c.kind == 9) = false := by simp; omega
          have k10 : (c.kind == 10) = false := by simp; omega
          have k11 : (c.kind == 11) = true := by simp; omega
          obtain ⟨r, hr⟩ : ∃ r, s.apply c = r := ⟨_, rfl⟩
          have hr2 := hr
          unfold Ob.apply at hr2
          rw [if_neg (by omega), if_neg (by omega), if_neg (by omega), if_neg (by omega), if_neg (by omega), if_neg (by omega), if_neg (by omega), if_neg (by omega), if_neg (by omega), if_neg (by omega), if_pos (by omega)] at hr2
          have hcall := refDel_any (W := w) (c := c8) (c' := ck) (by have := HI.out.mp.few; omega) HLM.out HI.out.mp.byt HF.out.key.2 HX3.out.own.rd.r3 (HC0.out.below HX3.out.bel).rk HX3.out.bel
          obtain ⟨l2, hl2⟩ : ∃ x, Mp.delS s.mp c.key = x := ⟨_, rfl⟩
          obtain ⟨e2, he2⟩ : ∃ x, Mp.getE s.mp c.key = x := ⟨_, rfl⟩
          obtain ⟨v2, hv2⟩ : ∃ x, Mp.getV s.mp c.key = x := ⟨_, rfl⟩
          rw [hl2, he2, hv2] at hr2 hcall
          have HR := Lib.hid (hr.trans hr2.symm)
          have HCALL := Lib.hid hcall
          clear hr hr2 hkk hcall hl2 he2 hv2
          go_wp2_with (first
            | (go_at_call 85; refine HCALL.out.mono ?_; rintro e w4 ⟨An, cn, Ar, cr, rfl, ho4, hv4, hB4, hb4⟩; unfold resV; have HX4 := Lib.hid (HX3.out.below hb4); have HK4 := Lib.hid (HK3.out.below hb4); have hx := HX4.out.vs; simp only [objC] at hx; obtain ⟨p0, p1, p2, p3, e0, e1, e2, e3⟩ := four hx; obtain ⟨z0, z1, z2, d0, d1, d2⟩ := three HK4.out; clear hx)
            | fail)
          go_meet
          exact HX4.out.doneSet HK4.out HGB.out HWB.out 3 (.slice An l2.length cn) ⟨A5, c5, A6, c6, A7, c7, An, cn⟩ { s with mp := l2 } rfl ⟨HX4.out.own.o0, HX4.out.own.o1, HX4.out.own.o2, ho4⟩ hv4 HR.out
        have k1 : (c.kind == 1) = false := by simp; omega
        have k2 : (c.kind == 2) = false := by simp; omega
        have k3 : (c.kind == 3) = false := by simp; omega
        have k4 : (c.kind == 4) = false := by simp; omega
        have k5 : (c.kind == 5) = false := by simp; omega
        have k6 : (c.kind == 6) = false := by simp; omega
        have k7 : (c.kind == 7) = false := by simp; omega
        have k8 : (c.kind == 8) = false := by simp; omega
        have k9 : (c.kind == 9) = false := by simp; omega
        have k10 : (c.kind == 10) = false := by simp; omega
        have k11 : (c.kind == 11) = false := by simp; omega
        have hr : s.apply c = ⟨s, 7, [], 0⟩ := by unfold Ob.apply; rw [if_neg (by omega), if_neg (by omega), if_neg (by omega), if_neg (by omega), if_neg (by omega), if_neg (by omega), if_neg (by omega), if_neg (by omega), if_neg (by omega), if_neg (by omega), if_neg (by omega)]
        have HR := Lib.hid hr
        clear hr
        go_wp2_with fail
        go_meet
        rw [HR.out]
        exact ⟨_, none, 0, HX3, HK3, Lib.hid (own_nil _ _)⟩
      case rest =>
        obtain ⟨⟨A5', c5', A6', c6', A7', c7', A8', c8'⟩, Ar, cr, HX5, HK5, HV5⟩ := hcut
        rename World => w5
        obtain ⟨r, hr⟩ : ∃ r, s.apply c = r := ⟨_, rfl⟩
        rw [hr] at HX5 HK5 HV5
        have HR := Lib.hid hr
        have hx := HX5.out.vs
        simp only [objC] at hx
        obtain ⟨p0, p1, p2, p3, _, _, _, _⟩ := four hx
        obtain ⟨z0, z1, z2, _, _, _⟩ := three HK5.out
        obtain ⟨v0, v1, v2, v3, e0, e1, e2, e3⟩ := four HX5.out.v2
        obtain ⟨t0, t1, t2, d0, d1, d2⟩ := three HX5.out.v3
        have n1 : ¬ g = b + 1 + 1 := fun e => HX5.out.v2.apart HK5.out (by decide) e.symm
        have n2 : ¬ g = b + 1 + 1 + 1 := HGB.out.2.2
        clear hx hr HX3 HK3 HC0 HI HF HLM HOO y0 y1 y2 y3 y4 hgb hbg
        go_upto_region 29 with fail
        refine wp_region_held_drew (S := fun w' => Blk w' b 30 #[.slice A5' r.s.reg.length c5', .slice A6' r.s.q.length c6', .slice A7' r.s.lk.length c7', .slice A8' r.s.mp.length c8'] ∧ Blk w' g 47 #[.int .i64 r.e, .slice Ar r.v.length cr, .int .i64 r.n]) (by kernel_rfl) ⟨HX5.out.vs.drew, HK5.out.drew⟩ (fun _ => ?_)
        have HX6 := Lib.hid (HX5.out.below (Below.refl _ _).drew)
        have HV6 := Lib.hid (own_below HV5.out (Below.refl w5.heap.size w5).drew)
        have HS := Lib.hid (And.intro HX5.out.vs.drew HK5.out.drew)
        simp only [objC] at HS
        clear HX5 HK5 HV5 p0 p1 p2 p3 z0 z1 z2 v0 v1 v2 v3 e0 e1 e2 e3 t0 t1 t2 d0 d1 d2
        generalize w5.drew = w6 at HX6 HV6 HS ⊢
        obtain ⟨v0, v1, v2, v3, e0, e1, e2, e3⟩ := four HX6.out.v2
        refine wpAnyH_take (i := 0) (v := .agg #[.slice A5' r.s.reg.length c5', .slice A6' r.s.q.length c6', .slice A7' r.s.lk.length c7', .slice A8' r.s.mp.length c8']) rfl (by kernel_rfl) (by kernel_rfl) (by kernel_rfl) (fun _ _ _ h => h) (Or.inl ⟨by kernel_rfl, fun w h => by obtain ⟨p0, p1, p2, p3, _, _, _, _⟩ := four h.1; go_simp⟩) HS.out ?_
        refine wpAnyH_take (i := 1) (v := .agg #[.int .i64 r.e, .slice Ar r.v.length cr, .int .i64 r.n]) rfl (by kernel_rfl) (by kernel_rfl) (by kernel_rfl) (fun _ _ _ h => h) (Or.inl ⟨by kernel_rfl, fun w h => by obtain ⟨p0, p1, p2, _, _, _⟩ := three h.2; go_simp⟩) HS.out ?_
        have HS2 := Lib.hid (show Blk ((((w6.setCell ⟨b + 1 + 1, 0, none⟩ (.slice A5' r.s.reg.length c5')).setCell ⟨b + 1 + 1, 1, none⟩ (.slice A6' r.s.q.length c6')).setCell ⟨b + 1 + 1, 2, none⟩ (.slice A7' r.s.lk.length c7')).setCell ⟨b + 1 + 1, 3, none⟩ (.slice A8' r.s.mp.length c8')) b 30 #[.slice A5' r.s.reg.length c5', .slice A6' r.s.q.length c6', .slice A7' r.s.lk.length c7', .slice A8' r.s.mp.length c8'] ∧ Blk ((((w6.setCell ⟨b + 1 + 1, 0, none⟩ (.slice A5' r.s.reg.length c5')).setCell ⟨b + 1 + 1, 1, none⟩ (.slice A6' r.s.q.length c6')).setCell ⟨b + 1 + 1, 2, none⟩ (.slice A7' r.s.lk.length c7')).setCell ⟨b + 1 + 1, 3, none⟩ (.slice A8' r.s.mp.length c8')) g 47 #[.int .i64 r.e, .slice Ar r.v.length cr, .int .i64 r.n] from
          ⟨(((HS.out.1.set_other (by omega)).set_other (by omega)).set_other (by omega)).set_other (by omega), (((HS.out.2.set_other n1).set_other n1).set_other n1).set_other n1⟩)
        refine wpAnyH_ready (rs := [2]) (by kernel_rfl) (by simp) ?_
        refine AllReadyH.cons rfl (fun K hK => ?_) AllReadyH.nil
        go_simp
        refine hK.out _ _ HS2.out (fun _ => ?_)
        clear hK K v0 v1 v2 v3 e0 e1 e2 e3
        obtain ⟨t0, t1, t2, d0, d1, d2⟩ := three ((((HX6.out.v3.set_other (i := 0) (u := .slice A5' r.s.reg.length c5') (b := b + 1 + 1) (by omega)).set_other (i := 1) (u := .slice A6' r.s.q.length c6') (b := b + 1 + 1) (by omega)).set_other (i := 2) (u := .slice A7' r.s.lk.length c7') (b := b + 1 + 1) (by omega)).set_other (i := 3) (u := .slice A8' r.s.mp.length c8') (b := b + 1 + 1) (by omega))
        obtain ⟨q1, q2, q3, q4, q5⟩ := HX6.out.end_ HWB.out HV6.out (.slice A5' r.s.reg.length c5') (.slice A6' r.s.q.length c6') (.slice A7' r.s.lk.length c7') (.slice A8' r.s.mp.length c8') (.int .i64 r.e) (.slice Ar r.v.length cr) (.int .i64 r.n)
        have HQ := Lib.hid (And.intro q1 (And.intro q2 (And.intro q3 (And.intro q4 q5))))
        have HS3 := Lib.hid (And.intro (((HS2.out.1.set_other (i := 0) (u := .int .i64 r.e) (b := b + 1 + 1 + 1) (by omega)).set_other (i := 1) (u := .slice Ar r.v.length cr) (b := b + 1 + 1 + 1) (by omega)).set_other (i := 2) (u := .int .i64 r.n) (b := b + 1 + 1 + 1) (by omega)) (((HS2.out.2.set_other (i := 0) (u := .int .i64 r.e) n2).set_other (i := 1) (u := .slice Ar r.v.length cr) n2).set_other (i := 2) (u := .int .i64 r.n) n2))
        clear q1 q2 q3 q4 q5 HX6 HV6 HS
        generalize (((w6.setCell ⟨b + 1 + 1, 0, none⟩ (.slice A5' r.s.reg.length c5')).setCell ⟨b + 1 + 1, 1, none⟩ (.slice A6' r.s.q.length c6')).setCell ⟨b + 1 + 1, 2, none⟩ (.slice A7' r.s.lk.length c7')).setCell ⟨b + 1 + 1, 3, none⟩ (.slice A8' r.s.mp.length c8') = w7 at HQ HS2 HS3 t0 t1 t2 d0 d1 d2 ⊢
        refine wpAnyH_ready (rs := [3]) (by kernel_rfl) (by simp) ?_
        refine AllReadyH.cons rfl (fun K hK => ?_) AllReadyH.nil
        go_simp
        refine hK.out _ _ HS3.out (fun _ => ?_)
        clear hK K t0 t1 t2 d0 d1 d2
        refine wpAnyH_done (by kernel_rfl) ?_ _
        go_wp2_with fail
        refine bodyPost_ret (results_cells2 rfl _ _ _ _ _ _ _ _ _ _ rfl rfl HQ.out.1 HQ.out.2.1 Tryz.underlying30 rfl (by kernel_rfl) Tryz.underlying47 rfl (by kernel_rfl)) rfl ?_
        rw [HR.out]
        exact ⟨⟨A5', c5', A6', c6', A7', c7', A8', c8'⟩, Ar, cr, rfl, HQ.out.2.2.1, HQ.out.2.2.2.1, HQ.out.2.2.2.2, HQ.out.2.2.2.2⟩
theorem refApply_any {W w : World} {a : OA} {ca : CA} {s : Ob} {c : Cm} {B B' : Nat} (hI : s.Inv) (hc : c.Fits) (h : RdO w B a s) (h' : RdC w B' ca c) (hB : Below W.heap.size W w) :
    Calls Tryz.prog 56 #[objV a s, cmdV ca c] w (GotO W w (s.apply c)) :=
  (refApply_raw hI hc h h').mono fun e w' h => GotO.of hB h
end Go.Proofs.YtaknfmionkkdjaaGreat

