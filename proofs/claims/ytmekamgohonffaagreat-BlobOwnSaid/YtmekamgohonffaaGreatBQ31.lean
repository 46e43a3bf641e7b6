/- MachRef MachSame MachSameE -/
import Derived.Test.YtmekamgohonffaaGreatBQ13
import Derived.Test.YtmekamgohonffaaGreatBQ16
import Derived.Test.YtmekamgohonffaaGreatBQ17
import Derived.Test.YtmekamgohonffaaGreatBQ30
import Derived.Deep.RegionHeld3
namespace Go.Proofs.YtmekamgohonffaaGreat
open Go.RowKit
set_option linter.unusedVariables false
/-- the variables of a step: the machine, the entry, the two answers' -/
structure VarsM (w wx : World) (b : Nat) (a : MA) (m : Mc) (ca : CA) (e : En) : Prop where
  v0 : Blk wx b 31 (machC a m)
  v1 : Blk wx (b + 1) 43 (entC ca e)
  v2 : Blk wx (b + 1 + 1) 31 #[.slice none 0 0, .slice none 0 0, .slice none 0 0, .slice none 0 0, .slice none 0 0]
  v3 : Blk wx (b + 1 + 1 + 1) 77 #[.int .i64 0, .slice none 0 0, .int .i64 0]
  rm : RdM wx w.heap.size a m
  rc : RdC wx w.heap.size ca e.c
  bel : Below w.heap.size w wx
theorem VarsM.below {w wx wy : World} {b : Nat} {a : MA} {m : Mc} {ca : CA} {e : En} (h : VarsM w wx b a m ca e) (hb : Below wx.heap.size wx wy) : VarsM w wy b a m ca e :=
  have hw : Below w.heap.size wx wy := hb.mono h.bel.size
  ⟨h.v0.below hb, h.v1.below hb, h.v2.below hb, h.v3.below hb, h.rm.below hw, h.rc.below hw, h.bel.trans hw⟩
theorem VarsM.start {w : World} {a : MA} {m : Mc} {ca : CA} {e : En} {B B' : Nat} (h : RdM w B a m) (h' : RdC w B' ca e.c) :
    VarsM w ((((w.alloc (.cells (machC a m) 31)).alloc (.cells (entC ca e) 43)).alloc (.cells #[.slice none 0 0, .slice none 0 0, .slice none 0 0, .slice none 0 0, .slice none 0 0] 31)).alloc (.cells #[.int .i64 0, .slice none 0 0, .int .i64 0] 77)) w.heap.size a m ca e := by
  have b1 : Below w.heap.size w (w.alloc (.cells (machC a m) 31)) := (Below.refl _ _).alloc (Nat.le_refl _) _
  have b2 := b1.alloc b1.size (.cells (entC ca e) 43)
  have b3 := b2.alloc b2.size (.cells #[.slice none 0 0, .slice none 0 0, .slice none 0 0, .slice none 0 0, .slice none 0 0] 31)
  have b4 := b3.alloc b3.size (.cells #[.int .i64 0, .slice none 0 0, .int .i64 0] 77)
  refine ⟨(((Blk.new w _ _).alloc _).alloc _).alloc _, ?_, ?_, ?_, h.fit.below b4, h'.fit.below b4, b4⟩
  · have := ((Blk.new (w.alloc (.cells (machC a m) 31)) 43 (entC ca e)).alloc (.cells #[.slice none 0 0, .slice none 0 0, .slice none 0 0, .slice none 0 0, .slice none 0 0] 31)).alloc (.cells #[.int .i64 0, .slice none 0 0, .int .i64 0] 77)
    rwa [World.size_alloc] at this
  · have := (Blk.new ((w.alloc (.cells (machC a m) 31)).alloc (.cells (entC ca e) 43)) 31 #[.slice none 0 0, .slice none 0 0, .slice none 0 0, .slice none 0 0, .slice none 0 0]).alloc (.cells #[.int .i64 0, .slice none 0 0, .int .i64 0] 77)
    rwa [World.size_alloc, World.size_alloc] at this
  · have := Blk.new (((w.alloc (.cells (machC a m) 31)).alloc (.cells (entC ca e) 43)).alloc (.cells #[.slice none 0 0, .slice none 0 0, .slice none 0 0, .slice none 0 0, .slice none 0 0] 31)) 77 #[.int .i64 0, .slice none 0 0, .int .i64 0]
    rwa [World.size_alloc, World.size_alloc, World.size_alloc] at this
/-- what a walk reads of them -/
theorem VarsM.cells {w wx : World} {b : Nat} {a : MA} {m : Mc} {ca : CA} {e : En} (h : VarsM w wx b a m ca e) :
    (wx.cell? ⟨b, 0, none⟩ = some (.slice a.o.A0 m.o.reg.length a.o.c0) ∧ wx.cell? ⟨b, 1, none⟩ = some (.slice a.o.A1 m.o.q.length a.o.c1) ∧ wx.cell? ⟨b, 2, none⟩ = some (.slice a.o.A2 m.o.lk.length a.o.c2) ∧ wx.cell? ⟨b, 3, none⟩ = some (.slice a.o.A3 m.o.mp.length a.o.c3) ∧ wx.cell? ⟨b, 4, none⟩ = some (.slice a.At m.t.length a.ct)) ∧
    (wx.cell? ⟨b + 1, 0, none⟩ = some (.int .i64 e.s) ∧ wx.cell? ⟨b + 1, 1, none⟩ = some (.int .i64 e.q) ∧ wx.cell? ⟨b + 1, 2, none⟩ = some (.int .i64 e.c.kind) ∧ wx.cell? ⟨b + 1, 3, none⟩ = some (.int .i64 e.c.who) ∧ wx.cell? ⟨b + 1, 4, none⟩ = some (.slice ca.Ak e.c.key.length ca.ck) ∧ wx.cell? ⟨b + 1, 5, none⟩ = some (.slice ca.Av e.c.val.length ca.cv) ∧ wx.cell? ⟨b + 1, 6, none⟩ = some (.slice ca.Ao e.c.old.length ca.co)) ∧
    (wx.frozen? ⟨b + 1 + 1, 0, none⟩ = false ∧ wx.frozen? ⟨b + 1 + 1, 1, none⟩ = false ∧ wx.frozen? ⟨b + 1 + 1, 2, none⟩ = false ∧ wx.frozen? ⟨b + 1 + 1, 3, none⟩ = false ∧ wx.frozen? ⟨b + 1 + 1, 4, none⟩ = false) ∧
    (wx.frozen? ⟨b + 1 + 1 + 1, 0, none⟩ = false ∧ wx.frozen? ⟨b + 1 + 1 + 1, 1, none⟩ = false ∧ wx.frozen? ⟨b + 1 + 1 + 1, 2, none⟩ = false) ∧
    (wx.cell? ⟨b + 1 + 1, 0, none⟩ = some (.slice none 0 0) ∧ wx.cell? ⟨b + 1 + 1, 1, none⟩ = some (.slice none 0 0) ∧ wx.cell? ⟨b + 1 + 1, 2, none⟩ = some (.slice none 0 0) ∧ wx.cell? ⟨b + 1 + 1, 3, none⟩ = some (.slice none 0 0) ∧ wx.cell? ⟨b + 1 + 1, 4, none⟩ = some (.slice none 0 0)) ∧
    (wx.cell? ⟨b + 1 + 1 + 1, 0, none⟩ = some (.int .i64 0) ∧ wx.cell? ⟨b + 1 + 1 + 1, 1, none⟩ = some (.slice none 0 0) ∧ wx.cell? ⟨b + 1 + 1 + 1, 2, none⟩ = some (.int .i64 0)) :=
  ⟨five (t := 31) h.v0, seven h.v1, five_frozen h.v2, ⟨h.v3.frozen 0, h.v3.frozen 1, h.v3.frozen 2⟩, five h.v2, ⟨h.v3.cell 0, h.v3.cell 1, h.v3.cell 2⟩⟩
/-- the two answers' variables are written -/
theorem VarsM.end_ {w wx : World} {b : Nat} {a : MA} {m : Mc} {ca : CA} {e : En} (h : VarsM w wx b a m ca e) (hw : w.heap.size ≤ b) {r : MAns} {a' : MA} {A : Option Addr} {c : Nat} (ho : OwnM w wx a' r.m) (hv : OwnB w wx A r.v.length c r.v)
    (x0 x1 x2 x3 x4 y0 y1 y2 : Value) (hx : #[x0, x1, x2, x3, x4] = machC a' r.m) (hy : #[y0, y1, y2] = #[.int .i64 r.e, .slice A r.v.length c, .int .i64 r.n]) {en : Ending} (he : en = .returned (.tuple #[.agg #[x0, x1, x2, x3, x4], .agg #[y0, y1, y2]])) :
    let wy := ((((((((wx.setCell ⟨b + 1 + 1, 0, none⟩ x0).setCell ⟨b + 1 + 1, 1, none⟩ x1).setCell ⟨b + 1 + 1, 2, none⟩ x2).setCell ⟨b + 1 + 1, 3, none⟩ x3).setCell ⟨b + 1 + 1, 4, none⟩ x4).setCell ⟨b + 1 + 1 + 1, 0, none⟩ y0).setCell ⟨b + 1 + 1 + 1, 1, none⟩ y1).setCell ⟨b + 1 + 1 + 1, 2, none⟩ y2)
    Blk wy (b + 1 + 1) 31 #[x0, x1, x2, x3, x4] ∧ Blk wy (b + 1 + 1 + 1) 77 #[y0, y1, y2] ∧ GotM w w r en wy := by
  intro wy
  obtain ⟨k1, k2, k3, k4, k5⟩ := put5 h.v2 x0 x1 x2 x3 x4
  have l0 := k5 (b + 1 + 1 + 1) _ _ (by omega) h.v3
  obtain ⟨l1, l2, l3⟩ := put3 l0 y0 y1 y2
  have q := k3 w a' r.m ho (by decide) (by decide) (by decide) (by decide) (by decide)
  have q2 := k4 _ _ _ _ _ _ hv (by decide)
  have hbel := l2 w (by omega) (k2 w (by omega) h.bel)
  refine ⟨((k1.set_other (by omega)).set_other (by omega)).set_other (by omega), l1, a', A, c, ?_, ?_, l3 _ _ _ _ _ _ q2 (by decide), hbel, hbel⟩
  · rw [he, hx, hy]; rfl
  · exact ((q.set_t l0 (by decide) (by decide) (by decide) (by decide) (by decide)).set_t (l0.set_ _ _) (by decide) (by decide) (by decide) (by decide) (by decide)).set_t ((l0.set_ _ _).set_ _ _) (by decide) (by decide) (by decide) (by decide) (by decide)
theorem VarsM.set {w wx : World} {b g i : Nat} {u : Value} {a : MA} {m : Mc} {ca : CA} {e : En} (h : VarsM w wx b a m ca e) (hw : w.heap.size ≤ b) (hg : b + 1 + 1 + 1 < g) : VarsM w (wx.setCell ⟨g, i, none⟩ u) b a m ca e :=
  have hb : Below w.heap.size wx (wx.setCell ⟨g, i, none⟩ u) := (Below.refl _ _).setCell (p := ⟨g, i, none⟩) (by show w.heap.size ≤ g; omega) u
  ⟨h.v0.set_other (by omega), h.v1.set_other (by omega), h.v2.set_other (by omega), h.v3.set_other (by omega), h.rm.below hb, h.rc.below hb, h.bel.trans hb⟩
/-- what a region reads, wherever its operations stand -/
def SM (b g h : Nat) (mc ec rc oc : Array Value) (w' : World) : Prop := Blk w' b 31 mc ∧ Blk w' (b + 1) 43 ec ∧ Blk w' g 77 rc ∧ Blk w' h 28 oc
theorem SM.below {b g h : Nat} {mc ec rc oc : Array Value} {w w' : World} (hs : SM b g h mc ec rc oc w) (hb : Below w.heap.size w w') : SM b g h mc ec rc oc w' := ⟨hs.1.below hb, hs.2.1.below hb, hs.2.2.1.below hb, hs.2.2.2.below hb⟩
theorem SM.set {b g h k i : Nat} {u : Value} {mc ec rc oc : Array Value} {w : World} (hs : SM b g h mc ec rc oc w) (h1 : b ≠ k) (h2 : b + 1 ≠ k) (h3 : g ≠ k) (h4 : h ≠ k) : SM b g h mc ec rc oc (w.setCell ⟨k, i, none⟩ u) := ⟨hs.1.set_other h1, hs.2.1.set_other h2, hs.2.2.1.set_other h3, hs.2.2.2.set_other h4⟩
theorem SM.set5 {b g h k : Nat} {u0 u1 u2 u3 u4 : Value} {mc ec rc oc : Array Value} {w : World} (hs : SM b g h mc ec rc oc w) (h1 : b ≠ k) (h2 : b + 1 ≠ k) (h3 : g ≠ k) (h4 : h ≠ k) : SM b g h mc ec rc oc (((((w.setCell ⟨k, 0, none⟩ u0).setCell ⟨k, 1, none⟩ u1).setCell ⟨k, 2, none⟩ u2).setCell ⟨k, 3, none⟩ u3).setCell ⟨k, 4, none⟩ u4) := ((((hs.set h1 h2 h3 h4).set h1 h2 h3 h4).set h1 h2 h3 h4).set h1 h2 h3 h4).set h1 h2 h3 h4
theorem SM.set3 {b g h k : Nat} {u0 u1 u2 : Value} {mc ec rc oc : Array Value} {w : World} (hs : SM b g h mc ec rc oc w) (h1 : b ≠ k) (h2 : b + 1 ≠ k) (h3 : g ≠ k) (h4 : h ≠ k) : SM b g h mc ec rc oc (((w.setCell ⟨k, 0, none⟩ u0).setCell ⟨k, 1, none⟩ u1).setCell ⟨k, 2, none⟩ u2) := ((hs.set h1 h2 h3 h4).set h1 h2 h3 h4).set h1 h2 h3 h4
set_option maxHeartbeats 4000000 in
set_option maxRecDepth 100000 in
theorem refStep_raw {w : World} {a : MA} {ca : CA} {m : Mc} {e : En} {B B' : Nat} (hM : m.Ok) (hc : e.c.Fits) (h : RdM w B a m) (h' : RdC w B' ca e.c) :
    Calls Tryz.prog 46 #[machV a m, entV ca e] w (GotM w w (m.step e)) := by
  obtain ⟨⟨A0, c0, A1, c1, A2, c2, A3, c3⟩, At, ct⟩ := a
  obtain ⟨Ak, ck, Av, cv, Ao, co⟩ := ca
  have HV := Lib.hid (VarsM.start (e := e) h h')
  have HM := Lib.hid hM
  have HC := Lib.hid hc
  have hlen : m.t.length ≤ 100000 := by have := hM.t8; omega
  clear h h' hM hc
  unfold machV entV
  simp only [machC, entC] at HV ⊢
  obtain ⟨K, hK⟩ : ∃ K, Tb.look m.t e.s e.q = K := ⟨_, rfl⟩
  have HLK := Lib.hid (fun (W w : World) (B : Nat) (h : RdL w B At m.t.length m.t) (hB : Below W.heap.size W w) => refLook_any (W := W) (c := ct) e.s e.q hlen HM.out.lim HM.out.t.rises h hB)
  rw [hK] at HLK
  by_cases hk : K.k = 0
  · have hkb : (K.k != 0) = false := by simpa using hk
    obtain ⟨r, hr⟩ : ∃ r, m.o.apply e.c = r := ⟨_, rfl⟩
    have HST : Hid (m.step e = ⟨⟨r.s, Tb.put m.t ⟨e.s, e.q, r.e, r.v, r.n⟩⟩, r.e, r.v, r.n⟩) := Lib.hid (by unfold Mc.step; rw [hK, if_pos hk, hr])
    have HRV : Hid (r.v.length ≤ 16) := Lib.hid (by rw [← hr]; exact (Ob.apply_fits (c := e.c) HM.out.o HM.out.lk).v)
    have HAP := Lib.hid (fun (W w : World) (a : OA) (ca : CA) (B B' : Nat) (h : RdO w B a m.o) (h' : RdC w B' ca e.c) (hB : Below W.heap.size W w) => refApply_any (W := W) HM.out.o HC.out h h' hB)
    rw [hr] at HAP
    clear hK hk hr
    go_enter Tryz.func46, Tryz.ntmps46
    go_upto_region 1 with fail
    generalize ((((w.alloc (.cells #[.slice A0 m.o.reg.length c0, .slice A1 m.o.q.length c1, .slice A2 m.o.lk.length c2, .slice A3 m.o.mp.length c3, .slice At m.t.length ct] 31)).alloc (.cells #[.int .i64 e.s, .int .i64 e.q, .int .i64 e.c.kind, .int .i64 e.c.who, .slice Ak e.c.key.length ck, .slice Av e.c.val.length cv, .slice Ao e.c.old.length co] 43)).alloc (.cells #[.slice none 0 0, .slice none 0 0, .slice none 0 0, .slice none 0 0, .slice none 0 0] 31)).alloc (.cells #[.int .i64 0, .slice none 0 0, .int .i64 0] 77)) = wa at HV ⊢
    obtain ⟨⟨x0, x1, x2, x3, x4⟩, ⟨y0, y1, y2, y3, y4, y5, y6⟩, _⟩ := HV.out.cells
    go_upto_region 6 with (first
      | (go_at_call 84; refine (HLK.out w _ _ HV.out.rm.t HV.out.bel).mono ?_; rintro en w1 ⟨A5, c5, rfl, ho1, hB1, hb1⟩; unfold resV; have HG1 := Lib.hid (HV.out.below hb1).v3.lt; have hb1' := hb1.alloc hb1.size (.cells #[.int .i64 K.e, .slice A5 K.v.length c5, .int .i64 K.n] 77); have HV1 := Lib.hid (HV.out.below hb1'); have HK1 := Lib.hid (Blk.new w1 77 #[.int .i64 K.e, .slice A5 K.v.length c5, .int .i64 K.n]); obtain ⟨⟨x0, x1, x2, x3, x4⟩, ⟨y0, y1, y2, y3, y4, y5, y6⟩, _⟩ := HV1.out.cells)
      | (go_at_call 85; refine (HAP.out w _ ⟨A0, c0, A1, c1, A2, c2, A3, c3⟩ ⟨Ak, ck, Av, cv, Ao, co⟩ _ _ HV1.out.rm.o HV1.out.rc HV1.out.bel).mono ?_; rintro en w2 ⟨a2, A6, c6, rfl, ho2, hv2, hB2, hb2⟩; unfold resV objV objC; have hb2' := hb2.alloc hb2.size (.cells #[.slice a2.A0 r.s.reg.length a2.c0, .slice a2.A1 r.s.q.length a2.c1, .slice a2.A2 r.s.lk.length a2.c2, .slice a2.A3 r.s.mp.length a2.c3] 28); have HG2 := Lib.hid (HK1.out.below hb2).lt; have HV2 := Lib.hid (HV1.out.below hb2'); have HK2 := Lib.hid (HK1.out.below hb2'); have HQ2 := Lib.hid (Blk.new w2 28 #[.slice a2.A0 r.s.reg.length a2.c0, .slice a2.A1 r.s.q.length a2.c1, .slice a2.A2 r.s.lk.length a2.c2, .slice a2.A3 r.s.mp.length a2.c3]); have HO2 := Lib.hid (ho2.below ((Below.refl _ _).alloc (Nat.le_refl _) (.cells #[.slice a2.A0 r.s.reg.length a2.c0, .slice a2.A1 r.s.q.length a2.c1, .slice a2.A2 r.s.lk.length a2.c2, .slice a2.A3 r.s.mp.length a2.c3] 28))); have HR2 := Lib.hid (own_below hv2 ((Below.refl _ _).alloc (Nat.le_refl _) (.cells #[.slice a2.A0 r.s.reg.length a2.c0, .slice a2.A1 r.s.q.length a2.c1, .slice a2.A2 r.s.lk.length a2.c2, .slice a2.A3 r.s.mp.length a2.c3] 28))); obtain ⟨k0, k1, k2, f0, f1, f2⟩ := three HK2.out; clear hb2' hb2 ho2 hv2 hB2)
      | fail)
    have hg1 := HG1.out
    have hg2 := HG2.out
    obtain ⟨p1, p2, p3⟩ := put3 HK2.out (.int .i64 r.e) (.slice A6 r.v.length c6) (.int .i64 r.n)
    have HV6 := Lib.hid (((HV2.out.set (Nat.le_refl _) hg1 (i := 0) (u := .int .i64 r.e)).set (Nat.le_refl _) hg1 (i := 1) (u := .slice A6 r.v.length c6)).set (Nat.le_refl _) hg1 (i := 2) (u := .int .i64 r.n))
    have HQ6 := Lib.hid (((HQ2.out.set_other (b := w1.heap.size) (i := 0) (u := .int .i64 r.e) (by omega)).set_other (b := w1.heap.size) (i := 1) (u := .slice A6 r.v.length c6) (by omega)).set_other (b := w1.heap.size) (i := 2) (u := .int .i64 r.n) (by omega))
    have HK6 := Lib.hid p1
    have HR6 := Lib.hid (p3 _ _ _ _ _ _ HR2.out (by decide))
    have HO6 := Lib.hid (((HO2.out.set_t HK2.out (i := 0) (u := .int .i64 r.e) (by decide) (by decide) (by decide) (by decide)).set_t (HK2.out.set_ _ _) (i := 1) (u := .slice A6 r.v.length c6) (by decide) (by decide) (by decide) (by decide)).set_t ((HK2.out.set_ _ _).set_ _ _) (i := 2) (u := .int .i64 r.n) (by decide) (by decide) (by decide) (by decide))
    clear p1 p2 p3 HV2 HQ2 HK2 HO2 HR2 HG1 HG2 HV1 HK1 HV x0 x1 x2 x3 x4 y0 y1 y2 y3 y4 y5 y6 k0 k1 k2 f0 f1 f2 HAP HLK
    generalize ((((w2.alloc (.cells #[.slice a2.A0 r.s.reg.length a2.c0, .slice a2.A1 r.s.q.length a2.c1, .slice a2.A2 r.s.lk.length a2.c2, .slice a2.A3 r.s.mp.length a2.c3] 28)).setCell ⟨w1.heap.size, 0, none⟩ (.int .i64 r.e)).setCell ⟨w1.heap.size, 1, none⟩ (.slice A6 r.v.length c6)).setCell ⟨w1.heap.size, 2, none⟩ (.int .i64 r.n)) = wx at HV6 HQ6 HK6 HR6 HO6 ⊢
    have HP := Lib.hid (fun (W w : World) (B B' : Nat) (h : RdL w B At m.t.length m.t) (h' : Rd w B' A6 r.v.length (bv r.v)) (hB : Below W.heap.size W w) => refPutL_any (W := W) (l := ⟨e.s, e.q, r.e, r.v, r.n⟩) (c := ct) (c' := c6) hlen HM.out.lim (show Lim 0 r.v.length by have := HRV.out; unfold Lim; omega) HM.out.t.rises h h' hB)
    have hbd : Below wx.heap.size wx wx.drew := (Below.refl _ _).drew
    have HV7 := Lib.hid (HV6.out.below hbd)
    have HR7 := Lib.hid (own_below HR6.out hbd)
    have HO7 := Lib.hid (HO6.out.below hbd)
    have HS7 : Hid (SM w.heap.size w1.heap.size w2.heap.size #[.slice A0 m.o.reg.length c0, .slice A1 m.o.q.length c1, .slice A2 m.o.lk.length c2, .slice A3 m.o.mp.length c3, .slice At m.t.length ct] #[.int .i64 e.s, .int .i64 e.q, .int .i64 e.c.kind, .int .i64 e.c.who, .slice Ak e.c.key.length ck, .slice Av e.c.val.length cv, .slice Ao e.c.old.length co] #[.int .i64 r.e, .slice A6 r.v.length c6, .int .i64 r.n] #[.slice a2.A0 r.s.reg.length a2.c0, .slice a2.A1 r.s.q.length a2.c1, .slice a2.A2 r.s.lk.length a2.c2, .slice a2.A3 r.s.mp.length a2.c3] wx.drew) := Lib.hid ⟨HV7.out.v0, HV7.out.v1, HK6.out.below hbd, HQ6.out.below hbd⟩
    refine wp_region_held_drew (S := SM w.heap.size w1.heap.size w2.heap.size #[.slice A0 m.o.reg.length c0, .slice A1 m.o.q.length c1, .slice A2 m.o.lk.length c2, .slice A3 m.o.mp.length c3, .slice At m.t.length ct] #[.int .i64 e.s, .int .i64 e.q, .int .i64 e.c.kind, .int .i64 e.c.who, .slice Ak e.c.key.length ck, .slice Av e.c.val.length cv, .slice Ao e.c.old.length co] #[.int .i64 r.e, .slice A6 r.v.length c6, .int .i64 r.n] #[.slice a2.A0 r.s.reg.length a2.c0, .slice a2.A1 r.s.q.length a2.c1, .slice a2.A2 r.s.lk.length a2.c2, .slice a2.A3 r.s.mp.length a2.c3]) (by kernel_rfl) HS7.out (fun _ => ?_)
    clear hbd HV6 HR6 HO6 HK6 HQ6
    generalize wx.drew = wd at HV7 HR7 HO7 HS7 ⊢
    refine wpAnyH_take (i := 1) (v := .pointer (some ⟨w.heap.size, 4, none⟩)) rfl (by kernel_rfl) (by kernel_rfl) (by kernel_rfl) (fun _ _ _ h => h) (Or.inl ⟨by kernel_rfl, fun w _ => by go_simp⟩) HS7.out ?_
    refine wpAnyH_take (i := 3) (v := .pointer (some ⟨w.heap.size + 1, 0, none⟩)) rfl (by kernel_rfl) (by kernel_rfl) (by kernel_rfl) (fun _ _ _ h => h) (Or.inl ⟨by kernel_rfl, fun w _ => by go_simp⟩) HS7.out ?_
    refine wpAnyH_take (i := 5) (v := .pointer (some ⟨w.heap.size + 1, 1, none⟩)) rfl (by kernel_rfl) (by kernel_rfl) (by kernel_rfl) (fun _ _ _ h => h) (Or.inl ⟨by kernel_rfl, fun w _ => by go_simp⟩) HS7.out ?_
    refine wpAnyH_take (i := 0) (v := .agg #[.slice a2.A0 r.s.reg.length a2.c0, .slice a2.A1 r.s.q.length a2.c1, .slice a2.A2 r.s.lk.length a2.c2, .slice a2.A3 r.s.mp.length a2.c3]) rfl (by kernel_rfl) (by kernel_rfl) (by kernel_rfl) (fun _ _ _ h => h) (Or.inl ⟨by kernel_rfl, fun w h => by obtain ⟨q0, q1, q2, q3, _⟩ := four h.2.2.2; go_simp⟩) HS7.out ?_
    refine wpAnyH_take (i := 2) (v := .slice At m.t.length ct) rfl (by kernel_rfl) (by kernel_rfl) (by kernel_rfl) (fun _ _ _ h => h) (Or.inl ⟨by kernel_rfl, fun w h => by obtain ⟨q0, q1, q2, q3, q4⟩ := five h.1; go_simp⟩) HS7.out ?_
    refine wpAnyH_take (i := 4) (v := .int .i64 e.s) rfl (by kernel_rfl) (by kernel_rfl) (by kernel_rfl) (fun _ _ _ h => h) (Or.inl ⟨by kernel_rfl, fun w h => by obtain ⟨q0, q1, q2, q3, q4, q5, q6⟩ := seven h.2.1; go_simp⟩) HS7.out ?_
    refine wpAnyH_take (i := 6) (v := .int .i64 e.q) rfl (by kernel_rfl) (by kernel_rfl) (by kernel_rfl) (fun _ _ _ h => h) (Or.inl ⟨by kernel_rfl, fun w h => by obtain ⟨q0, q1, q2, q3, q4, q5, q6⟩ := seven h.2.1; go_simp⟩) HS7.out ?_
    refine wpAnyH_take (i := 7) (v := .agg #[.int .i64 r.e, .slice A6 r.v.length c6, .int .i64 r.n]) rfl (by kernel_rfl) (by kernel_rfl) (by kernel_rfl) (fun _ _ _ h => h) (Or.inl ⟨by kernel_rfl, fun w h => by obtain ⟨q0, q1, q2, _, _, _⟩ := three h.2.2.1; go_simp⟩) HS7.out ?_
    refine wpAnyH_take (i := 10) (v := .agg #[.int .i64 r.e, .slice A6 r.v.length c6, .int .i64 r.n]) rfl (by kernel_rfl) (by kernel_rfl) (by kernel_rfl) (fun _ _ _ h => h) (Or.inl ⟨by kernel_rfl, fun w h => by obtain ⟨q0, q1, q2, _, _, _⟩ := three h.2.2.1; go_simp⟩) HS7.out ?_
    refine wpAnyH_ready (rs := [8]) (by kernel_rfl) (by simp) ?_
    refine AllReadyH.cons rfl (fun K hK => ?_) AllReadyH.nil
    go_simp
    refine (HP.out w _ _ _ HV7.out.rm.t (Rd.own_ HR7.out) HV7.out.bel).mono ?_
    rintro en w3 ⟨A7, c7, rfl, ho7, hB7, hb7⟩
    have HK8 := Lib.hid (HS7.out.2.2.1.below hb7)
    have HV8 := Lib.hid (HV7.out.below hb7)
    have HR8 := Lib.hid (own_below HR7.out hb7)
    have HO8 := Lib.hid (HO7.out.below hb7)
    have HS8 := Lib.hid (HS7.out.below hb7)
    clear HV7 HR7 HO7 HS7
    go_simp
    refine hK.out _ _ HS8.out (fun _ => ?_)
    clear hK K
    refine wpAnyH_take (i := 9) (v := .agg #[.slice a2.A0 r.s.reg.length a2.c0, .slice a2.A1 r.s.q.length a2.c1, .slice a2.A2 r.s.lk.length a2.c2, .slice a2.A3 r.s.mp.length a2.c3, .slice A7 (Tb.put m.t ⟨e.s, e.q, r.e, r.v, r.n⟩).length c7]) rfl (by kernel_rfl) (by kernel_rfl) (by kernel_rfl) (fun _ _ _ h => h) (Or.inl ⟨by kernel_rfl, fun w _ => by go_simp⟩) HS8.out ?_
    have l1 := HK8.out.lt
    have HS9 := Lib.hid (HS8.out.set5 (k := w.heap.size + 1 + 1) (u0 := .slice a2.A0 r.s.reg.length a2.c0) (u1 := .slice a2.A1 r.s.q.length a2.c1) (u2 := .slice a2.A2 r.s.lk.length a2.c2) (u3 := .slice a2.A3 r.s.mp.length a2.c3) (u4 := .slice A7 (Tb.put m.t ⟨e.s, e.q, r.e, r.v, r.n⟩).length c7) (by omega) (by omega) (by omega) (by omega))
    obtain ⟨_, _, _, _, k5⟩ := put5 HV8.out.v2 (.slice a2.A0 r.s.reg.length a2.c0) (.slice a2.A1 r.s.q.length a2.c1) (.slice a2.A2 r.s.lk.length a2.c2) (.slice a2.A3 r.s.mp.length a2.c3) (.slice A7 (Tb.put m.t ⟨e.s, e.q, r.e, r.v, r.n⟩).length c7)
    have l0 := k5 (w.heap.size + 1 + 1 + 1) _ _ (by omega) HV8.out.v3
    have HS10 := Lib.hid (HS9.out.set3 (k := w.heap.size + 1 + 1 + 1) (u0 := .int .i64 r.e) (u1 := .slice A6 r.v.length c6) (u2 := .int .i64 r.n) (by omega) (by omega) (by omega) (by omega))
    obtain ⟨e1, e2, e3⟩ := HV8.out.end_ (Nat.le_refl _) (r := ⟨⟨r.s, Tb.put m.t ⟨e.s, e.q, r.e, r.v, r.n⟩⟩, r.e, r.v, r.n⟩) (a' := ⟨a2, A7, c7⟩) ⟨HO8.out, ho7⟩ HR8.out (.slice a2.A0 r.s.reg.length a2.c0) (.slice a2.A1 r.s.q.length a2.c1) (.slice a2.A2 r.s.lk.length a2.c2) (.slice a2.A3 r.s.mp.length a2.c3) (.slice A7 (Tb.put m.t ⟨e.s, e.q, r.e, r.v, r.n⟩).length c7) (.int .i64 r.e) (.slice A6 r.v.length c6) (.int .i64 r.n) rfl rfl rfl
    have HE := Lib.hid (And.intro e1 (And.intro e2 e3))
    obtain ⟨_, _, ⟨z0, z1, z2, z3, z4⟩, ⟨u0, u1, u2⟩, ⟨q0, q1, q2, q3, q4⟩, ⟨r0, r1, r2⟩⟩ := HV8.out.cells
    obtain ⟨p0, p1, p2, d0, d1, d2⟩ := three l0
    clear k5 l0 e1 e2 e3 r0 r1 r2 u0 u1 u2
    refine wpAnyH_ready (rs := [11]) (by kernel_rfl) (by simp) ?_
    refine AllReadyH.cons rfl (fun K hK => ?_) AllReadyH.nil
    go_simp
    refine hK.out _ _ HS9.out (fun _ => ?_)
    clear hK K
    clear z0 z1 z2 z3 z4 q0 q1 q2 q3 q4
    generalize (((((w3.setCell ⟨w.heap.size + 1 + 1, 0, none⟩ (.slice a2.A0 r.s.reg.length a2.c0)).setCell ⟨w.heap.size + 1 + 1, 1, none⟩ (.slice a2.A1 r.s.q.length a2.c1)).setCell ⟨w.heap.size + 1 + 1, 2, none⟩ (.slice a2.A2 r.s.lk.length a2.c2)).setCell ⟨w.heap.size + 1 + 1, 3, none⟩ (.slice a2.A3 r.s.mp.length a2.c3)).setCell ⟨w.heap.size + 1 + 1, 4, none⟩ (.slice A7 (Tb.put m.t ⟨e.s, e.q, r.e, r.v, r.n⟩).length c7)) = w9 at HE HS9 HS10 p0 p1 p2 d0 d1 d2 ⊢
    refine wpAnyH_ready (rs := [12]) (by kernel_rfl) (by simp) ?_
    refine AllReadyH.cons rfl (fun K hK => ?_) AllReadyH.nil
    go_simp
    refine hK.out _ _ HS10.out (fun _ => ?_)
    clear hK K
    refine wpAnyH_done (by kernel_rfl) ?_ _
    go_wp2_with fail
    refine bodyPost_ret (results_cells2 rfl _ _ _ _ _ _ _ _ _ _ rfl rfl HE.out.1 HE.out.2.1 Tryz.underlying31 rfl (by kernel_rfl) Tryz.underlying77 rfl (by kernel_rfl)) rfl ?_
    rw [HST.out]
    exact HE.out.2.2
  · have hkb : (K.k != 0) = true := by simpa using hk
    have HST : Hid (m.step e = ⟨m, K.e, K.v, K.n⟩) := Lib.hid (by unfold Mc.step; rw [hK, if_neg hk])
    have HAP := Lib.hid (fun (W w : World) (a : OA) (B : Nat) (h : RdO w B a m.o) (hB : Below W.heap.size W w) => refApply_any (W := W) HM.out.o Cm.Fits.zero h (RdC.zero w w.heap.size) hB)
    rw [apply_zero] at HAP
    clear hK hk
    go_enter Tryz.func46, Tryz.ntmps46
    go_upto_region 1 with fail
    generalize ((((w.alloc (.cells #[.slice A0 m.o.reg.length c0, .slice A1 m.o.q.length c1, .slice A2 m.o.lk.length c2, .slice A3 m.o.mp.length c3, .slice At m.t.length ct] 31)).alloc (.cells #[.int .i64 e.s, .int .i64 e.q, .int .i64 e.c.kind, .int .i64 e.c.who, .slice Ak e.c.key.length ck, .slice Av e.c.val.length cv, .slice Ao e.c.old.length co] 43)).alloc (.cells #[.slice none 0 0, .slice none 0 0, .slice none 0 0, .slice none 0 0, .slice none 0 0] 31)).alloc (.cells #[.int .i64 0, .slice none 0 0, .int .i64 0] 77)) = wa at HV ⊢
    obtain ⟨⟨x0, x1, x2, x3, x4⟩, ⟨y0, y1, y2, y3, y4, y5, y6⟩, _⟩ := HV.out.cells
    go_upto_region 4 with (first
      | (go_at_call 84; refine (HLK.out w _ _ HV.out.rm.t HV.out.bel).mono ?_; rintro en w1 ⟨A5, c5, rfl, ho1, hB1, hb1⟩; unfold resV; have HG1 := Lib.hid (HV.out.below hb1).v3.lt; have hb1' := hb1.alloc hb1.size (.cells #[.int .i64 K.e, .slice A5 K.v.length c5, .int .i64 K.n] 77); have HV1 := Lib.hid (HV.out.below hb1'); have HK1 := Lib.hid (Blk.new w1 77 #[.int .i64 K.e, .slice A5 K.v.length c5, .int .i64 K.n]); have HO1 := Lib.hid (own_below ho1 ((Below.refl _ _).alloc (Nat.le_refl _) (.cells #[.int .i64 K.e, .slice A5 K.v.length c5, .int .i64 K.n] 77))); obtain ⟨⟨x0, x1, x2, x3, x4⟩, ⟨y0, y1, y2, y3, y4, y5, y6⟩, _⟩ := HV1.out.cells)
      | (go_at_call 85; refine (HAP.out w _ ⟨A0, c0, A1, c1, A2, c2, A3, c3⟩ _ HV1.out.rm.o HV1.out.bel).mono ?_; rintro en w2 ⟨a2, A6, c6, rfl, ho2, hv2, hB2, hb2⟩; have HG3 := Lib.hid (HK1.out.below hb2).lt; unfold resV objV objC; simp only [List.length_nil])
      | fail)
    generalize hwx : ((w2.alloc (.cells #[.slice a2.A0 m.o.reg.length a2.c0, .slice a2.A1 m.o.q.length a2.c1, .slice a2.A2 m.o.lk.length a2.c2, .slice a2.A3 m.o.mp.length a2.c3] 28)).alloc (.cells #[.int .i64 7, .slice A6 0 c6, .int .i64 0] 77)) = wx
    have hb2' : Below (w1.alloc (.cells #[.int .i64 K.e, .slice A5 K.v.length c5, .int .i64 K.n] 77)).heap.size (w1.alloc (.cells #[.int .i64 K.e, .slice A5 K.v.length c5, .int .i64 K.n] 77)) wx := by rw [← hwx]; exact (hb2.alloc hb2.size _).alloc (hb2.alloc hb2.size _).size _
    have HV6 := Lib.hid (HV1.out.below hb2')
    have HK6 := Lib.hid (HK1.out.below hb2')
    have HR6 := Lib.hid (own_below HO1.out hb2')
    have hbx : Below w2.heap.size w2 wx := by rw [← hwx]; exact ((Below.refl _ _).alloc (Nat.le_refl _) _).alloc (by simp) _
    have HO6 := Lib.hid (ho2.below hbx)
    have HQ6 : Hid (Blk wx w2.heap.size 28 #[.slice a2.A0 m.o.reg.length a2.c0, .slice a2.A1 m.o.q.length a2.c1, .slice a2.A2 m.o.lk.length a2.c2, .slice a2.A3 m.o.mp.length a2.c3]) := Lib.hid (by rw [← hwx]; exact (Blk.new w2 _ _).alloc _)
    clear hwx hb2' hbx HV1 HK1 HO1 HV x0 x1 x2 x3 x4 y0 y1 y2 y3 y4 y5 y6 HAP HLK ho2 hv2 hB2 hb2 ho1 hB1 hb1 hb1'
    have HP := Lib.hid (fun (W w : World) (B : Nat) (h : RdL w B At m.t.length m.t) (hB : Below W.heap.size W w) => refTable_any (W := W) (c := ct) hlen HM.out.lim h hB)
    have hg1 := HG1.out
    have hg2 : w1.heap.size < w2.heap.size := HG3.out
    have hbd : Below wx.heap.size wx wx.drew := (Below.refl _ _).drew
    have HV7 := Lib.hid (HV6.out.below hbd)
    have HR7 := Lib.hid (own_below HR6.out hbd)
    have HO7 := Lib.hid (HO6.out.below hbd)
    have HS7 : Hid (SM w.heap.size w1.heap.size w2.heap.size #[.slice A0 m.o.reg.length c0, .slice A1 m.o.q.length c1, .slice A2 m.o.lk.length c2, .slice A3 m.o.mp.length c3, .slice At m.t.length ct] #[.int .i64 e.s, .int .i64 e.q, .int .i64 e.c.kind, .int .i64 e.c.who, .slice Ak e.c.key.length ck, .slice Av e.c.val.length cv, .slice Ao e.c.old.length co] #[.int .i64 K.e, .slice A5 K.v.length c5, .int .i64 K.n] #[.slice a2.A0 m.o.reg.length a2.c0, .slice a2.A1 m.o.q.length a2.c1, .slice a2.A2 m.o.lk.length a2.c2, .slice a2.A3 m.o.mp.length a2.c3] wx.drew) := Lib.hid ⟨HV7.out.v0, HV7.out.v1, HK6.out.below hbd, HQ6.out.below hbd⟩
    refine wp_region_held_drew (S := SM w.heap.size w1.heap.size w2.heap.size #[.slice A0 m.o.reg.length c0, .slice A1 m.o.q.length c1, .slice A2 m.o.lk.length c2, .slice A3 m.o.mp.length c3, .slice At m.t.length ct] #[.int .i64 e.s, .int .i64 e.q, .int .i64 e.c.kind, .int .i64 e.c.who, .slice Ak e.c.key.length ck, .slice Av e.c.val.length cv, .slice Ao e.c.old.length co] #[.int .i64 K.e, .slice A5 K.v.length c5, .int .i64 K.n] #[.slice a2.A0 m.o.reg.length a2.c0, .slice a2.A1 m.o.q.length a2.c1, .slice a2.A2 m.o.lk.length a2.c2, .slice a2.A3 m.o.mp.length a2.c3]) (by kernel_rfl) HS7.out (fun _ => ?_)
    clear hbd HV6 HR6 HO6 HK6 HQ6
    generalize wx.drew = wd at HV7 HR7 HO7 HS7 ⊢
    refine wpAnyH_take (i := 1) (v := .pointer (some ⟨w.heap.size, 4, none⟩)) rfl (by kernel_rfl) (by kernel_rfl) (by kernel_rfl) (fun _ _ _ h => h) (Or.inl ⟨by kernel_rfl, fun w _ => by go_simp⟩) HS7.out ?_
    refine wpAnyH_take (i := 0) (v := .agg #[.slice a2.A0 m.o.reg.length a2.c0, .slice a2.A1 m.o.q.length a2.c1, .slice a2.A2 m.o.lk.length a2.c2, .slice a2.A3 m.o.mp.length a2.c3]) rfl (by kernel_rfl) (by kernel_rfl) (by kernel_rfl) (fun _ _ _ h => h) (Or.inl ⟨by kernel_rfl, fun w h => by obtain ⟨q0, q1, q2, q3, _⟩ := four h.2.2.2; go_simp⟩) HS7.out ?_
    refine wpAnyH_take (i := 2) (v := .slice At m.t.length ct) rfl (by kernel_rfl) (by kernel_rfl) (by kernel_rfl) (fun _ _ _ h => h) (Or.inl ⟨by kernel_rfl, fun w h => by obtain ⟨q0, q1, q2, q3, q4⟩ := five h.1; go_simp⟩) HS7.out ?_
    refine wpAnyH_take (i := 5) (v := .agg #[.int .i64 K.e, .slice A5 K.v.length c5, .int .i64 K.n]) rfl (by kernel_rfl) (by kernel_rfl) (by kernel_rfl) (fun _ _ _ h => h) (Or.inl ⟨by kernel_rfl, fun w h => by obtain ⟨q0, q1, q2, _, _, _⟩ := three h.2.2.1; go_simp⟩) HS7.out ?_
    refine wpAnyH_ready (rs := [3]) (by kernel_rfl) (by simp) ?_
    refine AllReadyH.cons rfl (fun K hK => ?_) AllReadyH.nil
    go_simp
    refine (HP.out w _ _ HV7.out.rm.t HV7.out.bel).mono ?_
    rintro en w3 ⟨A7, c7, rfl, ho7, hB7, hb7⟩
    have HK8 := Lib.hid (HS7.out.2.2.1.below hb7)
    have HV8 := Lib.hid (HV7.out.below hb7)
    have HR8 := Lib.hid (own_below HR7.out hb7)
    have HO8 := Lib.hid (HO7.out.below hb7)
    have HS8 := Lib.hid (HS7.out.below hb7)
    clear HV7 HR7 HO7 HS7
    go_simp
    refine hK.out _ _ HS8.out (fun _ => ?_)
    clear hK K
    refine wpAnyH_take (i := 4) (v := .agg #[.slice a2.A0 m.o.reg.length a2.c0, .slice a2.A1 m.o.q.length a2.c1, .slice a2.A2 m.o.lk.length a2.c2, .slice a2.A3 m.o.mp.length a2.c3, .slice A7 m.t.length c7]) rfl (by kernel_rfl) (by kernel_rfl) (by kernel_rfl) (fun _ _ _ h => h) (Or.inl ⟨by kernel_rfl, fun w _ => by go_simp⟩) HS8.out ?_
    have l1 := HK8.out.lt
    have HS9 := Lib.hid (HS8.out.set5 (k := w.heap.size + 1 + 1) (u0 := .slice a2.A0 m.o.reg.length a2.c0) (u1 := .slice a2.A1 m.o.q.length a2.c1) (u2 := .slice a2.A2 m.o.lk.length a2.c2) (u3 := .slice a2.A3 m.o.mp.length a2.c3) (u4 := .slice A7 m.t.length c7) (by omega) (by omega) (by omega) (by omega))
    obtain ⟨_, _, _, _, k5⟩ := put5 HV8.out.v2 (.slice a2.A0 m.o.reg.length a2.c0) (.slice a2.A1 m.o.q.length a2.c1) (.slice a2.A2 m.o.lk.length a2.c2) (.slice a2.A3 m.o.mp.length a2.c3) (.slice A7 m.t.length c7)
    have l0 := k5 (w.heap.size + 1 + 1 + 1) _ _ (by omega) HV8.out.v3
    have HS10 := Lib.hid (HS9.out.set3 (k := w.heap.size + 1 + 1 + 1) (u0 := .int .i64 K.e) (u1 := .slice A5 K.v.length c5) (u2 := .int .i64 K.n) (by omega) (by omega) (by omega) (by omega))
    obtain ⟨e1, e2, e3⟩ := HV8.out.end_ (Nat.le_refl _) (r := ⟨m, K.e, K.v, K.n⟩) (a' := ⟨a2, A7, c7⟩) ⟨HO8.out, ho7⟩ HR8.out (.slice a2.A0 m.o.reg.length a2.c0) (.slice a2.A1 m.o.q.length a2.c1) (.slice a2.A2 m.o.lk.length a2.c2) (.slice a2.A3 m.o.mp.length a2.c3) (.slice A7 m.t.length c7) (.int .i64 K.e) (.slice A5 K.v.length c5) (.int .i64 K.n) rfl rfl rfl
    have HE := Lib.hid (And.intro e1 (And.intro e2 e3))
    obtain ⟨_, _, ⟨z0, z1, z2, z3, z4⟩, ⟨u0, u1, u2⟩, ⟨q0, q1, q2, q3, q4⟩, ⟨r0, r1, r2⟩⟩ := HV8.out.cells
    obtain ⟨p0, p1, p2, d0, d1, d2⟩ := three l0
    clear k5 l0 e1 e2 e3 r0 r1 r2 u0 u1 u2
    refine wpAnyH_ready (rs := [6]) (by kernel_rfl) (by simp) ?_
    refine AllReadyH.cons rfl (fun K hK => ?_) AllReadyH.nil
    go_simp
    refine hK.out _ _ HS9.out (fun _ => ?_)
    clear hK K
    clear z0 z1 z2 z3 z4 q0 q1 q2 q3 q4
    generalize (((((w3.setCell ⟨w.heap.size + 1 + 1, 0, none⟩ (.slice a2.A0 m.o.reg.length a2.c0)).setCell ⟨w.heap.size + 1 + 1, 1, none⟩ (.slice a2.A1 m.o.q.length a2.c1)).setCell ⟨w.heap.size + 1 + 1, 2, none⟩ (.slice a2.A2 m.o.lk.length a2.c2)).setCell ⟨w.heap.size + 1 + 1, 3, none⟩ (.slice a2.A3 m.o.mp.length a2.c3)).setCell ⟨w.heap.size + 1 + 1, 4, none⟩ (.slice A7 m.t.length c7)) = w9 at HE HS9 HS10 p0 p1 p2 d0 d1 d2 ⊢
    refine wpAnyH_ready (rs := [7]) (by kernel_rfl) (by simp) ?_
    refine AllReadyH.cons rfl (fun K hK => ?_) AllReadyH.nil
    go_simp
    refine hK.out _ _ HS10.out (fun _ => ?_)
    clear hK K
    refine wpAnyH_done (by kernel_rfl) ?_ _
    go_wp2_with fail
    refine bodyPost_ret (results_cells2 rfl _ _ _ _ _ _ _ _ _ _ rfl rfl HE.out.1 HE.out.2.1 Tryz.underlying31 rfl (by kernel_rfl) Tryz.underlying77 rfl (by kernel_rfl)) rfl ?_
    rw [HST.out]
    exact HE.out.2.2
theorem refStep_any {W w : World} {a : MA} {ca : CA} {m : Mc} {e : En} {B B' : Nat} (hM : m.Ok) (hc : e.c.Fits) (h : RdM w B a m) (h' : RdC w B' ca e.c) (hB : Below W.heap.size W w) :
    Calls Tryz.prog 46 #[machV a m, entV ca e] w (GotM W w (m.step e)) :=
  (refStep_raw hM hc h h').mono fun e w' h => GotM.of hB h
end Go.Proofs.YtmekamgohonffaaGreat

namespace Go.Proofs.YtmekamgohonffaaGreat
open Go.RowKit
set_option linter.unusedVariables false
set_option maxHeartbeats 4000000 in
set_option maxRecDepth 100000 in
theorem sameT_any (w : World) {A A' : Option Addr} {n c n' c' B B' : Nat} {ls ls' : List Ls} (hn : n ≤ 100000) (hn' : n' ≤ 100000) (hb : BytesLs ls) (hb' : BytesLs ls') (h : RdL w B A n ls) (h' : RdL w B' A' n' ls') :
    Calls Tryz.prog 44 #[.slice A n c, .slice A' n' c'] w fun e w' => e = .returned (.bool (decide (ls = ls'))) ∧ Below w.heap.size w w' := by
  obtain rfl := h.length
  obtain rfl := h'.length
  have H := Lib.hid h.fit
  have H' := Lib.hid h'.fit
  have HBY := Lib.hid hb
  have HBY' := Lib.hid hb'
  clear h h' hb hb'
  obtain ⟨D, hD⟩ : ∃ D, decide (ls = ls') = D := ⟨_, rfl⟩
  rw [hD]
  have HDD := Lib.hid hD
  clear hD
  by_cases hlen : (ls.length : Int) = (ls'.length : Int)
  · have hlb : ((ls.length : Int) == (ls'.length : Int)) = true := by simpa using hlen
    have hln : ls.length = ls'.length := by omega
    have HLN := Lib.hid hln
    have hlen2 : ((ls.length : Int) != (ls'.length : Int)) = false := by simpa using hlen
    clear hln
    go_enter Tryz.func44, Tryz.ntmps44
    go_wp2_with fail
    go_loopw [5] (fun i wr => ∃ j : Nat, j ≤ ls.length ∧ i = .int .i64 j ∧ Hid (∀ i, i < j → ls[i]? = ls'[i]?) ∧ Hid (Below w.heap.size w wr)) (fun i _ => ls.length - (intOf i).toNat)
    case atStart => exact ⟨0, Nat.zero_le _, rfl, Lib.hid (fun i hi => absurd hi (by omega)), Lib.hid (Below.refl _ _)⟩
    case round =>
      obtain ⟨j, hj, rfl, HQ, HB⟩ := hrel
      by_cases hlt : j < ls.length
      · have hlt' : j < ls'.length := by have := HLN.out; omega
        obtain ⟨b, o, l, A1, c1, rfl, hl, y0, y1, y2, y3, y4, hrd⟩ := (H.out.below' HB.out).at hlt
        obtain ⟨b', o', l', A2, c2, rfl, hl', z0, z1, z2, z3, z4, hrd'⟩ := (H'.out.below' HB.out).at hlt'
        have HX := Lib.hid hl
        have HX' := Lib.hid hl'
        have HBL := Lib.hid (HBY.out l (List.mem_of_getElem? hl))
        have HBL' := Lib.hid (HBY'.out l' (List.mem_of_getElem? hl'))
        have HRD := Lib.hid hrd
        have HRD' := Lib.hid hrd'
        have hv : IntKind.i64.wrap ((j : Int) + 1) = (j : Int) + 1 := IntWalk.i64_in _ (by omega)
        have hjl : (j : Int) < (ls.length : Int) := by omega
        have hjl' : (j : Int) < (ls'.length : Int) := by omega
        have hj0 : (0 : Int) ≤ (j : Int) := by omega
        clear hl hl' hrd hrd' hlt' hlen hlb hlen2
        have hb0 := World.block_lt_of_cell? _ _ y0
        have hb1 := World.block_lt_of_cell? _ _ z0
        have HC : Hid (∀ wx, Below wr.heap.size wr wx → ((fun w' => (w'.cell? ⟨b, o + j * 5, none⟩ = some (.int .i64 l.s) ∧ w'.cell? ⟨b, o + j * 5 + 1, none⟩ = some (.int .i64 l.q) ∧ w'.cell? ⟨b, o + j * 5 + 2, none⟩ = some (.int .i64 l.e) ∧ w'.cell? ⟨b, o + j * 5 + 3, none⟩ = some (.slice A1 l.v.length c1) ∧ w'.cell? ⟨b, o + j * 5 + 4, none⟩ = some (.int .i64 l.n)) ∧ w'.cell? ⟨b', o' + j * 5, none⟩ = some (.int .i64 l'.s) ∧ w'.cell? ⟨b', o' + j * 5 + 1, none⟩ = some (.int .i64 l'.q) ∧ w'.cell? ⟨b', o' + j * 5 + 2, none⟩ = some (.int .i64 l'.e) ∧ w'.cell? ⟨b', o' + j * 5 + 3, none⟩ = some (.slice A2 l'.v.length c2) ∧ w'.cell? ⟨b', o' + j * 5 + 4, none⟩ = some (.int .i64 l'.n)) wx)) := Lib.hid (fun wx hb =>
          ⟨⟨(hb.cell (p := ⟨b, o + j * 5, none⟩) hb0).trans y0, (hb.cell (p := ⟨b, o + j * 5 + 1, none⟩) hb0).trans y1, (hb.cell (p := ⟨b, o + j * 5 + 2, none⟩) hb0).trans y2, (hb.cell (p := ⟨b, o + j * 5 + 3, none⟩) hb0).trans y3, (hb.cell (p := ⟨b, o + j * 5 + 4, none⟩) hb0).trans y4⟩,
           (hb.cell (p := ⟨b', o' + j * 5, none⟩) hb1).trans z0, (hb.cell (p := ⟨b', o' + j * 5 + 1, none⟩) hb1).trans z1, (hb.cell (p := ⟨b', o' + j * 5 + 2, none⟩) hb1).trans z2, (hb.cell (p := ⟨b', o' + j * 5 + 3, none⟩) hb1).trans z3, (hb.cell (p := ⟨b', o' + j * 5 + 4, none⟩) hb1).trans z4⟩)
        simp only at HC
        clear y0 y1 y2 y3 y4 z0 z1 z2 z3 z4 hb0 hb1
        by_cases hs : l.s = l'.s
        · have hsb : (l.s == l'.s) = true := by simpa using hs
          have hsn : (l.s != l'.s) = false := by simpa using hs
          by_cases hq : l.q = l'.q
          · have hqb : (l.q == l'.q) = true := by simpa using hq
            have hqn : (l.q != l'.q) = false := by simpa using hq
            by_cases hr : l.e = l'.e ∧ l.v = l'.v ∧ l.n = l'.n
            · have HRV : Hid ((decide (l.e = l'.e) && decide (l.v = l'.v) && decide (l.n = l'.n)) = true) := Lib.hid (by simp [hr.1, hr.2.1, hr.2.2])
              have HEQ : Hid (l = l') := Lib.hid ((Ls.eq_iff _ _).2 ⟨hs, hq, hr.1, hr.2.1, hr.2.2⟩)
              clear hs hq hr
              go_upto_region 6 with fail
              have hbw : Below wr.heap.size wr wr.drew := (Below.refl _ _).drew
              have hS0 := HC.out _ hbw
              refine wp_region_held_drew (S := fun w' => (w'.cell? ⟨b, o + j * 5, none⟩ = some (.int .i64 l.s) ∧ w'.cell? ⟨b, o + j * 5 + 1, none⟩ = some (.int .i64 l.q) ∧ w'.cell? ⟨b, o + j * 5 + 2, none⟩ = some (.int .i64 l.e) ∧ w'.cell? ⟨b, o + j * 5 + 3, none⟩ = some (.slice A1 l.v.length c1) ∧ w'.cell? ⟨b, o + j * 5 + 4, none⟩ = some (.int .i64 l.n)) ∧ w'.cell? ⟨b', o' + j * 5, none⟩ = some (.int .i64 l'.s) ∧ w'.cell? ⟨b', o' + j * 5 + 1, none⟩ = some (.int .i64 l'.q) ∧ w'.cell? ⟨b', o' + j * 5 + 2, none⟩ = some (.int .i64 l'.e) ∧ w'.cell? ⟨b', o' + j * 5 + 3, none⟩ = some (.slice A2 l'.v.length c2) ∧ w'.cell? ⟨b', o' + j * 5 + 4, none⟩ = some (.int .i64 l'.n)) (by kernel_rfl) hS0 (fun _ => ?_)
              generalize wr.drew = w4 at hS0 hbw ⊢
              have hS := Lib.hid hS0
              have HB4 := Lib.hid hbw
              clear hS0 hbw
              refine wpAnyH_take (i := 0) (v := .slice (some ⟨b, o, none⟩) ls.length c) rfl (by kernel_rfl) (by kernel_rfl) (by kernel_rfl) (fun _ _ _ h => h) (Or.inl ⟨by kernel_rfl, fun w _ => by go_simp⟩) hS.out ?_
              refine wpAnyH_take (i := 1) (v := .int .i64 (j : Int)) rfl (by kernel_rfl) (by kernel_rfl) (by kernel_rfl) (fun _ _ _ h => h) (Or.inl ⟨by kernel_rfl, fun w _ => by go_simp⟩) hS.out ?_
              refine wpAnyH_take (i := 2) (v := .pointer (some ⟨b, o + j * 5, none⟩)) rfl (by kernel_rfl) (by kernel_rfl) (by kernel_rfl) (fun _ _ _ h => h) (Or.inl ⟨by kernel_rfl, fun w _ => by go_simp⟩) hS.out ?_
              refine wpAnyH_take (i := 3) (v := .pointer (some ⟨b, o + j * 5, none⟩)) rfl (by kernel_rfl) (by kernel_rfl) (by kernel_rfl) (fun _ _ _ h => h) (Or.inl ⟨by kernel_rfl, fun w _ => by go_simp⟩) hS.out ?_
              refine wpAnyH_take (i := 4) (v := .int .i64 l.s) rfl (by kernel_rfl) (by kernel_rfl) (by kernel_rfl) (fun _ _ _ h => h) (Or.inl ⟨by kernel_rfl, fun w h => by obtain ⟨⟨y0, y1, y2, y3, y4⟩, z0, z1, z2, z3, z4⟩ := h; go_simp⟩) hS.out ?_
              refine wpAnyH_take (i := 5) (v := .slice (some ⟨b', o', none⟩) ls'.length c') rfl (by kernel_rfl) (by kernel_rfl) (by kernel_rfl) (fun _ _ _ h => h) (Or.inl ⟨by kernel_rfl, fun w _ => by go_simp⟩) hS.out ?_
              refine wpAnyH_take (i := 6) (v := .int .i64 (j : Int)) rfl (by kernel_rfl) (by kernel_rfl) (by kernel_rfl) (fun _ _ _ h => h) (Or.inl ⟨by kernel_rfl, fun w _ => by go_simp⟩) hS.out ?_
              refine wpAnyH_take (i := 7) (v := .pointer (some ⟨b', o' + j * 5, none⟩)) rfl (by kernel_rfl) (by kernel_rfl) (by kernel_rfl) (fun _ _ _ h => h) (Or.inl ⟨by kernel_rfl, fun w _ => by go_simp⟩) hS.out ?_
              refine wpAnyH_take (i := 8) (v := .pointer (some ⟨b', o' + j * 5, none⟩)) rfl (by kernel_rfl) (by kernel_rfl) (by kernel_rfl) (fun _ _ _ h => h) (Or.inl ⟨by kernel_rfl, fun w _ => by go_simp⟩) hS.out ?_
              refine wpAnyH_take (i := 9) (v := .int .i64 l'.s) rfl (by kernel_rfl) (by kernel_rfl) (by kernel_rfl) (fun _ _ _ h => h) (Or.inl ⟨by kernel_rfl, fun w h => by obtain ⟨⟨y0, y1, y2, y3, y4⟩, z0, z1, z2, z3, z4⟩ := h; go_simp⟩) hS.out ?_
              refine wpAnyH_take (i := 10) (v := .bool false) rfl (by kernel_rfl) (by kernel_rfl) (by kernel_rfl) (fun _ _ _ h => h) (Or.inl ⟨by kernel_rfl, fun w _ => by go_simp⟩) hS.out ?_
              refine wpAnyH_take (i := 11) (v := .bool false) rfl (by kernel_rfl) (by kernel_rfl) (by kernel_rfl) (fun _ _ _ h => h) (Or.inl ⟨by kernel_rfl, fun w _ => by go_simp⟩) hS.out ?_
              refine wpAnyH_take (i := 12) (v := .slice (some ⟨b, o, none⟩) ls.length c) rfl (by kernel_rfl) (by kernel_rfl) (by kernel_rfl) (fun _ _ _ h => h) (Or.inl ⟨by kernel_rfl, fun w _ => by go_simp⟩) hS.out ?_
              refine wpAnyH_take (i := 13) (v := .int .i64 (j : Int)) rfl (by kernel_rfl) (by kernel_rfl) (by kernel_rfl) (fun _ _ _ h => h) (Or.inl ⟨by kernel_rfl, fun w _ => by go_simp⟩) hS.out ?_
              refine wpAnyH_take (i := 14) (v := .pointer (some ⟨b, o + j * 5, none⟩)) rfl (by kernel_rfl) (by kernel_rfl) (by kernel_rfl) (fun _ _ _ h => h) (Or.inl ⟨by kernel_rfl, fun w _ => by go_simp⟩) hS.out ?_
              refine wpAnyH_take (i := 15) (v := .pointer (some ⟨b, o + j * 5 + 1, none⟩)) rfl (by kernel_rfl) (by kernel_rfl) (by kernel_rfl) (fun _ _ _ h => h) (Or.inl ⟨by kernel_rfl, fun w _ => by go_simp⟩) hS.out ?_
              refine wpAnyH_take (i := 16) (v := .int .i64 l.q) rfl (by kernel_rfl) (by kernel_rfl) (by kernel_rfl) (fun _ _ _ h => h) (Or.inl ⟨by kernel_rfl, fun w h => by obtain ⟨⟨y0, y1, y2, y3, y4⟩, z0, z1, z2, z3, z4⟩ := h; go_simp⟩) hS.out ?_
              refine wpAnyH_take (i := 17) (v := .slice (some ⟨b', o', none⟩) ls'.length c') rfl (by kernel_rfl) (by kernel_rfl) (by kernel_rfl) (fun _ _ _ h => h) (Or.inl ⟨by kernel_rfl, fun w _ => by go_simp⟩) hS.out ?_
              refine wpAnyH_take (i := 18) (v := .int .i64 (j : Int)) rfl (by kernel_rfl) (by kernel_rfl) (by kernel_rfl) (fun _ _ _ h => h) (Or.inl ⟨by kernel_rfl, fun w _ => by go_simp⟩) hS.out ?_
              refine wpAnyH_take (i := 19) (v := .pointer (some ⟨b', o' + j * 5, none⟩)) rfl (by kernel_rfl) (by kernel_rfl) (by kernel_rfl) (fun _ _ _ h => h) (Or.inl ⟨by kernel_rfl, fun w _ => by go_simp⟩) hS.out ?_
              refine wpAnyH_take (i := 20) (v := .pointer (some ⟨b', o' + j * 5 + 1, none⟩)) rfl (by kernel_rfl) (by kernel_rfl) (by kernel_rfl) (fun _ _ _ h => h) (Or.inl ⟨by kernel_rfl, fun w _ => by go_simp⟩) hS.out ?_
              refine wpAnyH_take (i := 21) (v := .int .i64 l'.q) rfl (by kernel_rfl) (by kernel_rfl) (by kernel_rfl) (fun _ _ _ h => h) (Or.inl ⟨by kernel_rfl, fun w h => by obtain ⟨⟨y0, y1, y2, y3, y4⟩, z0, z1, z2, z3, z4⟩ := h; go_simp⟩) hS.out ?_
              refine wpAnyH_take (i := 22) (v := .bool false) rfl (by kernel_rfl) (by kernel_rfl) (by kernel_rfl) (fun _ _ _ h => h) (Or.inl ⟨by kernel_rfl, fun w _ => by go_simp⟩) hS.out ?_
              refine wpAnyH_take (i := 23) (v := .bool false) rfl (by kernel_rfl) (by kernel_rfl) (by kernel_rfl) (fun _ _ _ h => h) (Or.inl ⟨by kernel_rfl, fun w _ => by go_simp⟩) hS.out ?_
              refine wpAnyH_take (i := 24) (v := .bool false) rfl (by kernel_rfl) (by kernel_rfl) (by kernel_rfl) (fun _ _ _ h => h) (Or.inl ⟨by kernel_rfl, fun w _ => by go_simp⟩) hS.out ?_
              refine wpAnyH_take (i := 25) (v := .slice (some ⟨b, o, none⟩) ls.length c) rfl (by kernel_rfl) (by kernel_rfl) (by kernel_rfl) (fun _ _ _ h => h) (Or.inl ⟨by kernel_rfl, fun w _ => by go_simp⟩) hS.out ?_
              refine wpAnyH_take (i := 26) (v := .int .i64 (j : Int)) rfl (by kernel_rfl) (by kernel_rfl) (by kernel_rfl) (fun _ _ _ h => h) (Or.inl ⟨by kernel_rfl, fun w _ => by go_simp⟩) hS.out ?_
              refine wpAnyH_take (i := 27) (v := .pointer (some ⟨b, o + j * 5, none⟩)) rfl (by kernel_rfl) (by kernel_rfl) (by kernel_rfl) (fun _ _ _ h => h) (Or.inl ⟨by kernel_rfl, fun w _ => by go_simp⟩) hS.out ?_
              refine wpAnyH_take (i := 28) (v := .pointer (some ⟨b, o + j * 5 + 2, none⟩)) rfl (by kernel_rfl) (by kernel_rfl) (by kernel_rfl) (fun _ _ _ h => h) (Or.inl ⟨by kernel_rfl, fun w _ => by go_simp⟩) hS.out ?_
              refine wpAnyH_take (i := 29) (v := .agg #[.int .i64 l.e, .slice A1 l.v.length c1, .int .i64 l.n]) rfl (by kernel_rfl) (by kernel_rfl) (by kernel_rfl) (fun _ _ _ h => h) (Or.inl ⟨by kernel_rfl, fun w h => by obtain ⟨⟨y0, y1, y2, y3, y4⟩, z0, z1, z2, z3, z4⟩ := h; go_simp⟩) hS.out ?_
              refine wpAnyH_take (i := 30) (v := .slice (some ⟨b', o', none⟩) ls'.length c') rfl (by kernel_rfl) (by kernel_rfl) (by kernel_rfl) (fun _ _ _ h => h) (Or.inl ⟨by kernel_rfl, fun w _ => by go_simp⟩) hS.out ?_
              refine wpAnyH_take (i := 31) (v := .int .i64 (j : Int)) rfl (by kernel_rfl) (by kernel_rfl) (by kernel_rfl) (fun _ _ _ h => h) (Or.inl ⟨by kernel_rfl, fun w _ => by go_simp⟩) hS.out ?_
              refine wpAnyH_take (i := 32) (v := .pointer (some ⟨b', o' + j * 5, none⟩)) rfl (by kernel_rfl) (by kernel_rfl) (by kernel_rfl) (fun _ _ _ h => h) (Or.inl ⟨by kernel_rfl, fun w _ => by go_simp⟩) hS.out ?_
              refine wpAnyH_take (i := 33) (v := .pointer (some ⟨b', o' + j * 5 + 2, none⟩)) rfl (by kernel_rfl) (by kernel_rfl) (by kernel_rfl) (fun _ _ _ h => h) (Or.inl ⟨by kernel_rfl, fun w _ => by go_simp⟩) hS.out ?_
              refine wpAnyH_take (i := 34) (v := .agg #[.int .i64 l'.e, .slice A2 l'.v.length c2, .int .i64 l'.n]) rfl (by kernel_rfl) (by kernel_rfl) (by kernel_rfl) (fun _ _ _ h => h) (Or.inl ⟨by kernel_rfl, fun w h => by obtain ⟨⟨y0, y1, y2, y3, y4⟩, z0, z1, z2, z3, z4⟩ := h; go_simp⟩) hS.out ?_
              refine wpAnyH_ready (rs := [35]) (by kernel_rfl) (by simp) ?_
              refine AllReadyH.cons rfl (fun K hK => ?_) AllReadyH.nil
              go_simp
              refine (sameR_any _ _ _ _ _ HBL.out HBL'.out (HRD.out.below HB4.out) (HRD'.out.below HB4.out)).mono ?_
              rw [HRV.out]
              rintro e w5 ⟨rfl, hb5⟩
              have HB5 := Lib.hid (HB4.out.trans (hb5.mono HB4.out.size))
              have hS := Lib.hid (HC.out _ HB5.out)
              clear hb5
              go_simp
              refine hK.out _ _ hS.out (fun _ => ?_)
              clear hK K
              refine wpAnyH_take (i := 36) (v := .bool false) rfl (by kernel_rfl) (by kernel_rfl) (by kernel_rfl) (fun _ _ _ h => h) (Or.inl ⟨by kernel_rfl, fun w _ => by go_simp⟩) hS.out ?_
              refine wpAnyH_take (i := 37) (v := .bool false) rfl (by kernel_rfl) (by kernel_rfl) (by kernel_rfl) (fun _ _ _ h => h) (Or.inl ⟨by kernel_rfl, fun w _ => by go_simp⟩) hS.out ?_
              refine wpAnyH_done (by kernel_rfl) ?_ _
              go_wp2_with fail
              go_roundw
              case rel =>
                refine ⟨j + 1, by omega, by go_num, Lib.hid (fun i hi => ?_), Lib.hid (HB.out.trans (HB5.out.mono HB.out.size))⟩
                rcases Nat.lt_or_ge i j with h1 | h1
                · exact HQ.out i h1
                · obtain rfl : i = j := by omega
                  rw [HX.out, HX'.out, HEQ.out]
              case measure => simp only [intOf]; omega
            · have HRV : Hid ((decide (l.e = l'.e) && decide (l.v = l'.v) && decide (l.n = l'.n)) = false) := Lib.hid (by rw [Bool.eq_false_iff]; simp only [ne_eq, Bool.and_eq_true, decide_eq_true_eq]; rintro ⟨⟨h1, h2⟩, h3⟩; exact hr ⟨h1, h2, h3⟩)
              have HNE : Hid (l ≠ l') := Lib.hid (fun h => hr (by rw [h]; exact ⟨rfl, rfl, rfl⟩))
              have HNL : Hid (ls ≠ ls') := Lib.hid (fun h => HNE.out (by have h1 := HX.out; rw [h, HX'.out] at h1; exact (Option.some.inj h1).symm))
              clear hs hq hr
              go_upto_region 6 with fail
              have hbw : Below wr.heap.size wr wr.drew := (Below.refl _ _).drew
              have hS0 := HC.out _ hbw
              refine wp_region_held_drew (S := fun w' => (w'.cell? ⟨b, o + j * 5, none⟩ = some (.int .i64 l.s) ∧ w'.cell? ⟨b, o + j * 5 + 1, none⟩ = some (.int .i64 l.q) ∧ w'.cell? ⟨b, o + j * 5 + 2, none⟩ = some (.int .i64 l.e) ∧ w'.cell? ⟨b, o + j * 5 + 3, none⟩ = some (.slice A1 l.v.length c1) ∧ w'.cell? ⟨b, o + j * 5 + 4, none⟩ = some (.int .i64 l.n)) ∧ w'.cell? ⟨b', o' + j * 5, none⟩ = some (.int .i64 l'.s) ∧ w'.cell? ⟨b', o' + j * 5 + 1, none⟩ = some (.int .i64 l'.q) ∧ w'.cell? ⟨b', o' + j * 5 + 2, none⟩ = some (.int .i64 l'.e) ∧ w'.cell? ⟨b', o' + j * 5 + 3, none⟩ = some (.slice A2 l'.v.length c2) ∧ w'.cell? ⟨b', o' + j * 5 + 4, none⟩ = some (.int .i64 l'.n)) (by kernel_rfl) hS0 (fun _ => ?_)
              generalize wr.drew = w4 at hS0 hbw ⊢
              have hS := Lib.hid hS0
              have HB4 := Lib.hid hbw
              clear hS0 hbw
              refine wpAnyH_take (i := 0) (v := .slice (some ⟨b, o, none⟩) ls.length c) rfl (by kernel_rfl) (by kernel_rfl) (by kernel_rfl) (fun _ _ _ h => h) (Or.inl ⟨by kernel_rfl, fun w _ => by go_simp⟩) hS.out ?_
              refine wpAnyH_take (i := 1) (v := .int .i64 (j : Int)) rfl (by kernel_rfl) (by kernel_rfl) (by kernel_rfl) (fun _ _ _ h => h) (Or.inl ⟨by kernel_rfl, fun w _ => by go_simp⟩) hS.out ?_
              refine wpAnyH_take (i := 2) (v := .pointer (some ⟨b, o + j * 5, none⟩)) rfl (by kernel_rfl) (by kernel_rfl) (by kernel_rfl) (fun _ _ _ h => h) (Or.inl ⟨by kernel_rfl, fun w _ => by go_simp⟩) hS.out ?_
              refine wpAnyH_take (i := 3) (v := .pointer (some ⟨b, o + j * 5, none⟩)) rfl (by kernel_rfl) (by kernel_rfl) (by kernel_rfl) (fun _ _ _ h => h) (Or.inl ⟨by kernel_rfl, fun w _ => by go_simp⟩) hS.out ?_
              refine wpAnyH_take (i := 4) (v := .int .i64 l.s) rfl (by kernel_rfl) (by kernel_rfl) (by kernel_rfl) (fun _ _ _ h => h) (Or.inl ⟨by kernel_rfl, fun w h => by obtain ⟨⟨y0, y1, y2, y3, y4⟩, z0, z1, z2, z3, z4⟩ := h; go_simp⟩) hS.out ?_
              refine wpAnyH_take (i := 5) (v := .slice (some ⟨b', o', none⟩) ls'.length c') rfl (by kernel_rfl) (by kernel_rfl) (by kernel_rfl) (fun _ _ _ h => h) (Or.inl ⟨by kernel_rfl, fun w _ => by go_simp⟩) hS.out ?_
              refine wpAnyH_take (i := 6) (v := .int .i64 (j : Int)) rfl (by kernel_rfl) (by kernel_rfl) (by kernel_rfl) (fun _ _ _ h => h) (Or.inl ⟨by kernel_rfl, fun w _ => by go_simp⟩) hS.out ?_
              refine wpAnyH_take (i := 7) (v := .pointer (some ⟨b', o' + j * 5, none⟩)) rfl (by kernel_rfl) (by kernel_rfl) (by kernel_rfl) (fun _ _ _ h => h) (Or.inl ⟨by kernel_rfl, fun w _ => by go_simp⟩) hS.out ?_
              refine wpAnyH_take (i := 8) (v := .pointer (some ⟨b', o' + j * 5, none⟩)) rfl (by kernel_rfl) (by kernel_rfl) (by kernel_rfl) (fun _ _ _ h => h) (Or.inl ⟨by kernel_rfl, fun w _ => by go_simp⟩) hS.out ?_
              refine wpAnyH_take (i := 9) (v := .int .i64 l'.s) rfl (by kernel_rfl) (by kernel_rfl) (by kernel_rfl) (fun _ _ _ h => h) (Or.inl ⟨by kernel_rfl, fun w h => by obtain ⟨⟨y0, y1, y2, y3, y4⟩, z0, z1, z2, z3, z4⟩ := h; go_simp⟩) hS.out ?_
              refine wpAnyH_take (i := 10) (v := .bool false) rfl (by kernel_rfl) (by kernel_rfl) (by kernel_rfl) (fun _ _ _ h => h) (Or.inl ⟨by kernel_rfl, fun w _ => by go_simp⟩) hS.out ?_
              refine wpAnyH_take (i := 11) (v := .bool false) rfl (by kernel_rfl) (by kernel_rfl) (by kernel_rfl) (fun _ _ _ h => h) (Or.inl ⟨by kernel_rfl, fun w _ => by go_simp⟩) hS.out ?_
              refine wpAnyH_take (i := 12) (v := .slice (some ⟨b, o, none⟩) ls.length c) rfl (by kernel_rfl) (by kernel_rfl) (by kernel_rfl) (fun _ _ _ h => h) (Or.inl ⟨by kernel_rfl, fun w _ => by go_simp⟩) hS.out ?_
              refine wpAnyH_take (i := 13) (v := .int .i64 (j : Int)) rfl (by kernel_rfl) (by kernel_rfl) (by kernel_rfl) (fun _ _ _ h => h) (Or.inl ⟨by kernel_rfl, fun w _ => by go_simp⟩) hS.out ?_
              refine wpAnyH_take (i := 14) (v := .pointer (some ⟨b, o + j * 5, none⟩)) rfl (by kernel_rfl) (by kernel_rfl) (by kernel_rfl) (fun _ _ _ h => h) (Or.inl ⟨by kernel_rfl, fun w _ => by go_simp⟩) hS.out ?_
              refine wpAnyH_take (i := 15) (v := .pointer (some ⟨b, o + j * 5 + 1, none⟩)) rfl (by kernel_rfl) (by kernel_rfl) (by kernel_rfl) (fun _ _ _ h => h) (Or.inl ⟨by kernel_rfl, fun w _ => by go_simp⟩) hS.out ?_
              refine wpAnyH_take (i := 16) (v := .int .i64 l.q) rfl (by kernel_rfl) (by kernel_rfl) (by kernel_rfl) (fun _ _ _ h => h) (Or.inl ⟨by kernel_rfl, fun w h => by obtain ⟨⟨y0, y1, y2, y3, y4⟩, z0, z1, z2, z3, z4⟩ := h; go_simp⟩) hS.out ?_
              refine wpAnyH_take (i := 17) (v := .slice (some ⟨b', o', none⟩) ls'.length c') rfl (by kernel_rfl) (by kernel_rfl) (by kernel_rfl) (fun _ _ _ h => h) (Or.inl ⟨by kernel_rfl, fun w _ => by go_simp⟩) hS.out ?_
              refine wpAnyH_take (i := 18) (v := .int .i64 (j : Int)) rfl (by kernel_rfl) (by kernel_rfl) (by kernel_rfl) (fun _ _ _ h => h) (Or.inl ⟨by kernel_rfl, fun w _ => by go_simp⟩) hS.out ?_
              refine wpAnyH_take (i := 19) (v := .pointer (some ⟨b', o' + j * 5, none⟩)) rfl (by kernel_rfl) (by kernel_rfl) (by kernel_rfl) (fun _ _ _ h => h) (Or.inl ⟨by kernel_rfl, fun w _ => by go_simp⟩) hS.out ?_
              refine wpAnyH_take (i := 20) (v := .pointer (some ⟨b', o' + j * 5 + 1, none⟩)) rfl (by kernel_rfl) (by kernel_rfl) (by kernel_rfl) (fun _ _ _ h => h) (Or.inl ⟨by kernel_rfl, fun w _ => by go_simp⟩) hS.out ?_
              refine wpAnyH_take (i := 21) (v := .int .i64 l'.q) rfl (by kernel_rfl) (by kernel_rfl) (by kernel_rfl) (fun _ _ _ h => h) (Or.inl ⟨by kernel_rfl, fun w h => by obtain ⟨⟨y0, y1, y2, y3, y4⟩, z0, z1, z2, z3, z4⟩ := h; go_simp⟩) hS.out ?_
              refine wpAnyH_take (i := 22) (v := .bool false) rfl (by kernel_rfl) (by kernel_rfl) (by kernel_rfl) (fun _ _ _ h => h) (Or.inl ⟨by kernel_rfl, fun w _ => by go_simp⟩) hS.out ?_
              refine wpAnyH_take (i := 23) (v := .bool false) rfl (by kernel_rfl) (by kernel_rfl) (by kernel_rfl) (fun _ _ _ h => h) (Or.inl ⟨by kernel_rfl, fun w _ => by go_simp⟩) hS.out ?_
              refine wpAnyH_take (i := 24) (v := .bool false) rfl (by kernel_rfl) (by kernel_rfl) (by kernel_rfl) (fun _ _ _ h => h) (Or.inl ⟨by kernel_rfl, fun w _ => by go_simp⟩) hS.out ?_
              refine wpAnyH_take (i := 25) (v := .slice (some ⟨b, o, none⟩) ls.length c) rfl (by kernel_rfl) (by kernel_rfl) (by kernel_rfl) (fun _ _ _ h => h) (Or.inl ⟨by kernel_rfl, fun w _ => by go_simp⟩) hS.out ?_
              refine wpAnyH_take (i := 26) (v := .int .i64 (j : Int)) rfl (by kernel_rfl) (by kernel_rfl) (by kernel_rfl) (fun _ _ _ h => h) (Or.inl ⟨by kernel_rfl, fun w _ => by go_simp⟩) hS.out ?_
              refine wpAnyH_take (i := 27) (v := .pointer (some ⟨b, o + j * 5, none⟩)) rfl (by kernel_rfl) (by kernel_rfl) (by kernel_rfl) (fun _ _ _ h => h) (Or.inl ⟨by kernel_rfl, fun w _ => by go_simp⟩) hS.out ?_
              refine wpAnyH_take (i := 28) (v := .pointer (some ⟨b, o + j * 5 + 2, none⟩)) rfl (by kernel_rfl) (by kernel_rfl) (by kernel_rfl) (fun _ _ _ h => h) (Or.inl ⟨by kernel_rfl, fun w _ => by go_simp⟩) hS.out ?_
              refine wpAnyH_take (i := 29) (v := .agg #[.int .i64 l.e, .slice A1 l.v.length c1, .int .i64 l.n]) rfl (by kernel_rfl) (by kernel_rfl) (by kernel_rfl) (fun _ _ _ h => h) (Or.inl ⟨by kernel_rfl, fun w h => by obtain ⟨⟨y0, y1, y2, y3, y4⟩, z0, z1, z2, z3, z4⟩ := h; go_simp⟩) hS.out ?_
              refine wpAnyH_take (i := 30) (v := .slice (some ⟨b', o', none⟩) ls'.length c') rfl (by kernel_rfl) (by kernel_rfl) (by kernel_rfl) (fun _ _ _ h => h) (Or.inl ⟨by kernel_rfl, fun w _ => by go_simp⟩) hS.out ?_
              refine wpAnyH_take (i := 31) (v := .int .i64 (j : Int)) rfl (by kernel_rfl) (by kernel_rfl) (by kernel_rfl) (fun _ _ _ h => h) (Or.inl ⟨by kernel_rfl, fun w _ => by go_simp⟩) hS.out ?_
              refine wpAnyH_take (i := 32) (v := .pointer (some ⟨b', o' + j * 5, none⟩)) rfl (by kernel_rfl) (by kernel_rfl) (by kernel_rfl) (fun _ _ _ h => h) (Or.inl ⟨by kernel_rfl, fun w _ => by go_simp⟩) hS.out ?_
              refine wpAnyH_take (i := 33) (v := .pointer (some ⟨b', o' + j * 5 + 2, none⟩)) rfl (by kernel_rfl) (by kernel_rfl) (by kernel_rfl) (fun _ _ _ h => h) (Or.inl ⟨by kernel_rfl, fun w _ => by go_simp⟩) hS.out ?_
              refine wpAnyH_take (i := 34) (v := .agg #[.int .i64 l'.e, .slice A2 l'.v.length c2, .int .i64 l'.n]) rfl (by kernel_rfl) (by kernel_rfl) (by kernel_rfl) (fun _ _ _ h => h) (Or.inl ⟨by kernel_rfl, fun w h => by obtain ⟨⟨y0, y1, y2, y3, y4⟩, z0, z1, z2, z3, z4⟩ := h; go_simp⟩) hS.out ?_
              refine wpAnyH_ready (rs := [35]) (by kernel_rfl) (by simp) ?_
              refine AllReadyH.cons rfl (fun K hK => ?_) AllReadyH.nil
              go_simp
              refine (sameR_any _ _ _ _ _ HBL.out HBL'.out (HRD.out.below HB4.out) (HRD'.out.below HB4.out)).mono ?_
              rw [HRV.out]
              rintro e w5 ⟨rfl, hb5⟩
              have HB5 := Lib.hid (HB4.out.trans (hb5.mono HB4.out.size))
              have hS := Lib.hid (HC.out _ HB5.out)
              clear hb5
              go_simp
              refine hK.out _ _ hS.out (fun _ => ?_)
              clear hK K
              refine wpAnyH_take (i := 36) (v := .bool true) rfl (by kernel_rfl) (by kernel_rfl) (by kernel_rfl) (fun _ _ _ h => h) (Or.inl ⟨by kernel_rfl, fun w _ => by go_simp⟩) hS.out ?_
              refine wpAnyH_take (i := 37) (v := .bool true) rfl (by kernel_rfl) (by kernel_rfl) (by kernel_rfl) (fun _ _ _ h => h) (Or.inl ⟨by kernel_rfl, fun w _ => by go_simp⟩) hS.out ?_
              refine wpAnyH_done (by kernel_rfl) ?_ _
              go_wp2_with fail
              go_ret
              have hDf : D = false := by rw [← HDD.out]; exact decide_eq_false HNL.out
              subst hDf
              exact ⟨rfl, HB.out.trans (HB5.out.mono HB.out.size)⟩
          · have hqb : (l.q == l'.q) = false := by simpa using hq
            have hqn : (l.q != l'.q) = true := by simpa using hq
            have HNE : Hid (l ≠ l') := Lib.hid (fun h => hq (by rw [h]))
            have HNL : Hid (ls ≠ ls') := Lib.hid (fun h => HNE.out (by have h1 := HX.out; rw [h, HX'.out] at h1; exact (Option.some.inj h1).symm))
            clear hs hq
            go_upto_region 6 with fail
            have hbw : Below wr.heap.size wr wr.drew := (Below.refl _ _).drew
            have hS0 := HC.out _ hbw
            refine wp_region_held_drew (S := fun w' => (w'.cell? ⟨b, o + j * 5, none⟩ = some (.int .i64 l.s) ∧ w'.cell? ⟨b, o + j * 5 + 1, none⟩ = some (.int .i64 l.q) ∧ w'.cell? ⟨b, o + j * 5 + 2, none⟩ = some (.int .i64 l.e) ∧ w'.cell? ⟨b, o + j * 5 + 3, none⟩ = some (.slice A1 l.v.length c1) ∧ w'.cell? ⟨b, o + j * 5 + 4, none⟩ = some (.int .i64 l.n)) ∧ w'.cell? ⟨b', o' + j * 5, none⟩ = some (.int .i64 l'.s) ∧ w'.cell? ⟨b', o' + j * 5 + 1, none⟩ = some (.int .i64 l'.q) ∧ w'.cell? ⟨b', o' + j * 5 + 2, none⟩ = some (.int .i64 l'.e) ∧ w'.cell? ⟨b', o' + j * 5 + 3, none⟩ = some (.slice A2 l'.v.length c2) ∧ w'.cell? ⟨b', o' + j * 5 + 4, none⟩ = some (.int .i64 l'.n)) (by kernel_rfl) hS0 (fun _ => ?_)
            generalize wr.drew = w4 at hS0 hbw ⊢
            have hS := Lib.hid hS0
            have HB4 := Lib.hid hbw
            clear hS0 hbw
            refine wpAnyH_take (i := 0) (v := .slice (some ⟨b, o, none⟩) ls.length c) rfl (by kernel_rfl) (by kernel_rfl) (by kernel_rfl) (fun _ _ _ h => h) (Or.inl ⟨by kernel_rfl, fun w _ => by go_simp⟩) hS.out ?_
            refine wpAnyH_take (i := 1) (v := .int .i64 (j : Int)) rfl (by kernel_rfl) (by kernel_rfl) (by kernel_rfl) (fun _ _ _ h => h) (Or.inl ⟨by kernel_rfl, fun w _ => by go_simp⟩) hS.out ?_
            refine wpAnyH_take (i := 2) (v := .pointer (some ⟨b, o + j * 5, none⟩)) rfl (by kernel_rfl) (by kernel_rfl) (by kernel_rfl) (fun _ _ _ h => h) (Or.inl ⟨by kernel_rfl, fun w _ => by go_simp⟩) hS.out ?_
            refine wpAnyH_take (i := 3) (v := .pointer (some ⟨b, o + j * 5, none⟩)) rfl (by kernel_rfl) (by kernel_rfl) (by kernel_rfl) (fun _ _ _ h => h) (Or.inl ⟨by kernel_rfl, fun w _ => by go_simp⟩) hS.out ?_
            refine wpAnyH_take (i := 4) (v := .int .i64 l.s) rfl (by kernel_rfl) (by kernel_rfl) (by kernel_rfl) (fun _ _ _ h => h) (Or.inl ⟨by kernel_rfl, fun w h => by obtain ⟨⟨y0, y1, y2, y3, y4⟩, z0, z1, z2, z3, z4⟩ := h; go_simp⟩) hS.out ?_
            refine wpAnyH_take (i := 5) (v := .slice (some ⟨b', o', none⟩) ls'.length c') rfl (by kernel_rfl) (by kernel_rfl) (by kernel_rfl) (fun _ _ _ h => h) (Or.inl ⟨by kernel_rfl, fun w _ => by go_simp⟩) hS.out ?_
            refine wpAnyH_take (i := 6) (v := .int .i64 (j : Int)) rfl (by kernel_rfl) (by kernel_rfl) (by kernel_rfl) (fun _ _ _ h => h) (Or.inl ⟨by kernel_rfl, fun w _ => by go_simp⟩) hS.out ?_
            refine wpAnyH_take (i := 7) (v := .pointer (some ⟨b', o' + j * 5, none⟩)) rfl (by kernel_rfl) (by kernel_rfl) (by kernel_rfl) (fun _ _ _ h => h) (Or.inl ⟨by kernel_rfl, fun w _ => by go_simp⟩) hS.out ?_
            refine wpAnyH_take (i := 8) (v := .pointer (some ⟨b', o' + j * 5, none⟩)) rfl (by kernel_rfl) (by kernel_rfl) (by kernel_rfl) (fun _ _ _ h => h) (Or.inl ⟨by kernel_rfl, fun w _ => by go_simp⟩) hS.out ?_
            refine wpAnyH_take (i := 9) (v := .int .i64 l'.s) rfl (by kernel_rfl) (by kernel_rfl) (by kernel_rfl) (fun _ _ _ h => h) (Or.inl ⟨by kernel_rfl, fun w h => by obtain ⟨⟨y0, y1, y2, y3, y4⟩, z0, z1, z2, z3, z4⟩ := h; go_simp⟩) hS.out ?_
            refine wpAnyH_take (i := 10) (v := .bool false) rfl (by kernel_rfl) (by kernel_rfl) (by kernel_rfl) (fun _ _ _ h => h) (Or.inl ⟨by kernel_rfl, fun w _ => by go_simp⟩) hS.out ?_
            refine wpAnyH_take (i := 11) (v := .bool false) rfl (by kernel_rfl) (by kernel_rfl) (by kernel_rfl) (fun _ _ _ h => h) (Or.inl ⟨by kernel_rfl, fun w _ => by go_simp⟩) hS.out ?_
            refine wpAnyH_take (i := 12) (v := .slice (some ⟨b, o, none⟩) ls.length c) rfl (by kernel_rfl) (by kernel_rfl) (by kernel_rfl) (fun _ _ _ h => h) (Or.inl ⟨by kernel_rfl, fun w _ => by go_simp⟩) hS.out ?_
            refine wpAnyH_take (i := 13) (v := .int .i64 (j : Int)) rfl (by kernel_rfl) (by kernel_rfl) (by kernel_rfl) (fun _ _ _ h => h) (Or.inl ⟨by kernel_rfl, fun w _ => by go_simp⟩) hS.out ?_
            refine wpAnyH_take (i := 14) (v := .pointer (some ⟨b, o + j * 5, none⟩)) rfl (by kernel_rfl) (by kernel_rfl) (by kernel_rfl) (fun _ _ _ h => h) (Or.inl ⟨by kernel_rfl, fun w _ => by go_simp⟩) hS.out ?_
            refine wpAnyH_take (i := 15) (v := .pointer (some ⟨b, o + j * 5 + 1, none⟩)) rfl (by kernel_rfl) (by kernel_rfl) (by kernel_rfl) (fun _ _ _ h => h) (Or.inl ⟨by kernel_rfl, fun w _ => by go_simp⟩) hS.out ?_
            refine wpAnyH_take (i := 16) (v := .int .i64 l.q) rfl (by kernel_rfl) (by kernel_rfl) (by kernel_rfl) (fun _ _ _ h => h) (Or.inl ⟨by kernel_rfl, fun w h => by obtain ⟨⟨y0, y1, y2, y3, y4⟩, z0, z1, z2, z3, z4⟩ := h; go_simp⟩) hS.out ?_
            refine wpAnyH_take (i := 17) (v := .slice (some ⟨b', o', none⟩) ls'.length c') rfl (by kernel_rfl) (by kernel_rfl) (by kernel_rfl) (fun _ _ _ h => h) (Or.inl ⟨by kernel_rfl, fun w _ => by go_simp⟩) hS.out ?_
            refine wpAnyH_take (i := 18) (v := .int .i64 (j : Int)) rfl (by kernel_rfl) (by kernel_rfl) (by kernel_rfl) (fun _ _ _ h => h) (Or.inl ⟨by kernel_rfl, fun w _ => by go_simp⟩) hS.out ?_
            refine wpAnyH_take (i := 19) (v := .pointer (some ⟨b', o' + j * 5, none⟩)) rfl (by kernel_rfl) (by kernel_rfl) (by kernel_rfl) (fun _ _ _ h => h) (Or.inl ⟨by kernel_rfl, fun w _ => by go_simp⟩) hS.out ?_
            refine wpAnyH_take (i := 20) (v := .pointer (some ⟨b', o' + j * 5 + 1, none⟩)) rfl (by kernel_rfl) (by kernel_rfl) (by kernel_rfl) (fun _ _ _ h => h) (Or.inl ⟨by kernel_rfl, fun w _ => by go_simp⟩) hS.out ?_
            refine wpAnyH_take (i := 21) (v := .int .i64 l'.q) rfl (by kernel_rfl) (by kernel_rfl) (by kernel_rfl) (fun _ _ _ h => h) (Or.inl ⟨by kernel_rfl, fun w h => by obtain ⟨⟨y0, y1, y2, y3, y4⟩, z0, z1, z2, z3, z4⟩ := h; go_simp⟩) hS.out ?_
            refine wpAnyH_take (i := 22) (v := .bool true) rfl (by kernel_rfl) (by kernel_rfl) (by kernel_rfl) (fun _ _ _ h => h) (Or.inl ⟨by kernel_rfl, fun w _ => by go_simp⟩) hS.out ?_
            refine wpAnyH_take (i := 23) (v := .bool true) rfl (by kernel_rfl) (by kernel_rfl) (by kernel_rfl) (fun _ _ _ h => h) (Or.inl ⟨by kernel_rfl, fun w _ => by go_simp⟩) hS.out ?_
            refine wpAnyH_ready (rs := [24]) (by kernel_rfl) (by simp) ?_
            refine AllReadyH.cons rfl (fun K hK => ?_) AllReadyH.nil
            go_simp
            refine hK.out _ _ hS.out (fun _ => ?_)
            clear hK K
            refine wpAnyH_take (i := 25) (v := undef) rfl (by kernel_rfl) (by kernel_rfl) (by kernel_rfl) (fun _ _ _ h => h) (Or.inr ⟨by kernel_rfl, rfl⟩) hS.out ?_
            refine wpAnyH_take (i := 26) (v := undef) rfl (by kernel_rfl) (by kernel_rfl) (by kernel_rfl) (fun _ _ _ h => h) (Or.inr ⟨by kernel_rfl, rfl⟩) hS.out ?_
            refine wpAnyH_take (i := 27) (v := undef) rfl (by kernel_rfl) (by kernel_rfl) (by kernel_rfl) (fun _ _ _ h => h) (Or.inr ⟨by kernel_rfl, rfl⟩) hS.out ?_
            refine wpAnyH_take (i := 28) (v := undef) rfl (by kernel_rfl) (by kernel_rfl) (by kernel_rfl) (fun _ _ _ h => h) (Or.inr ⟨by kernel_rfl, rfl⟩) hS.out ?_
            refine wpAnyH_take (i := 29) (v := undef) rfl (by kernel_rfl) (by kernel_rfl) (by kernel_rfl) (fun _ _ _ h => h) (Or.inr ⟨by kernel_rfl, rfl⟩) hS.out ?_
            refine wpAnyH_take (i := 30) (v := undef) rfl (by kernel_rfl) (by kernel_rfl) (by kernel_rfl) (fun _ _ _ h => h) (Or.inr ⟨by kernel_rfl, rfl⟩) hS.out ?_
            refine wpAnyH_take (i := 31) (v := undef) rfl (by kernel_rfl) (by kernel_rfl) (by kernel_rfl) (fun _ _ _ h => h) (Or.inr ⟨by kernel_rfl, rfl⟩) hS.out ?_
            refine wpAnyH_take (i := 32) (v := undef) rfl (by kernel_rfl) (by kernel_rfl) (by kernel_rfl) (fun _ _ _ h => h) (Or.inr ⟨by kernel_rfl, rfl⟩) hS.out ?_
            refine wpAnyH_take (i := 33) (v := undef) rfl (by kernel_rfl) (by kernel_rfl) (by kernel_rfl) (fun _ _ _ h => h) (Or.inr ⟨by kernel_rfl, rfl⟩) hS.out ?_
            refine wpAnyH_take (i := 34) (v := undef) rfl (by kernel_rfl) (by kernel_rfl) (by kernel_rfl) (fun _ _ _ h => h) (Or.inr ⟨by kernel_rfl, rfl⟩) hS.out ?_
            refine wpAnyH_take (i := 35) (v := undef) rfl (by kernel_rfl) (by kernel_rfl) (by kernel_rfl) (fun _ _ _ h => h) (Or.inr ⟨by kernel_rfl, rfl⟩) hS.out ?_
            refine wpAnyH_take (i := 36) (v := undef) rfl (by kernel_rfl) (by kernel_rfl) (by kernel_rfl) (fun _ _ _ h => h) (Or.inr ⟨by kernel_rfl, rfl⟩) hS.out ?_
            refine wpAnyH_ready (rs := [37]) (by kernel_rfl) (by simp) ?_
            refine AllReadyH.cons rfl (fun K hK => ?_) AllReadyH.nil
            go_simp
            refine hK.out _ _ hS.out (fun _ => ?_)
            clear hK K
            refine wpAnyH_done (by kernel_rfl) ?_ _
            go_wp2_with fail
            go_ret
            have hDf : D = false := by rw [← HDD.out]; exact decide_eq_false HNL.out
            subst hDf
            exact ⟨rfl, HB.out.trans (HB4.out.mono HB.out.size)⟩
        · have hsb : (l.s == l'.s) = false := by simpa using hs
          have hsn : (l.s != l'.s) = true := by simpa using hs
          have HNE : Hid (l ≠ l') := Lib.hid (fun h => hs (by rw [h]))
          have HNL : Hid (ls ≠ ls') := Lib.hid (fun h => HNE.out (by have h1 := HX.out; rw [h, HX'.out] at h1; exact (Option.some.inj h1).symm))
          clear hs
          go_upto_region 6 with fail
          have hbw : Below wr.heap.size wr wr.drew := (Below.refl _ _).drew
          have hS0 := HC.out _ hbw
          refine wp_region_held_drew (S := fun w' => (w'.cell? ⟨b, o + j * 5, none⟩ = some (.int .i64 l.s) ∧ w'.cell? ⟨b, o + j * 5 + 1, none⟩ = some (.int .i64 l.q) ∧ w'.cell? ⟨b, o + j * 5 + 2, none⟩ = some (.int .i64 l.e) ∧ w'.cell? ⟨b, o + j * 5 + 3, none⟩ = some (.slice A1 l.v.length c1) ∧ w'.cell? ⟨b, o + j * 5 + 4, none⟩ = some (.int .i64 l.n)) ∧ w'.cell? ⟨b', o' + j * 5, none⟩ = some (.int .i64 l'.s) ∧ w'.cell? ⟨b', o' + j * 5 + 1, none⟩ = some (.int .i64 l'.q) ∧ w'.cell? ⟨b', o' + j * 5 + 2, none⟩ = some (.int .i64 l'.e) ∧ w'.cell? ⟨b', o' + j * 5 + 3, none⟩ = some (.slice A2 l'.v.length c2) ∧ w'.cell? ⟨b', o' + j * 5 + 4, none⟩ = some (.int .i64 l'.n)) (by kernel_rfl) hS0 (fun _ => ?_)
          generalize wr.drew = w4 at hS0 hbw ⊢
          have hS := Lib.hid hS0
          have HB4 := Lib.hid hbw
          clear hS0 hbw
          refine wpAnyH_take (i := 0) (v := .slice (some ⟨b, o, none⟩) ls.length c) rfl (by kernel_rfl) (by kernel_rfl) (by kernel_rfl) (fun _ _ _ h => h) (Or.inl ⟨by kernel_rfl, fun w _ => by go_simp⟩) hS.out ?_
          refine wpAnyH_take (i := 1) (v := .int .i64 (j : Int)) rfl (by kernel_rfl) (by kernel_rfl) (by kernel_rfl) (fun _ _ _ h => h) (Or.inl ⟨by kernel_rfl, fun w _ => by go_simp⟩) hS.out ?_
          refine wpAnyH_take (i := 2) (v := .pointer (some ⟨b, o + j * 5, none⟩)) rfl (by kernel_rfl) (by kernel_rfl) (by kernel_rfl) (fun _ _ _ h => h) (Or.inl ⟨by kernel_rfl, fun w _ => by go_simp⟩) hS.out ?_
          refine wpAnyH_take (i := 3) (v := .pointer (some ⟨b, o + j * 5, none⟩)) rfl (by kernel_rfl) (by kernel_rfl) (by kernel_rfl) (fun _ _ _ h => h) (Or.inl ⟨by kernel_rfl, fun w _ => by go_simp⟩) hS.out ?_
          refine wpAnyH_take (i := 4) (v := .int .i64 l.s) rfl (by kernel_rfl) (by kernel_rfl) (by kernel_rfl) (fun _ _ _ h => h) (Or.inl ⟨by kernel_rfl, fun w h => by obtain ⟨⟨y0, y1, y2, y3, y4⟩, z0, z1, z2, z3, z4⟩ := h; go_simp⟩) hS.out ?_
          refine wpAnyH_take (i := 5) (v := .slice (some ⟨b', o', none⟩) ls'.length c') rfl (by kernel_rfl) (by kernel_rfl) (by kernel_rfl) (fun _ _ _ h => h) (Or.inl ⟨by kernel_rfl, fun w _ => by go_simp⟩) hS.out ?_
          refine wpAnyH_take (i := 6) (v := .int .i64 (j : Int)) rfl (by kernel_rfl) (by kernel_rfl) (by kernel_rfl) (fun _ _ _ h => h) (Or.inl ⟨by kernel_rfl, fun w _ => by go_simp⟩) hS.out ?_
          refine wpAnyH_take (i := 7) (v := .pointer (some ⟨b', o' + j * 5, none⟩)) rfl (by kernel_rfl) (by kernel_rfl) (by kernel_rfl) (fun _ _ _ h => h) (Or.inl ⟨by kernel_rfl, fun w _ => by go_simp⟩) hS.out ?_
          refine wpAnyH_take (i := 8) (v := .pointer (some ⟨b', o' + j * 5, none⟩)) rfl (by kernel_rfl) (by kernel_rfl) (by kernel_rfl) (fun _ _ _ h => h) (Or.inl ⟨by kernel_rfl, fun w _ => by go_simp⟩) hS.out ?_
          refine wpAnyH_take (i := 9) (v := .int .i64 l'.s) rfl (by kernel_rfl) (by kernel_rfl) (by kernel_rfl) (fun _ _ _ h => h) (Or.inl ⟨by kernel_rfl, fun w h => by obtain ⟨⟨y0, y1, y2, y3, y4⟩, z0, z1, z2, z3, z4⟩ := h; go_simp⟩) hS.out ?_
          refine wpAnyH_take (i := 10) (v := .bool true) rfl (by kernel_rfl) (by kernel_rfl) (by kernel_rfl) (fun _ _ _ h => h) (Or.inl ⟨by kernel_rfl, fun w _ => by go_simp⟩) hS.out ?_
          refine wpAnyH_ready (rs := [11]) (by kernel_rfl) (by simp) ?_
          refine AllReadyH.cons rfl (fun K hK => ?_) AllReadyH.nil
          go_simp
          refine hK.out _ _ hS.out (fun _ => ?_)
          clear hK K
          refine wpAnyH_take (i := 12) (v := undef) rfl (by kernel_rfl) (by kernel_rfl) (by kernel_rfl) (fun _ _ _ h => h) (Or.inr ⟨by kernel_rfl, rfl⟩) hS.out ?_
          refine wpAnyH_take (i := 13) (v := undef) rfl (by kernel_rfl) (by kernel_rfl) (by kernel_rfl) (fun _ _ _ h => h) (Or.inr ⟨by kernel_rfl, rfl⟩) hS.out ?_
          refine wpAnyH_take (i := 14) (v := undef) rfl (by kernel_rfl) (by kernel_rfl) (by kernel_rfl) (fun _ _ _ h => h) (Or.inr ⟨by kernel_rfl, rfl⟩) hS.out ?_
          refine wpAnyH_take (i := 15) (v := undef) rfl (by kernel_rfl) (by kernel_rfl) (by kernel_rfl) (fun _ _ _ h => h) (Or.inr ⟨by kernel_rfl, rfl⟩) hS.out ?_
          refine wpAnyH_take (i := 16) (v := undef) rfl (by kernel_rfl) (by kernel_rfl) (by kernel_rfl) (fun _ _ _ h => h) (Or.inr ⟨by kernel_rfl, rfl⟩) hS.out ?_
          refine wpAnyH_take (i := 17) (v := undef) rfl (by kernel_rfl) (by kernel_rfl) (by kernel_rfl) (fun _ _ _ h => h) (Or.inr ⟨by kernel_rfl, rfl⟩) hS.out ?_
          refine wpAnyH_take (i := 18) (v := undef) rfl (by kernel_rfl) (by kernel_rfl) (by kernel_rfl) (fun _ _ _ h => h) (Or.inr ⟨by kernel_rfl, rfl⟩) hS.out ?_
          refine wpAnyH_take (i := 19) (v := undef) rfl (by kernel_rfl) (by kernel_rfl) (by kernel_rfl) (fun _ _ _ h => h) (Or.inr ⟨by kernel_rfl, rfl⟩) hS.out ?_
          refine wpAnyH_take (i := 20) (v := undef) rfl (by kernel_rfl) (by kernel_rfl) (by kernel_rfl) (fun _ _ _ h => h) (Or.inr ⟨by kernel_rfl, rfl⟩) hS.out ?_
          refine wpAnyH_take (i := 21) (v := undef) rfl (by kernel_rfl) (by kernel_rfl) (by kernel_rfl) (fun _ _ _ h => h) (Or.inr ⟨by kernel_rfl, rfl⟩) hS.out ?_
          refine wpAnyH_take (i := 22) (v := undef) rfl (by kernel_rfl) (by kernel_rfl) (by kernel_rfl) (fun _ _ _ h => h) (Or.inr ⟨by kernel_rfl, rfl⟩) hS.out ?_
          refine wpAnyH_take (i := 23) (v := .bool true) rfl (by kernel_rfl) (by kernel_rfl) (by kernel_rfl) (fun _ _ _ h => h) (Or.inl ⟨by kernel_rfl, fun w _ => by go_simp⟩) hS.out ?_
          refine wpAnyH_ready (rs := [24]) (by kernel_rfl) (by simp) ?_
          refine AllReadyH.cons rfl (fun K hK => ?_) AllReadyH.nil
          go_simp
          refine hK.out _ _ hS.out (fun _ => ?_)
          clear hK K
          refine wpAnyH_take (i := 25) (v := undef) rfl (by kernel_rfl) (by kernel_rfl) (by kernel_rfl) (fun _ _ _ h => h) (Or.inr ⟨by kernel_rfl, rfl⟩) hS.out ?_
          refine wpAnyH_take (i := 26) (v := undef) rfl (by kernel_rfl) (by kernel_rfl) (by kernel_rfl) (fun _ _ _ h => h) (Or.inr ⟨by kernel_rfl, rfl⟩) hS.out ?_
          refine wpAnyH_take (i := 27) (v := undef) rfl (by kernel_rfl) (by kernel_rfl) (by kernel_rfl) (fun _ _ _ h => h) (Or.inr ⟨by kernel_rfl, rfl⟩) hS.out ?_
          refine wpAnyH_take (i := 28) (v := undef) rfl (by kernel_rfl) (by kernel_rfl) (by kernel_rfl) (fun _ _ _ h => h) (Or.inr ⟨by kernel_rfl, rfl⟩) hS.out ?_
          refine wpAnyH_take (i := 29) (v := undef) rfl (by kernel_rfl) (by kernel_rfl) (by kernel_rfl) (fun _ _ _ h => h) (Or.inr ⟨by kernel_rfl, rfl⟩) hS.out ?_
          refine wpAnyH_take (i := 30) (v := undef) rfl (by kernel_rfl) (by kernel_rfl) (by kernel_rfl) (fun _ _ _ h => h) (Or.inr ⟨by kernel_rfl, rfl⟩) hS.out ?_
          refine wpAnyH_take (i := 31) (v := undef) rfl (by kernel_rfl) (by kernel_rfl) (by kernel_rfl) (fun _ _ _ h => h) (Or.inr ⟨by kernel_rfl, rfl⟩) hS.out ?_
          refine wpAnyH_take (i := 32) (v := undef) rfl (by kernel_rfl) (by kernel_rfl) (by kernel_rfl) (fun _ _ _ h => h) (Or.inr ⟨by kernel_rfl, rfl⟩) hS.out ?_
          refine wpAnyH_take (i := 33) (v := undef) rfl (by kernel_rfl) (by kernel_rfl) (by kernel_rfl) (fun _ _ _ h => h) (Or.inr ⟨by kernel_rfl, rfl⟩) hS.out ?_
          refine wpAnyH_take (i := 34) (v := undef) rfl (by kernel_rfl) (by kernel_rfl) (by kernel_rfl) (fun _ _ _ h => h) (Or.inr ⟨by kernel_rfl, rfl⟩) hS.out ?_
          refine wpAnyH_take (i := 35) (v := undef) rfl (by kernel_rfl) (by kernel_rfl) (by kernel_rfl) (fun _ _ _ h => h) (Or.inr ⟨by kernel_rfl, rfl⟩) hS.out ?_
          refine wpAnyH_take (i := 36) (v := undef) rfl (by kernel_rfl) (by kernel_rfl) (by kernel_rfl) (fun _ _ _ h => h) (Or.inr ⟨by kernel_rfl, rfl⟩) hS.out ?_
          refine wpAnyH_ready (rs := [37]) (by kernel_rfl) (by simp) ?_
          refine AllReadyH.cons rfl (fun K hK => ?_) AllReadyH.nil
          go_simp
          refine hK.out _ _ hS.out (fun _ => ?_)
          clear hK K
          refine wpAnyH_done (by kernel_rfl) ?_ _
          go_wp2_with fail
          go_ret
          have hDf : D = false := by rw [← HDD.out]; exact decide_eq_false HNL.out
          subst hDf
          exact ⟨rfl, HB.out.trans (HB4.out.mono HB.out.size)⟩
      · obtain rfl : j = ls.length := by omega
        go_wp2_with fail
        go_ret
        have hDt : D = true := by
          rw [← HDD.out]
          refine decide_eq_true (List.ext_getElem? ?_)
          intro i
          rcases Nat.lt_or_ge i ls.length with h1 | h1
          · exact HQ.out i h1
          · rw [List.getElem?_eq_none h1, List.getElem?_eq_none (by have := HLN.out; omega)]
        subst hDt
        exact ⟨rfl, HB.out⟩
  · have hlb : ((ls.length : Int) == (ls'.length : Int)) = false := by simpa using hlen
    have hlen2 : ((ls.length : Int) != (ls'.length : Int)) = true := by simpa using hlen
    have hDf : D = false := by rw [← HDD.out]; exact decide_eq_false fun h => hlen (by rw [h])
    subst hDf
    clear hlen
    go_enter Tryz.func44, Tryz.ntmps44
    go_wp2_with fail
    go_ret
    exact ⟨rfl, Below.refl _ _⟩
end Go.Proofs.YtmekamgohonffaaGreat

namespace Go.Proofs.YtmekamgohonffaaGreat
open Go.RowKit
set_option linter.unusedVariables false
theorem Mc.same_eq (m m' : Mc) : decide (m = m') = (m.o.same m'.o && decide (m.t = m'.t)) := by
  rw [Bool.eq_iff_iff, decide_eq_true_iff, Mc.eq_iff]
  unfold Ob.same
  simp [and_assoc]
set_option maxHeartbeats 2000000 in
set_option maxRecDepth 100000 in
theorem refSame_any (w : World) {a a' : MA} {m m' : Mc} {B B' : Nat} (hM : m.Ok) (hM' : m'.Ok) (h : RdM w B a m) (h' : RdM w B' a' m') :
    Calls Tryz.prog 15 #[machV a m, machV a' m'] w fun e w' => e = .returned (.bool (decide (m = m'))) ∧ Below w.heap.size w w' := by
  obtain ⟨⟨A0, Ac0, A1, Ac1, A2, Ac2, A3, Ac3⟩, At, Act⟩ := a
  obtain ⟨⟨D0, Dc0, D1, Dc1, D2, Dc2, D3, Dc3⟩, Dt, Dct⟩ := a'
  have b0 : Below w.heap.size w ((w.alloc (.cells #[.slice A0 m.o.reg.length Ac0, .slice A1 m.o.q.length Ac1, .slice A2 m.o.lk.length Ac2, .slice A3 m.o.mp.length Ac3, .slice At m.t.length Act] 31)).alloc (.cells #[.slice D0 m'.o.reg.length Dc0, .slice D1 m'.o.q.length Dc1, .slice D2 m'.o.lk.length Dc2, .slice D3 m'.o.mp.length Dc3, .slice Dt m'.t.length Dct] 31)) := ((Below.refl _ _).alloc (Nat.le_refl _) _).alloc (by simp) _
  have HB := Lib.hid b0
  have H := Lib.hid (h.fit.below b0)
  have H' := Lib.hid (h'.fit.below b0)
  have HK := Lib.hid ((Blk.new w 31 #[.slice A0 m.o.reg.length Ac0, .slice A1 m.o.q.length Ac1, .slice A2 m.o.lk.length Ac2, .slice A3 m.o.mp.length Ac3, .slice At m.t.length Act]).alloc (.cells #[.slice D0 m'.o.reg.length Dc0, .slice D1 m'.o.q.length Dc1, .slice D2 m'.o.lk.length Dc2, .slice D3 m'.o.mp.length Dc3, .slice Dt m'.t.length Dct] 31))
  have HK' := Lib.hid (Blk.new (w.alloc (.cells #[.slice A0 m.o.reg.length Ac0, .slice A1 m.o.q.length Ac1, .slice A2 m.o.lk.length Ac2, .slice A3 m.o.mp.length Ac3, .slice At m.t.length Act] 31)) 31 #[.slice D0 m'.o.reg.length Dc0, .slice D1 m'.o.q.length Dc1, .slice D2 m'.o.lk.length Dc2, .slice D3 m'.o.mp.length Dc3, .slice Dt m'.t.length Dct])
  rw [World.size_alloc] at HK'
  have ht8 := hM.t8
  have ht8' := hM'.t8
  have HM := Lib.hid hM
  have HM' := Lib.hid hM'
  clear h h' b0 hM hM'
  rw [Mc.same_eq]
  unfold machV machC
  simp only
  obtain ⟨S, hS⟩ : ∃ S, m.o.same m'.o = S := ⟨_, rfl⟩
  obtain ⟨T, hT⟩ : ∃ T, decide (m.t = m'.t) = T := ⟨_, rfl⟩
  have C1 := Lib.hid (fun w (h : RdO w w.heap.size ⟨A0, Ac0, A1, Ac1, A2, Ac2, A3, Ac3⟩ m.o) (h' : RdO w w.heap.size ⟨D0, Dc0, D1, Dc1, D2, Dc2, D3, Dc3⟩ m'.o) => sameO_any w HM.out.o HM'.out.o h h')
  have C2 := Lib.hid (fun w (h : RdL w w.heap.size At m.t.length m.t) (h' : RdL w w.heap.size Dt m'.t.length m'.t) => sameT_any w (c := Act) (c' := Dct) (by omega) (by omega) HM.out.t.bytes HM'.out.t.bytes h h')
  rw [hS] at C1 ⊢
  rw [hT] at C2 ⊢
  clear hS hT
  go_enter Tryz.func15, Tryz.ntmps15
  go_upto_region 1 with fail
  generalize (w.alloc (.cells #[.slice A0 m.o.reg.length Ac0, .slice A1 m.o.q.length Ac1, .slice A2 m.o.lk.length Ac2, .slice A3 m.o.mp.length Ac3, .slice At m.t.length Act] 31)).alloc (.cells #[.slice D0 m'.o.reg.length Dc0, .slice D1 m'.o.q.length Dc1, .slice D2 m'.o.lk.length Dc2, .slice D3 m'.o.mp.length Dc3, .slice Dt m'.t.length Dct] 31) = wa at HB H H' HK HK' ⊢
  obtain ⟨x0, x1, x2, x3, x4⟩ := five HK.out
  obtain ⟨y0, y1, y2, y3, y4⟩ := five HK'.out
  cases S with
  | true =>
    go_wp2_with (first
      | (go_at_call 43; refine (C1.out wa H.out.o.fit H'.out.o.fit).mono ?_; rintro en w1 ⟨rfl, hb1⟩; have HB1 := Lib.hid hb1; clear hb1 x0 x1 x2 x3 x4 y0 y1 y2 y3 y4; obtain ⟨x0, x1, x2, x3, x4⟩ := five (HK.out.below HB1.out); obtain ⟨y0, y1, y2, y3, y4⟩ := five (HK'.out.below HB1.out))
      | (go_at_call 44; refine (C2.out w1 (H.out.fit.below HB1.out).t.fit (H'.out.fit.below HB1.out).t.fit).mono ?_; rintro en w2 ⟨rfl, hb2⟩; have HB2 := Lib.hid hb2; clear hb2)
      | fail)
    go_ret
    exact ⟨by simp, HB.out.trans ((HB1.out.trans (HB2.out.mono HB1.out.size)).mono HB.out.size)⟩
  | false =>
    go_wp2_with (first
      | (go_at_call 43; refine (C1.out wa H.out.o.fit H'.out.o.fit).mono ?_; rintro en w1 ⟨rfl, hb1⟩; have HB1 := Lib.hid hb1; clear hb1)
      | fail)
    go_ret
    exact ⟨by simp, HB.out.trans (HB1.out.mono HB.out.size)⟩
set_option maxHeartbeats 8000000 in
set_option maxRecDepth 100000 in
theorem refSameEntry_any (w : World) {ca ca' : CA} {e e' : En} {B B' : Nat} (hc : e.c.Fits) (hc' : e'.c.Fits) (h : RdC w B ca e.c) (h' : RdC w B' ca' e'.c) :
    Calls Tryz.prog 78 #[entV ca e, entV ca' e'] w fun en w' => en = .returned (.bool (decide (e = e'))) ∧ Below w.heap.size w w' := by
  obtain ⟨Ak, Akc, Av, Avc, Ao, Aoc⟩ := ca
  obtain ⟨Dk, Dkc, Dv, Dvc, Do, Doc⟩ := ca'
  have b0 : Below w.heap.size w ((w.alloc (.cells #[.int .i64 e.s, .int .i64 e.q, .int .i64 e.c.kind, .int .i64 e.c.who, .slice Ak e.c.key.length Akc, .slice Av e.c.val.length Avc, .slice Ao e.c.old.length Aoc] 43)).alloc (.cells #[.int .i64 e'.s, .int .i64 e'.q, .int .i64 e'.c.kind, .int .i64 e'.c.who, .slice Dk e'.c.key.length Dkc, .slice Dv e'.c.val.length Dvc, .slice Do e'.c.old.length Doc] 43)) := ((Below.refl _ _).alloc (Nat.le_refl _) _).alloc (by simp) _
  have HB := Lib.hid b0
  have p1 := str_of (c := Akc) (h.rk.fit.below b0)
  have p2 := str_of (c := Dkc) (h'.rk.fit.below b0)
  have p3 := str_of (c := Avc) (h.rv.fit.below b0)
  have p4 := str_of (c := Dvc) (h'.rv.fit.below b0)
  have p5 := str_of (c := Aoc) (h.ro.fit.below b0)
  have p6 := str_of (c := Doc) (h'.ro.fit.below b0)
  have Q1 := Lib.hid (strL_eq hc.key.2 hc'.key.2)
  have Q2 := Lib.hid (strL_eq hc.val.2 hc'.val.2)
  have Q3 := Lib.hid (strL_eq hc.old.2 hc'.old.2)
  have HK := Lib.hid ((Blk.new w 43 #[.int .i64 e.s, .int .i64 e.q, .int .i64 e.c.kind, .int .i64 e.c.who, .slice Ak e.c.key.length Akc, .slice Av e.c.val.length Avc, .slice Ao e.c.old.length Aoc]).alloc (.cells #[.int .i64 e'.s, .int .i64 e'.q, .int .i64 e'.c.kind, .int .i64 e'.c.who, .slice Dk e'.c.key.length Dkc, .slice Dv e'.c.val.length Dvc, .slice Do e'.c.old.length Doc] 43))
  have HK' := Lib.hid (Blk.new (w.alloc (.cells #[.int .i64 e.s, .int .i64 e.q, .int .i64 e.c.kind, .int .i64 e.c.who, .slice Ak e.c.key.length Akc, .slice Av e.c.val.length Avc, .slice Ao e.c.old.length Aoc] 43)) 43 #[.int .i64 e'.s, .int .i64 e'.q, .int .i64 e'.c.kind, .int .i64 e'.c.who, .slice Dk e'.c.key.length Dkc, .slice Dv e'.c.val.length Dvc, .slice Do e'.c.old.length Doc])
  rw [World.size_alloc] at HK'
  clear h h' b0 hc hc'
  obtain ⟨D, hD⟩ : ∃ D, decide (e = e') = D := ⟨_, rfl⟩
  rw [hD]
  have hyes : e.s = e'.s → e.q = e'.q → e.c.kind = e'.c.kind → e.c.who = e'.c.who → e.c.key = e'.c.key → e.c.val = e'.c.val → e.c.old = e'.c.old → D = true := fun h1 h2 h3 h4 h5 h6 h7 => by rw [← hD]; exact decide_eq_true ((En.eq_iff _ _).2 ⟨h1, h2, h3, h4, h5, h6, h7⟩)
  have hno : e ≠ e' → D = false := fun h => by rw [← hD]; exact decide_eq_false h
  clear hD
  unfold entV entC
  simp only
  obtain ⟨es, eq, ⟨ekind, ewho, ekey, eval, eold⟩⟩ := e
  obtain ⟨fs, fq, ⟨fkind, fwho, fkey, fval, fold⟩⟩ := e'
  simp only at *
  obtain ⟨wa, hwa⟩ : ∃ x, (w.alloc (.cells #[.int .i64 es, .int .i64 eq, .int .i64 ekind, .int .i64 ewho, .slice Ak ekey.length Akc, .slice Av eval.length Avc, .slice Ao eold.length Aoc] 43)).alloc (.cells #[.int .i64 fs, .int .i64 fq, .int .i64 fkind, .int .i64 fwho, .slice Dk fkey.length Dkc, .slice Dv fval.length Dvc, .slice Do fold.length Doc] 43) = x := ⟨_, rfl⟩
  rw [hwa] at p1 p2 p3 p4 p5 p6 HB HK HK'
  obtain ⟨x0, x1, x2, x3, x4, x5, x6⟩ := seven HK.out
  obtain ⟨y0, y1, y2, y3, y4, y5, y6⟩ := seven HK'.out
  have HW := Lib.hid hwa
  have HYES := Lib.hid hyes
  have HNO := Lib.hid hno
  clear hwa hyes hno
  by_cases h0 : es = fs
  · have b0 : (es == fs) = true := by simpa using h0
    by_cases h1 : eq = fq
    · have b1 : (eq == fq) = true := by simpa using h1
      by_cases h2 : ekind = fkind
      · have b2 : (ekind == fkind) = true := by simpa using h2
        by_cases h3 : ewho = fwho
        · have b3 : (ewho == fwho) = true := by simpa using h3
          by_cases h4 : ekey = fkey
          · have b4 : ((strB ekey).toList == (strB fkey).toList) = true := by rw [Q1.out]; exact decide_eq_true h4
            have g4 : (strB ekey == strB fkey) = true := by rw [h4]; exact strB_self _
            by_cases h5 : eval = fval
            · have b5 : ((strB eval).toList == (strB fval).toList) = true := by rw [Q2.out]; exact decide_eq_true h5
              have g5 : (strB eval == strB fval) = true := by rw [h5]; exact strB_self _
              by_cases h6 : eold = fold
              · have b6 : ((strB eold).toList == (strB fold).toList) = true := by rw [Q3.out]; exact decide_eq_true h6
                have g6 : (strB eold == strB fold) = true := by rw [h6]; exact strB_self _
                have hd := HYES.out h0 h1 h2 h3 h4 h5 h6
                subst hd
                clear h0 h1 h2 h3 h4 h5 h6
                go_enter Tryz.func78, Tryz.ntmps78
                go_upto_region 1 with fail
                rw [HW.out]
                go_wp2_with fail
                go_ret
                exact ⟨rfl, HB.out⟩
              · have hd := HNO.out (fun h => h6 ((En.eq_iff _ _).1 h).2.2.2.2.2.2)
                subst hd
                have b6 : ((strB eold).toList == (strB fold).toList) = false := by rw [Q3.out]; exact decide_eq_false h6
                have g6 : (strB eold == strB fold) = false := by rw [← Bool.not_eq_true]; intro h; rw [ba_beq, decide_eq_true_iff] at h; rw [h] at b6; simp at b6
                clear h0 h1 h2 h3 h4 h5 h6
                go_enter Tryz.func78, Tryz.ntmps78
                go_upto_region 1 with fail
                rw [HW.out]
                go_wp2_with fail
                go_ret
                exact ⟨rfl, HB.out⟩
            · have hd := HNO.out (fun h => h5 ((En.eq_iff _ _).1 h).2.2.2.2.2.1)
              subst hd
              have b5 : ((strB eval).toList == (strB fval).toList) = false := by rw [Q2.out]; exact decide_eq_false h5
              have g5 : (strB eval == strB fval) = false := by rw [← Bool.not_eq_true]; intro h; rw [ba_beq, decide_eq_true_iff] at h; rw [h] at b5; simp at b5
              clear h0 h1 h2 h3 h4 h5
              go_enter Tryz.func78, Tryz.ntmps78
              go_upto_region 1 with fail
              rw [HW.out]
              go_wp2_with fail
              go_ret
              exact ⟨rfl, HB.out⟩
          · have hd := HNO.out (fun h => h4 ((En.eq_iff _ _).1 h).2.2.2.2.1)
            subst hd
            have b4 : ((strB ekey).toList == (strB fkey).toList) = false := by rw [Q1.out]; exact decide_eq_false h4
            have g4 : (strB ekey == strB fkey) = false := by rw [← Bool.not_eq_true]; intro h; rw [ba_beq, decide_eq_true_iff] at h; rw [h] at b4; simp at b4
            clear h0 h1 h2 h3 h4
            go_enter Tryz.func78, Tryz.ntmps78
            go_upto_region 1 with fail
            rw [HW.out]
            go_wp2_with fail
            go_ret
            exact ⟨rfl, HB.out⟩
        · have hd := HNO.out (fun h => h3 ((En.eq_iff _ _).1 h).2.2.2.1)
          subst hd
          have b3 : (ewho == fwho) = false := by simpa using h3
          clear h0 h1 h2 h3
          go_enter Tryz.func78, Tryz.ntmps78
          go_upto_region 1 with fail
          rw [HW.out]
          go_wp2_with fail
          go_ret
          exact ⟨rfl, HB.out⟩
      · have hd := HNO.out (fun h => h2 ((En.eq_iff _ _).1 h).2.2.1)
        subst hd
        have b2 : (ekind == fkind) = false := by simpa using h2
        clear h0 h1 h2
        go_enter Tryz.func78, Tryz.ntmps78
        go_upto_region 1 with fail
        rw [HW.out]
        go_wp2_with fail
        go_ret
        exact ⟨rfl, HB.out⟩
    · have hd := HNO.out (fun h => h1 ((En.eq_iff _ _).1 h).2.1)
      subst hd
      have b1 : (eq == fq) = false := by simpa using h1
      clear h0 h1
      go_enter Tryz.func78, Tryz.ntmps78
      go_upto_region 1 with fail
      rw [HW.out]
      go_wp2_with fail
      go_ret
      exact ⟨rfl, HB.out⟩
  · have hd := HNO.out (fun h => h0 ((En.eq_iff _ _).1 h).1)
    subst hd
    have b0 : (es == fs) = false := by simpa using h0
    clear h0
    go_enter Tryz.func78, Tryz.ntmps78
    go_upto_region 1 with fail
    rw [HW.out]
    go_wp2_with fail
    go_ret
    exact ⟨rfl, HB.out⟩
end Go.Proofs.YtmekamgohonffaaGreat

