/- MachC0 MachRef -/
import Derived.Test.YtaknfmionkkdjaaGreatFO18
import Derived.Test.YtaknfmionkkdjaaGreatFO20
import Derived.Test.YtaknfmionkkdjaaGreatFO22
import Derived.Test.YtaknfmionkkdjaaGreatFO25
namespace Go.Proofs.YtaknfmionkkdjaaGreat
open Go.RowKit
set_option linter.unusedVariables false
theorem Ls.eq_iff (a b : Ls) : a = b ↔ a.s = b.s ∧ a.q = b.q ∧ a.e = b.e ∧ a.v = b.v ∧ a.n = b.n := by
  constructor
  · rintro rfl; exact ⟨rfl, rfl, rfl, rfl, rfl⟩
  · rintro ⟨h1, h2, h3, h4, h5⟩; cases a; cases b; simp at h1 h2 h3 h4 h5; subst h1 h2 h3 h4 h5; rfl
instance : DecidableEq Ls := fun a b => decidable_of_iff _ (Ls.eq_iff a b).symm
theorem Mc.eq_iff (a b : Mc) : a = b ↔ a.o.reg = b.o.reg ∧ a.o.q = b.o.q ∧ a.o.lk = b.o.lk ∧ a.o.mp = b.o.mp ∧ a.t = b.t := by
  constructor
  · rintro rfl; exact ⟨rfl, rfl, rfl, rfl, rfl⟩
  · rintro ⟨h1, h2, h3, h4, h5⟩; obtain ⟨⟨_, _, _, _⟩, _⟩ := a; obtain ⟨⟨_, _, _, _⟩, _⟩ := b; simp at h1 h2 h3 h4 h5; subst h1 h2 h3 h4 h5; rfl
instance : DecidableEq Mc := fun a b => decidable_of_iff _ (Mc.eq_iff a b).symm
theorem En.eq_iff (a b : En) : a = b ↔ a.s = b.s ∧ a.q = b.q ∧ a.c.kind = b.c.kind ∧ a.c.who = b.c.who ∧ a.c.key = b.c.key ∧ a.c.val = b.c.val ∧ a.c.old = b.c.old := by
  constructor
  · rintro rfl; exact ⟨rfl, rfl, rfl, rfl, rfl, rfl, rfl⟩
  · rintro ⟨h1, h2, h3, h4, h5, h6, h7⟩; obtain ⟨_, _, ⟨_, _, _, _, _⟩⟩ := a; obtain ⟨_, _, ⟨_, _, _, _, _⟩⟩ := b; simp at h1 h2 h3 h4 h5 h6 h7; subst h1 h2 h3 h4 h5 h6 h7; rfl
instance : DecidableEq En := fun a b => decidable_of_iff _ (En.eq_iff a b).symm
def StepC10 : Prop := ∀ {W w : World} {a : MA} {ca : CA} {m : Mc} {e : En} {B B' : Nat}, m.Ok → e.c.Fits → RdM w B a m → RdC w B' ca e.c → Below W.heap.size W w →
  Calls Tryz.prog 53 #[machV a m, entV ca e] w (GotM W w (m.step e))
theorem StepC10.is (h : StepC10) {W w : World} {a : MA} {ca : CA} {m : Mc} {e : En} {B B' : Nat} {r : MAns} (he : m.step e = r) (hM : m.Ok) (hc : e.c.Fits) (hr : RdM w B a m) (hr' : RdC w B' ca e.c) (hB : Below W.heap.size W w) :
    Calls Tryz.prog 53 #[machV a m, entV ca e] w (GotM W w r) := by subst he; exact h hM hc hr hr' hB
end Go.Proofs.YtaknfmionkkdjaaGreat

namespace Go.Proofs.YtaknfmionkkdjaaGreat
open Go.RowKit
set_option linter.unusedVariables false
/-- the variables of a step: the machine, the entry, the two answers' -/
structure VarsM (w wx : World) (b : Nat) (a : MA) (m : Mc) (ca : CA) (e : En) : Prop where
  v0 : Blk wx b 33 (machC a m)
  v1 : Blk wx (b + 1) 40 (entC ca e)
  v2 : Blk wx (b + 1 + 1) 33 #[.slice none 0 0, .slice none 0 0, .slice none 0 0, .slice none 0 0, .slice none 0 0]
  v3 : Blk wx (b + 1 + 1 + 1) 47 #[.int .i64 0, .slice none 0 0, .int .i64 0]
  rm : RdM wx w.heap.size a m
  rc : RdC wx w.heap.size ca e.c
  bel : Below w.heap.size w wx
theorem VarsM.below {w wx wy : World} {b : Nat} {a : MA} {m : Mc} {ca : CA} {e : En} (h : VarsM w wx b a m ca e) (hb : Below wx.heap.size wx wy) : VarsM w wy b a m ca e :=
  have hw : Below w.heap.size wx wy := hb.mono h.bel.size
  ⟨h.v0.below hb, h.v1.below hb, h.v2.below hb, h.v3.below hb, h.rm.below hw, h.rc.below hw, h.bel.trans hw⟩
theorem VarsM.start {w : World} {a : MA} {m : Mc} {ca : CA} {e : En} {B B' : Nat} (h : RdM w B a m) (h' : RdC w B' ca e.c) :
    VarsM w ((((w.alloc (.cells (machC a m) 33)).alloc (.cells (entC ca e) 40)).alloc (.cells #[.slice none 0 0, .slice none 0 0, .slice none 0 0, .slice none 0 0, .slice none 0 0] 33)).alloc (.cells #[.int .i64 0, .slice none 0 0, .int .i64 0] 47)) w.heap.size a m ca e := by
  have b1 : Below w.heap.size w (w.alloc (.cells (machC a m) 33)) := (Below.refl _ _).alloc (Nat.le_refl _) _
  have b2 := b1.alloc b1.size (.cells (entC ca e) 40)
  have b3 := b2.alloc b2.size (.cells #[.slice none 0 0, .slice none 0 0, .slice none 0 0, .slice none 0 0, .slice none 0 0] 33)
  have b4 := b3.alloc b3.size (.cells #[.int .i64 0, .slice none 0 0, .int .i64 0] 47)
  refine ⟨(((Blk.new w _ _).alloc _).alloc _).alloc _, ?_, ?_, ?_, h.fit.below b4, h'.fit.below b4, b4⟩
  · have := ((Blk.new (w.alloc (.cells (machC a m) 33)) 40 (entC ca e)).alloc (.cells #[.slice none 0 0, .slice none 0 0, .slice none 0 0, .slice none 0 0, .slice none 0 0] 33)).alloc (.cells #[.int .i64 0, .slice none 0 0, .int .i64 0] 47)
    rwa [World.size_alloc] at this
  · have := (Blk.new ((w.alloc (.cells (machC a m) 33)).alloc (.cells (entC ca e) 40)) 33 #[.slice none 0 0, .slice none 0 0, .slice none 0 0, .slice none 0 0, .slice none 0 0]).alloc (.cells #[.int .i64 0, .slice none 0 0, .int .i64 0] 47)
    rwa [World.size_alloc, World.size_alloc] at this
  · have := Blk.new (((w.alloc (.cells (machC a m) 33)).alloc (.cells (entC ca e) 40)).alloc (.cells #[.slice none 0 0, .slice none 0 0, .slice none 0 0, .slice none 0 0, .slice none 0 0] 33)) 47 #[.int .i64 0, .slice none 0 0, .int .i64 0]
    rwa [World.size_alloc, World.size_alloc, World.size_alloc] at this
/-- what a walk reads of them -/
theorem VarsM.cells {w wx : World} {b : Nat} {a : MA} {m : Mc} {ca : CA} {e : En} (h : VarsM w wx b a m ca e) :
    (wx.cell? ⟨b, 0, none⟩ = some (.slice a.o.A0 m.o.reg.length a.o.c0) ∧ wx.cell? ⟨b, 1, none⟩ = some (.slice a.o.A1 m.o.q.length a.o.c1) ∧ wx.cell? ⟨b, 2, none⟩ = some (.slice a.o.A2 m.o.lk.length a.o.c2) ∧ wx.cell? ⟨b, 3, none⟩ = some (.slice a.o.A3 m.o.mp.length a.o.c3) ∧ wx.cell? ⟨b, 4, none⟩ = some (.slice a.At m.t.length a.ct)) ∧
    (wx.cell? ⟨b + 1, 0, none⟩ = some (.int .i64 e.s) ∧ wx.cell? ⟨b + 1, 1, none⟩ = some (.int .i64 e.q) ∧ wx.cell? ⟨b + 1, 2, none⟩ = some (.int .i64 e.c.kind) ∧ wx.cell? ⟨b + 1, 3, none⟩ = some (.int .i64 e.c.who) ∧ wx.cell? ⟨b + 1, 4, none⟩ = some (.slice ca.Ak e.c.key.length ca.ck) ∧ wx.cell? ⟨b + 1, 5, none⟩ = some (.slice ca.Av e.c.val.length ca.cv) ∧ wx.cell? ⟨b + 1, 6, none⟩ = some (.slice ca.Ao e.c.old.length ca.co)) ∧
    (wx.frozen? ⟨b + 1 + 1, 0, none⟩ = false ∧ wx.frozen? ⟨b + 1 + 1, 1, none⟩ = false ∧ wx.frozen? ⟨b + 1 + 1, 2, none⟩ = false ∧ wx.frozen? ⟨b + 1 + 1, 3, none⟩ = false ∧ wx.frozen? ⟨b + 1 + 1, 4, none⟩ = false) ∧
    (wx.frozen? ⟨b + 1 + 1 + 1, 0, none⟩ = false ∧ wx.frozen? ⟨b + 1 + 1 + 1, 1, none⟩ = false ∧ wx.frozen? ⟨b + 1 + 1 + 1, 2, none⟩ = false) ∧
    (wx.cell? ⟨b + 1 + 1, 0, none⟩ = some (.slice none 0 0) ∧ wx.cell? ⟨b + 1 + 1, 1, none⟩ = some (.slice none 0 0) ∧ wx.cell? ⟨b + 1 + 1, 2, none⟩ = some (.slice none 0 0) ∧ wx.cell? ⟨b + 1 + 1, 3, none⟩ = some (.slice none 0 0) ∧ wx.cell? ⟨b + 1 + 1, 4, none⟩ = some (.slice none 0 0)) ∧
    (wx.cell? ⟨b + 1 + 1 + 1, 0, none⟩ = some (.int .i64 0) ∧ wx.cell? ⟨b + 1 + 1 + 1, 1, none⟩ = some (.slice none 0 0) ∧ wx.cell? ⟨b + 1 + 1 + 1, 2, none⟩ = some (.int .i64 0)) :=
  ⟨five (t := 33) h.v0, seven h.v1, five_frozen h.v2, ⟨h.v3.frozen 0, h.v3.frozen 1, h.v3.frozen 2⟩, five h.v2, ⟨h.v3.cell 0, h.v3.cell 1, h.v3.cell 2⟩⟩
/-- the two answers' variables are written -/
theorem VarsM.end_ {w wx : World} {b : Nat} {a : MA} {m : Mc} {ca : CA} {e : En} (h : VarsM w wx b a m ca e) (hw : w.heap.size ≤ b) {r : MAns} {a' : MA} {A : Option Addr} {c : Nat} (ho : OwnM w wx a' r.m) (hv : OwnB w wx A r.v.length c r.v)
    (x0 x1 x2 x3 x4 y0 y1 y2 : Value) (hx : #[x0, x1, x2, x3, x4] = machC a' r.m) (hy : #[y0, y1, y2] = #[.int .i64 r.e, .slice A r.v.length c, .int .i64 r.n]) {en : Ending} (he : en = .returned (.tuple #[.agg #[x0, x1, x2, x3, x4], .agg #[y0, y1, y2]])) :
    let wy := ((((((((wx.setCell ⟨b + 1 + 1, 0, none⟩ x0).setCell ⟨b + 1 + 1, 1, none⟩ x1).setCell ⟨b + 1 + 1, 2, none⟩ x2).setCell ⟨b + 1 + 1, 3, none⟩ x3).setCell ⟨b + 1 + 1, 4, none⟩ x4).setCell ⟨b + 1 + 1 + 1, 0, none⟩ y0).setCell ⟨b + 1 + 1 + 1, 1, none⟩ y1).setCell ⟨b + 1 + 1 + 1, 2, none⟩ y2)
    Blk wy (b + 1 + 1) 33 #[x0, x1, x2, x3, x4] ∧ Blk wy (b + 1 + 1 + 1) 47 #[y0, y1, y2] ∧ GotM w w r en wy := by
  intro wy
  obtain ⟨k1, k2, k3, k4, k5⟩ := put5 h.v2 x0 x1 x2 x3 x4
  have l0 := k5 (b + 1 + 1 + 1) _ _ (by omega) h.v3
  obtain ⟨l1, l2, l3⟩ := put3 l0 y0 y1 y2
  have q := k3 w a' r.m ho (by decide) (by decide) (by decide) (by decide) (by decide)
  have q2 := k4 _ _ _ _ _ _ hv (by decide)
  have hbel := l2 w (by omega) (k2 w (by omega) h.bel)
  refine ⟨((k1.set_other (by omega)).set_other (by omega)).set_other (by omega), l1, a', A, c, ?_, ?_, l3 _ _ _ _ _ _ q2 (by decide), hbel, hbel⟩
  · rw [he, hx, hy]; rfl
  · exact ((q.set_t l0 (by decide) (by decide) (by decide) (by decide) (by decide)).set_t (l0.set_ _ _) (by decide) (by decide) (by decide) (by decide) (by decide)).set_t ((l0.set_ _ _).set_ _ _) (by decide) (by decide) (by decide) (by decide) (by decide)
theorem VarsM.set {w wx : World} {b g i : Nat} {u : Value} {a : MA} {m : Mc} {ca : CA} {e : En} (h : VarsM w wx b a m ca e) (hw : w.heap.size ≤ b) (hg : b + 1 + 1 + 1 < g) : VarsM w (wx.setCell ⟨g, i, none⟩ u) b a m ca e :=
  have hb : Below w.heap.size wx (wx.setCell ⟨g, i, none⟩ u) := (Below.refl _ _).setCell (p := ⟨g, i, none⟩) (by show w.heap.size ≤ g; omega) u
  ⟨h.v0.set_other (by omega), h.v1.set_other (by omega), h.v2.set_other (by omega), h.v3.set_other (by omega), h.rm.below hb, h.rc.below hb, h.bel.trans hb⟩
/-- what a region reads, wherever its operations stand -/
def SM (b g h : Nat) (mc ec rc oc : Array Value) (w' : World) : Prop := Blk w' b 33 mc ∧ Blk w' (b + 1) 40 ec ∧ Blk w' g 47 rc ∧ Blk w' h 30 oc
theorem SM.below {b g h : Nat} {mc ec rc oc : Array Value} {w w' : World} (hs : SM b g h mc ec rc oc w) (hb : Below w.heap.size w w') : SM b g h mc ec rc oc w' := ⟨hs.1.below hb, hs.2.1.below hb, hs.2.2.1.below hb, hs.2.2.2.below hb⟩
theorem SM.set {b g h k i : Nat} {u : Value} {mc ec rc oc : Array Value} {w : World} (hs : SM b g h mc ec rc oc w) (h1 : b ≠ k) (h2 : b + 1 ≠ k) (h3 : g ≠ k) (h4 : h ≠ k) : SM b g h mc ec rc oc (w.setCell ⟨k, i, none⟩ u) := ⟨hs.1.set_other h1, hs.2.1.set_other h2, hs.2.2.1.set_other h3, hs.2.2.2.set_other h4⟩
theorem SM.set5 {b g h k : Nat} {u0 u1 u2 u3 u4 : Value} {mc ec rc oc : Array Value} {w : World} (hs : SM b g h mc ec rc oc w) (h1 : b ≠ k) (h2 : b + 1 ≠ k) (h3 : g ≠ k) (h4 : h ≠ k) : SM b g h mc ec rc oc (((((w.setCell ⟨k, 0, none⟩ u0).setCell ⟨k, 1, none⟩ u1).setCell ⟨k, 2, none⟩ u2).setCell ⟨k, 3, none⟩ u3).setCell ⟨k, 4, none⟩ u4) := ((((hs.set h1 h2 h3 h4).set h1 h2 h3 h4).set h1 h2 h3 h4).set h1 h2 h3 h4).set h1 h2 h3 h4
theorem SM.set3 {b g h k : Nat} {u0 u1 u2 : Value} {mc ec rc oc : Array Value} {w : World} (hs : SM b g h mc ec rc oc w) (h1 : b ≠ k) (h2 : b + 1 ≠ k) (h3 : g ≠ k) (h4 : h ≠ k) : SM b g h mc ec rc oc (((w.setCell ⟨k, 0, none⟩ u0).setCell ⟨k, 1, none⟩ u1).setCell ⟨k, 2, none⟩ u2) := ((hs.set h1 h2 h3 h4).set h1 h2 h3 h4).set h1 h2 h3 h4
set_option maxHeartbeats 4000000 in
set_option maxRecDepth 100000 in
theorem refStep_raw {w : World} {a : MA} {ca : CA} {m : Mc} {e : En} {B B' : Nat} (hM : m.Ok) (hc : e.c.Fits) (h : RdM w B a m) (h' : RdC w B' ca e.c) :
    Calls Tryz.prog 37 #[machV a m, entV ca e] w (GotM w w (m.step e)) := by
  obtain ⟨⟨A0, c0, A1, c1, A2, c2, A3, c3⟩, At, ct⟩ := a
  obtain ⟨Ak, ck, Av, cv, Ao, co⟩ := ca
  have HV := Lib.hid (VarsM.start (e := e) h h')
  have HM := Lib.hid hM
  have HC := Lib.hid hc
  have hlen : m.t.length ≤ 100000 := by have := hM.t8; omega
  clear h h' hM hc
  unfold machV entV
  simp only [machC, entC] at HV ⊢
  obtain ⟨K, hK⟩ : ∃ K, Tb.look m.t e.s e.q = K := ⟨_, rfl⟩
  have HLK := Lib.hid (fun (W w : World) (B : Nat) (h : RdL w B At m.t.length m.t) (hB : Below W.heap.size W w) => refLook_any (W := W) (c := ct) e.s e.q hlen HM.out.lim HM.out.t.rises h hB)
  rw [hK] at HLK
  by_cases hk : K.k = 0
  · have hkb : (K.k != 0) = false := by simpa using hk
    obtain ⟨r, hr⟩ : ∃ r, m.o.apply e.c = r := ⟨_, rfl⟩
    have HST : Hid (m.step e = ⟨⟨r.s, Tb.put m.t ⟨e.s, e.q, r.e, r.v, r.n⟩⟩, r.e, r.v, r.n⟩) := Lib.hid (by unfold Mc.step; rw [hK, if_pos hk, hr])
    have HRV : Hid (r.v.length ≤ 16) := Lib.hid (by rw [← hr]; exact (Ob.apply_fits (c := e.c) HM.out.o HM.out.lk).v)
    have HAP := Lib.hid (fun (W w : World) (a : OA) (ca : CA) (B B' : Nat) (h : RdO w B a m.o) (h' : RdC w B' ca e.c) (hB : Below W.heap.size W w) => refApply_any (W := W) HM.out.o HC.out h h' hB)
    rw [hr] at HAP
    clear hK hk hr
    go_enter Tryz.func37, Tryz.ntmps37
    go_upto_region 1 with fail
    generalize ((((w.alloc (.cells #[.slice A0 m.o.reg.length c0, .slice A1 m.o.q.length c1, .slice A2 m.o.lk.length c2, .slice A3 m.o.mp.length c3, .slice At m.t.length ct] 33)).alloc (.cells #[.int .i64 e.s, .int .i64 e.q, .int .i64 e.c.kind, .int .i64 e.c.who, .slice Ak e.c.key.length ck, .slice Av e.c.val.length cv, .slice Ao e.c.old.length co] 40)).alloc (.cells #[.slice none 0 0, .slice none 0 0, .slice none 0 0, .slice none 0 0, .slice none 0 0] 33)).alloc (.cells #[.int .i64 0, .slice none 0 0, .int .i64 0] 47)) = wa at HV ⊢
    obtain ⟨⟨x0, x1, x2, x3, x4⟩, ⟨y0, y1, y2, y3, y4, y5, y6⟩, _⟩ := HV.out.cells
    go_upto_region 6 with (first
      | (go_at_call 55; refine (HLK.out w _ _ HV.out.rm.t HV.out.bel).mono ?_; rintro en w1 ⟨A5, c5, rfl, ho1, hB1, hb1⟩; unfold resV; have HG1 := Lib.hid (HV.out.below hb1).v3.lt; have hb1' := hb1.alloc hb1.size (.cells #[.int .i64 K.e, .slice A5 K.v.length c5, .int .i64 K.n] 47); have HV1 := Lib.hid (HV.out.below hb1'); have HK1 := Lib.hid (Blk.new w1 47 #[.int .i64 K.e, .slice A5 K.v.length c5, .int .i64 K.n]); obtain ⟨⟨x0, x1, x2, x3, x4⟩, ⟨y0, y1, y2, y3, y4, y5, y6⟩, _⟩ := HV1.out.cells)
      | (go_at_call 56; refine (HAP.out w _ ⟨A0, c0, A1, c1, A2, c2, A3, c3⟩ ⟨Ak, ck, Av, cv, Ao, co⟩ _ _ HV1.out.rm.o HV1.out.rc HV1.out.bel).mono ?_; rintro en w2 ⟨a2, A6, c6, rfl, ho2, hv2, hB2, hb2⟩; unfold resV objV objC; have hb2' := hb2.alloc hb2.size (.cells #[.slice a2.A0 r.s.reg.length a2.c0, .slice a2.A1 r.s.q.length a2.c1, .slice a2.A2 r.s.lk.length a2.c2, .slice a2.A3 r.s.mp.length a2.c3] 30); have HG2 := Lib.hid (HK1.out.below hb2).lt; have HV2 := Lib.hid (HV1.out.below hb2'); have HK2 := Lib.hid (HK1.out.below hb2'); have HQ2 := Lib.hid (Blk.new w2 30 #[.slice a2.A0 r.s.reg.length a2.c0, .slice a2.A1 r.s.q.length a2.c1, .slice a2.A2 r.s.lk.length a2.c2, .slice a2.A3 r.s.mp.length a2.c3]); have HO2 := Lib.hid (ho2.below ((Below.refl _ _).alloc (Nat.le_refl _) (.cells #[.slice a2.A0 r.s.reg.length a2.c0, .slice a2.A1 r.s.q.length a2.c1, .slice a2.A2 r.s.lk.length a2.c2, .slice a2.A3 r.s.mp.length a2.c3] 30))); have HR2 := Lib.hid (own_below hv2 ((Below.refl _ _).alloc (Nat.le_refl _) (.cells #[.slice a2.A0 r.s.reg.length a2.c0, .slice a2.A1 r.s.q.length a2.c1, .slice a2.A2 r.s.lk.length a2.c2, .slice a2.A3 r.s.mp.length a2.c3] 30))); obtain ⟨k0, k1, k2, f0, f1, f2⟩ := three HK2.out; clear hb2' hb2 ho2 hv2 hB2)
      | fail)
    have hg1 := HG1.out
    have hg2 := HG2.out
    obtain ⟨p1, p2, p3⟩ := put3 HK2.out (.int .i64 r.e) (.slice A6 r.v.length c6) (.int .i64 r.n)
    have HV6 := Lib.hid (((HV2.out.set (Nat.le_refl _) hg1 (i := 0) (u := .int .i64 r.e)).set (Nat.le_refl _) hg1 (i := 1) (u := .slice A6 r.v.length c6)).set (Nat.le_refl _) hg1 (i := 2) (u := .int .i64 r.n))
    have HQ6 := Lib.hid (((HQ2.out.set_other (b := w1.heap.size) (i := 0) (u := .int .i64 r.e) (by omega)).set_other (b := w1.heap.size) (i := 1) (u := .slice A6 r.v.length c6) (by omega)).set_other (b := w1.heap.size) (i := 2) (u := .int .i64 r.n) (by omega))
    have HK6 := Lib.hid p1
    have HR6 := Lib.hid (p3 _ _ _ _ _ _ HR2.out (by decide))
    have HO6 := Lib.hid (((HO2.out.set_t HK2.out (i := 0) (u := .int .i64 r.e) (by decide) (by decide) (by decide) (by decide)).set_t (HK2.out.set_ _ _) (i := 1) (u := .slice A6 r.v.length c6) (by decide) (by decide) (by decide) (by decide)).set_t ((HK2.out.set_ _ _).set_ _ _) (i := 2) (u := .int .i64 r.n) (by decide) (by decide) (by decide) (by decide))
    clear p1 p2 p3 HV2 HQ2 HK2 HO2 HR2 HG1 HG2 HV1 HK1 HV x0 x1 x2 x3 x4 y0 y1 y2 y3 y4 y5 y6 k0 k1 k2 f0 f1 f2 HAP HLK
    generalize ((((w2.alloc (.cells #[.slice a2.A0 r.s.reg.length a2.c0, .slice a2.A1 r.s.q.length a2.c1, .slice a2.A2 r.s.lk.length a2.c2, .slice a2.A3 r.s.mp.length a2.c3] 30)).setCell ⟨w1.heap.size, 0, none⟩ (.int .i64 r.e)).setCell ⟨w1.heap.size, 1, none⟩ (.slice A6 r.v.length c6)).setCell ⟨w1.heap.size, 2, none⟩ (.int .i64 r.n)) = wx at HV6 HQ6 HK6 HR6 HO6 ⊢
    have HP := Lib.hid (fun (W w : World) (B B' : Nat) (h : RdL w B At m.t.length m.t) (h' : Rd w B' A6 r.v.length (bv r.v)) (hB : Below W.heap.size W w) => refPutL_any (W := W) (l := ⟨e.s, e.q, r.e, r.v, r.n⟩) (c := ct) (c' := c6) hlen HM.out.lim (show Lim 0 r.v.length by have := HRV.out; unfold Lim; omega) HM.out.t.rises h h' hB)
    have hbd : Below wx.heap.size wx wx.drew := (Below.refl _ _).drew
    have HV7 := Lib.hid (HV6.out.below hbd)
    have HR7 := Lib.hid (own_below HR6.out hbd)
    have HO7 := Lib.hid (HO6.out.below hbd)
    have HS7 : Hid (SM w.heap.size w1.heap.size w2.heap.size #[.slice A0 m.o.reg.length c0, .slice A1 m.o.q.length c1, .slice A2 m.o.lk.length c2, .slice A3 m.o.mp.length c3, .slice At m.t.length ct] #[.int .i64 e.s, .int .i64 e.q, .int .i64 e.c.kind, .int .i64 e.c.who, .slice Ak e.c.key.length ck, .slice Av e.c.val.length cv, .slice Ao e.c.old.length co] #[.int .i64 r.e, .slice A6 r.v.length c6, .int .i64 r.n] #[.slice a2.A0 r.s.reg.length a2.c0, .slice a2.A1 r.s.q.length a2.c1, .slice a2.A2 r.s.lk.length a2.c2, .slice a2.A3 r.s.mp.length a2.c3] wx.drew) := Lib.hid ⟨HV7.out.v0, HV7.out.v1, HK6.out.below hbd, HQ6.out.below hbd⟩
    refine wp_region_held_drew (S := SM w.heap.size w1.heap.size w2.heap.size #[.slice A0 m.o.reg.length c0, .slice A1 m.o.q.length c1, .slice A2 m.o.lk.length c2, .slice A3 m.o.mp.length c3, .slice At m.t.length ct] #[.int .i64 e.s, .int .i64 e.q, .int .i64 e.c.kind, .int .i64 e.c.who, .slice Ak e.c.key.length ck, .slice Av e.c.val.length cv, .slice Ao e.c.old.length co] #[.int .i64 r.e, .slice A6 r.v.length c6, .int .i64 r.n] #[.slice a2.A0 r.s.reg.length a2.c0, .slice a2.A1 r.s.q.length a2.c1, .slice a2.A2 r.s.lk.length a2.c2, .slice a2.A3 r.s.mp.length a2.c3]) (by kernel_rfl) HS7.out (fun _ => ?_)
    clear hbd HV6 HR6 HO6 HK6 HQ6
    generalize wx.drew = wd at HV7 HR7 HO7 HS7 ⊢
    refine wpAnyH_take (i := 1) (v := .pointer (some ⟨w.heap.size, 4, none⟩)) rfl (by kernel_rfl) (by kernel_rfl) (by kernel_rfl) (fun _ _ _ h => h) (Or.inl ⟨by kernel_rfl, fun w _ => by go_simp⟩) HS7.out ?_
    refine wpAnyH_take (i := 3) (v := .pointer (some ⟨w.heap.size + 1, 0, none⟩)) rfl (by kernel_rfl) (by kernel_rfl) (by kernel_rfl) (fun _ _ _ h => h) (Or.inl ⟨by kernel_rfl, fun w _ => by go_simp⟩) HS7.out ?_
    refine wpAnyH_take (i := 5) (v := .pointer (some ⟨w.heap.size + 1, 1, none⟩)) rfl (by kernel_rfl) (by kernel_rfl) (by kernel_rfl) (fun _ _ _ h => h) (Or.inl ⟨by kernel_rfl, fun w _ => by go_simp⟩) HS7.out ?_
    refine wpAnyH_take (i := 0) (v := .agg #[.slice a2.A0 r.s.reg.length a2.c0, .slice a2.A1 r.s.q.length a2.c1, .slice a2.A2 r.s.lk.length a2.c2, .slice a2.A3 r.s.mp.length a2.c3]) rfl (by kernel_rfl) (by kernel_rfl) (by kernel_rfl) (fun _ _ _ h => h) (Or.inl ⟨by kernel_rfl, fun w h => by obtain ⟨q0, q1, q2, q3, _⟩ := four h.2.2.2; go_simp⟩) HS7.out ?_
    refine wpAnyH_take (i := 2) (v := .slice At m.t.length ct) rfl (by kernel_rfl) (by kernel_rfl) (by kernel_rfl) (fun _ _ _ h => h) (Or.inl ⟨by kernel_rfl, fun w h => by obtain ⟨q0, q1, q2, q3, q4⟩ := five h.1; go_simp⟩) HS7.out ?_
    refine wpAnyH_take (i := 4) (v := .int .i64 e.s) rfl (by kernel_rfl) (by kernel_rfl) (by kernel_rfl) (fun _ _ _ h => h) (Or.inl ⟨by kernel_rfl, fun w h => by obtain ⟨q0, q1, q2, q3, q4, q5, q6⟩ := seven h.2.1; go_simp⟩) HS7.out ?_
    refine wpAnyH_take (i := 6) (v := .int .i64 e.q) rfl (by kernel_rfl) (by kernel_rfl) (by kernel_rfl) (fun _ _ _ h => h) (Or.inl ⟨by kernel_rfl, fun w h => by obtain ⟨q0, q1, q2, q3, q4, q5, q6⟩ := seven h.2.1; go_simp⟩) HS7.out ?_
    refine wpAnyH_take (i := 7) (v := .agg #[.int .i64 r.e, .slice A6 r.v.length c6, .int .i64 r.n]) rfl (by kernel_rfl) (by kernel_rfl) (by kernel_rfl) (fun _ _ _ h => h) (Or.inl ⟨by kernel_rfl, fun w h => by obtain ⟨q0, q1, q2, _, _, _⟩ := three h.2.2.1; go_simp⟩) HS7.out ?_
    refine wpAnyH_take (i := 10) (v := .agg #[.int .i64 r.e, .slice A6 r.v.length c6, .int .i64 r.n]) rfl (by kernel_rfl) (by kernel_rfl) (by kernel_rfl) (fun _ _ _ h => h) (Or.inl ⟨by kernel_rfl, fun w h => by obtain ⟨q0, q1, q2, _, _, _⟩ := three h.2.2.1; go_simp⟩) HS7.out ?_
    refine wpAnyH_ready (rs := [8]) (by kernel_rfl) (by simp) ?_
    refine AllReadyH.cons rfl (fun K hK => ?_) AllReadyH.nil
    go_simp
    refine (HP.out w _ _ _ HV7.out.rm.t (Rd.own_ HR7.out) HV7.out.bel).mono ?_
    rintro en w3 ⟨A7, c7, rfl, ho7, hB7, hb7⟩
    have HK8 := Lib.hid (HS7.out.2.2.1.below hb7)
    have HV8 := Lib.hid (HV7.out.below hb7)
    have HR8 := Lib.hid (own_below HR7.out hb7)
    have HO8 := Lib.hid (HO7.out.below hb7)
    have HS8 := Lib.hid (HS7.out.below hb7)
    clear HV7 HR7 HO7 HS7
    go_simp
    refine hK.out _ _ HS8.out (fun _ => ?_)
    clear hK K
    refine wpAnyH_take (i := 9) (v := .agg #[.slice a2.A0 r.s.reg.length a2.c0, .slice a2.A1 r.s.q.length a2.c1, .slice a2.A2 r.s.lk.length a2.c2, .slice a2.A3 r.s.mp.length a2.c3, .slice A7 (Tb.put m.t ⟨e.s, e.q, r.e, r.v, r.n⟩).length c7]) rfl (by kernel_rfl) (by kernel_rfl) (by kernel_rfl) (fun _ _ _ h => h) (Or.inl ⟨by kernel_rfl, fun w _ => by go_simp⟩) HS8.out ?_
    have l1 := HK8.out.lt
    have HS9 := Lib.hid (HS8.out.set5 (k := w.heap.size + 1 + 1) (u0 := .slice a2.A0 r.s.reg.length a2.c0) (u1 := .slice a2.A1 r.s.q.length a2.c1) (u2 := .slice a2.A2 r.s.lk.length a2.c2) (u3 := .slice a2.A3 r.s.mp.length a2.c3) (u4 := .slice A7 (Tb.put m.t ⟨e.s, e.q, r.e, r.v, r.n⟩).length c7) (by omega) (by omega) (by omega) (by omega))
    obtain ⟨_, _, _, _, k5⟩ := put5 HV8.out.v2 (.slice a2.A0 r.s.reg.length a2.c0) (.slice a2.A1 r.s.q.length a2.c1) (.slice a2.A2 r.s.lk.length a2.c2) (.slice a2.A3 r.s.mp.length a2.c3) (.slice A7 (Tb.put m.t ⟨e.s, e.q, r.e, r.v, r.n⟩).length c7)
    have l0 := k5 (w.heap.size + 1 + 1 + 1) _ _ (by omega) HV8.out.v3
    have HS10 := Lib.hid (HS9.out.set3 (k := w.heap.size + 1 + 1 + 1) (u0 := .int .i64 r.e) (u1 := .slice A6 r.v.length c6) (u2 := .int .i64 r.n) (by omega) (by omega) (by omega) (by omega))
    obtain ⟨e1, e2, e3⟩ := HV8.out.end_ (Nat.le_refl _) (r := ⟨⟨r.s, Tb.put m.t ⟨e.s, e.q, r.e, r.v, r.n⟩⟩, r.e, r.v, r.n⟩) (a' := ⟨a2, A7, c7⟩) ⟨HO8.out, ho7⟩ HR8.out (.slice a2.A0 r.s.reg.length a2.c0) (.slice a2.A1 r.s.q.length a2.c1) (.slice a2.A2 r.s.lk.length a2.c2) (.slice a2.A3 r.s.mp.length a2.c3) (.slice A7 (Tb.put m.t ⟨e.s, e.q, r.e, r.v, r.n⟩).length c7) (.int .i64 r.e) (.slice A6 r.v.length c6) (.int .i64 r.n) rfl rfl rfl
    have HE := Lib.hid (And.intro e1 (And.intro e2 e3))
    obtain ⟨_, _, ⟨z0, z1, z2, z3, z4⟩, ⟨u0, u1, u2⟩, ⟨q0, q1, q2, q3, q4⟩, ⟨r0, r1, r2⟩⟩ := HV8.out.cells
    obtain ⟨p0, p1, p2, d0, d1, d2⟩ := three l0
    clear k5 l0 e1 e2 e3 r0 r1 r2 u0 u1 u2
    refine wpAnyH_ready (rs := [11]) (by kernel_rfl) (by simp) ?_
    refine AllReadyH.cons rfl (fun K hK => ?_) AllReadyH.nil
    go_simp
    refine hK.out _ _ HS9.out (fun _ => ?_)
    clear hK K
    clear z0 z1 z2 z3 z4 q0 q1 q2 q3 q4
    generalize (((((w3.setCell ⟨w.heap.size + 1 + 1, 0, none⟩ (.slice a2.A0 r.s.reg.length a2.c0)).setCell ⟨w.heap.size + 1 + 1, 1, none⟩ (.slice a2.A1 r.s.q.length a2.c1)).setCell ⟨w.heap.size + 1 + 1, 2, none⟩ (.slice a2.A2 r.s.lk.length a2.c2)).setCell ⟨w.heap.size + 1 + 1, 3, none⟩ (.slice a2.A3 r.s.mp.length a2.c3)).setCell ⟨w.heap.size + 1 + 1, 4, none⟩ (.slice A7 (Tb.put m.t ⟨e.s, e.q, r.e, r.v, r.n⟩).length c7)) = w9 at HE HS9 HS10 p0 p1 p2 d0 d1 d2 ⊢
    refine wpAnyH_ready (rs := [12]) (by kernel_rfl) (by simp) ?_
    refine AllReadyH.cons rfl (fun K hK => ?_) AllReadyH.nil
    go_simp
    refine hK.out _ _ HS10.out (fun _ => ?_)
    clear hK K
    refine wpAnyH_done (by kernel_rfl) ?_ _
    go_wp2_with fail
    refine bodyPost_ret (results_cells2 rfl _ _ _ _ _ _ _ _ _ _ rfl rfl HE.out.1 HE.out.2.1 Tryz.underlying33 rfl (by kernel_rfl) Tryz.underlying47 rfl (by kernel_rfl)) rfl ?_
    rw [HST.out]
    exact HE.out.2.2
  · have hkb : (K.k != 0) = true := by simpa using hk
    have HST : Hid (m.step e = ⟨m, K.e, K.v, K.n⟩) := Lib.hid (by unfold Mc.step; rw [hK, if_neg hk])
    have HAP := Lib.hid (fun (W w : World) (a : OA) (B : Nat) (h : RdO w B a m.o) (hB : Below W.heap.size W w) => refApply_any (W := W) HM.out.o Cm.Fits.zero h (RdC.zero w w.heap.size) hB)
    rw [apply_zero] at HAP
    clear hK hk
    go_enter Tryz.func37, Tryz.ntmps37
    go_upto_region 1 with fail
    generalize ((((w.alloc (.cells #[.slice A0 m.o.reg.length c0, .slice A1 m.o.q.length c1, .slice A2 m.o.lk.length c2, .slice A3 m.o.mp.length c3, .slice At m.t.length ct] 33)).alloc (.cells #[.int .i64 e.s, .int .i64 e.q, .int .i64 e.c.kind, .int .i64 e.c.who, .slice Ak e.c.key.length ck, .slice Av e.c.val.length cv, .slice Ao e.c.old.length co] 40)).alloc (.cells #[.slice none 0 0, .slice none 0 0, .slice none 0 0, .slice none 0 0, .slice none 0 0] 33)).alloc (.cells #[.int .i64 0, .slice none 0 0, .int .i64 0] 47)) = wa at HV ⊢
    obtain ⟨⟨x0, x1, x2, x3, x4⟩, ⟨y0, y1, y2, y3, y4, y5, y6⟩, _⟩ := HV.out.cells
    go_upto_region 4 with (first
      | (go_at_call 55; refine (HLK.out w _ _ HV.out.rm.t HV.out.bel).mono ?_; rintro en w1 ⟨A5, c5, rfl, ho1, hB1, hb1⟩; unfold resV; have HG1 := Lib.hid (HV.out.below hb1).v3.lt; have hb1' := hb1.alloc hb1.size (.cells #[.int .i64 K.e, .slice A5 K.v.length c5, .int .i64 K.n] 47); have HV1 := Lib.hid (HV.out.below hb1'); have HK1 := Lib.hid (Blk.new w1 47 #[.int .i64 K.e, .slice A5 K.v.length c5, .int .i64 K.n]); have HO1 := Lib.hid (own_below ho1 ((Below.refl _ _).alloc (Nat.le_refl _) (.cells #[.int .i64 K.e, .slice A5 K.v.length c5, .int .i64 K.n] 47))); obtain ⟨⟨x0, x1, x2, x3, x4⟩, ⟨y0, y1, y2, y3, y4, y5, y6⟩, _⟩ := HV1.out.cells)
      | (go_at_call 56; refine (HAP.out w _ ⟨A0, c0, A1, c1, A2, c2, A3, c3⟩ _ HV1.out.rm.o HV1.out.bel).mono ?_; rintro en w2 ⟨a2, A6, c6, rfl, ho2, hv2, hB2, hb2⟩; have HG3 := Lib.hid (HK1.out.below hb2).lt; unfold resV objV objC; simp only [List.length_nil])
      | fail)
    generalize hwx : ((w2.alloc (.cells #[.slice a2.A0 m.o.reg.length a2.c0, .slice a2.A1 m.o.q.length a2.c1, .slice a2.A2 m.o.lk.length a2.c2, .slice a2.A3 m.o.mp.length a2.c3] 30)).alloc (.cells #[.int .i64 7, .slice A6 0 c6, .int .i64 0] 47)) = wx
    have hb2' : Below (w1.alloc (.cells #[.int .i64 K.e, .slice A5 K.v.length c5, .int .i64 K.n] 47)).heap.size (w1.alloc (.cells #[.int .i64 K.e, .slice A5 K.v.length c5, .int .i64 K.n] 47)) wx := by rw [← hwx]; exact (hb2.alloc hb2.size _).alloc (hb2.alloc hb2.size _).size _
    have HV6 := Lib.hid (HV1.out.below hb2')
    have HK6 := Lib.hid (HK1.out.below hb2')
    have HR6 := Lib.hid (own_below HO1.out hb2')
    have hbx : Below w2.heap.size w2 wx := by rw [← hwx]; exact ((Below.refl _ _).alloc (Nat.le_refl _) _).alloc (by simp) _
    have HO6 := Lib.hid (ho2.below hbx)
    have HQ6 : Hid (Blk wx w2.heap.size 30 #[.slice a2.A0 m.o.reg.length a2.c0, .slice a2.A1 m.o.q.length a2.c1, .slice a2.A2 m.o.lk.length a2.c2, .slice a2.A3 m.o.mp.length a2.c3]) := Lib.hid (by rw [← hwx]; exact (Blk.new w2 _ _).alloc _)
    clear hwx hb2' hbx HV1 HK1 HO1 HV x0 x1 x2 x3 x4 y0 y1 y2 y3 y4 y5 y6 HAP HLK ho2 hv2 hB2 hb2 ho1 hB1 hb1 hb1'
    have HP := Lib.hid (fun (W w : World) (B : Nat) (h : RdL w B At m.t.length m.t) (hB : Below W.heap.size W w) => refTable_any (W := W) (c := ct) hlen HM.out.lim h hB)
    have hg1 := HG1.out
    have hg2 : w1.heap.size < w2.heap.size := HG3.out
    have hbd : Below wx.heap.size wx wx.drew := (Below.refl _ _).drew
    have HV7 := Lib.hid (HV6.out.below hbd)
    have HR7 := Lib.hid (own_below HR6.out hbd)
    have HO7 := Lib.hid (HO6.out.below hbd)
    have HS7 : Hid (SM w.heap.size w1.heap.size w2.heap.size #[.slice A0 m.o.reg.length c0, .slice A1 m.o.q.length c1, .slice A2 m.o.lk.length c2, .slice A3 m.o.mp.length c3, .slice At m.t.length ct] #[.int .i64 e.s, .int .i64 e.q, .int .i64 e.c.kind, .int .i64 e.c.who, .slice Ak e.c.key.length ck, .slice Av e.c.val.length cv, .slice Ao e.c.old.length co] #[.int .i64 K.e, .slice A5 K.v.length c5, .int .i64 K.n] #[.slice a2.A0 m.o.reg.length a2.c0, .slice a2.A1 m.o.q.length a2.c1, .slice a2.A2 m.o.lk.length a2.c2, .slice a2.A3 m.o.mp.length a2.c3] wx.drew) := Lib.hid ⟨HV7.out.v0, HV7.out.v1, HK6.out.below hbd, HQ6.out.below hbd⟩
    refine wp_region_held_drew (S := SM w.heap.size w1.heap.size w2.heap.size #[.slice A0 m.o.reg.length c0, .slice A1 m.o.q.length c1, .slice A2 m.o.lk.length c2, .slice A3 m.o.mp.length c3, .slice At m.t.length ct] #[.int .i64 e.s, .int .i64 e.q, .int .i64 e.c.kind, .int .i64 e.c.who, .slice Ak e.c.key.length ck, .slice Av e.c.val.length cv, .slice Ao e.c.old.length co] #[.int .i64 K.e, .slice A5 K.v.length c5, .int .i64 K.n] #[.slice a2.A0 m.o.reg.length a2.c0, .slice a2.A1 m.o.q.length a2.c1, .slice a2.A2 m.o.lk.length a2.c2, .slice a2.A3 m.o.mp.length a2.c3]) (by kernel_rfl) HS7.out (fun _ => ?_)
    clear hbd HV6 HR6 HO6 HK6 HQ6
    generalize wx.drew = wd at HV7 HR7 HO7 HS7 ⊢
    refine wpAnyH_take (i := 1) (v := .pointer (some ⟨w.heap.size, 4, none⟩)) rfl (by kernel_rfl) (by kernel_rfl) (by kernel_rfl) (fun _ _ _ h => h) (Or.inl ⟨by kernel_rfl, fun w _ => by go_simp⟩) HS7.out ?_
    refine wpAnyH_take (i := 0) (v := .agg #[.slice a2.A0 m.o.reg.length a2.c0, .slice a2.A1 m.o.q.length a2.c1, .slice a2.A2 m.o.lk.length a2.c2, .slice a2.A3 m.o.mp.length a2.c3]) rfl (by kernel_rfl) (by kernel_rfl) (by kernel_rfl) (fun _ _ _ h => h) (Or.inl ⟨by kernel_rfl, fun w h => by obtain ⟨q0, q1, q2, q3, _⟩ := four h.2.2.2; go_simp⟩) HS7.out ?_
    refine wpAnyH_take (i := 2) (v := .slice At m.t.length ct) rfl (by kernel_rfl) (by kernel_rfl) (by kernel_rfl) (fun _ _ _ h => h) (Or.inl ⟨by kernel_rfl, fun w h => by obtain ⟨q0, q1, q2, q3, q4⟩ := five h.1; go_simp⟩) HS7.out ?_
    refine wpAnyH_take (i := 5) (v := .agg #[.int .i64 K.e, .slice A5 K.v.length c5, .int .i64 K.n]) rfl (by kernel_rfl) (by kernel_rfl) (by kernel_rfl) (fun _ _ _ h => h) (Or.inl ⟨by kernel_rfl, fun w h => by obtain ⟨q0, q1, q2, _, _, _⟩ := three h.2.2.1; go_simp⟩) HS7.out ?_
    refine wpAnyH_ready (rs := [3]) (by kernel_rfl) (by simp) ?_
    refine AllReadyH.cons rfl (fun K hK => ?_) AllReadyH.nil
    go_simp
    refine (HP.out w _ _ HV7.out.rm.t HV7.out.bel).mono ?_
    rintro en w3 ⟨A7, c7, rfl, ho7, hB7, hb7⟩
    have HK8 := Lib.hid (HS7.out.2.2.1.below hb7)
    have HV8 := Lib.hid (HV7.out.below hb7)
    have HR8 := Lib.hid (own_below HR7.out hb7)
    have HO8 := Lib.hid (HO7.out.below hb7)
    have HS8 := Lib.hid (HS7.out.below hb7)
    clear HV7 HR7 HO7 HS7
    go_simp
    refine hK.out _ _ HS8.out (fun _ => ?_)
    clear hK K
    refine wpAnyH_take (i := 4) (v := .agg #[.slice a2.A0 m.o.reg.length a2.c0, .slice a2.A1 m.o.q.length a2.c1, .slice a2.A2 m.o.lk.length a2.c2, .slice a2.A3 m.o.mp.length a2.c3, .slice A7 m.t.length c7]) rfl (by kernel_rfl) (by kernel_rfl) (by kernel_rfl) (fun _ _ _ h => h) (Or.inl ⟨by kernel_rfl, fun w _ => by go_simp⟩) HS8.out ?_
    have l1 := HK8.out.lt
    have HS9 := Lib.hid (HS8.out.set5 (k := w.heap.size + 1 + 1) (u0 := .slice a2.A0 m.o.reg.length a2.c0) (u1 := .slice a2.A1 m.o.q.length a2.c1) (u2 := .slice a2.A2 m.o.lk.length a2.c2) (u3 := .slice a2.A3 m.o.mp.length a2.c3) (u4 := .slice A7 m.t.length c7) (by omega) (by omega) (by omega) (by omega))
    obtain ⟨_, _, _, _, k5⟩ := put5 HV8.out.v2 (.slice a2.A0 m.o.reg.length a2.c0) (.slice a2.A1 m.o.q.length a2.c1) (.slice a2.A2 m.o.lk.length a2.c2) (.slice a2.A3 m.o.mp.length a2.c3) (.slice A7 m.t.length c7)
    have l0 := k5 (w.heap.size + 1 + 1 + 1) _ _ (by omega) HV8.out.v3
    have HS10 := Lib.hid (HS9.out.set3 (k := w.heap.size + 1 + 1 + 1) (u0 := .int .i64 K.e) (u1 := .slice A5 K.v.length c5) (u2 := .int .i64 K.n) (by omega) (by omega) (by omega) (by omega))
    obtain ⟨e1, e2, e3⟩ := HV8.out.end_ (Nat.le_refl _) (r := ⟨m, K.e, K.v, K.n⟩) (a' := ⟨a2, A7, c7⟩) ⟨HO8.out, ho7⟩ HR8.out (.slice a2.A0 m.o.reg.length a2.c0) (.slice a2.A1 m.o.q.length a2.c1) (.slice a2.A2 m.o.lk.length a2.c2) (.slice a2.A3 m.o.mp.length a2.c3) (.slice A7 m.t.length c7) (.int .i64 K.e) (.slice A5 K.v.length c5) (.int .i64 K.n) rfl rfl rfl
    have HE := Lib.hid (And.intro e1 (And.intro e2 e3))
    obtain ⟨_, _, ⟨z0, z1, z2, z3, z4⟩, ⟨u0, u1, u2⟩, ⟨q0, q1, q2, q3, q4⟩, ⟨r0, r1, r2⟩⟩ := HV8.out.cells
    obtain ⟨p0, p1, p2, d0, d1, d2⟩ := three l0
    clear k5 l0 e1 e2 e3 r0 r1 r2 u0 u1 u2
    refine wpAnyH_ready (rs := [6]) (by kernel_rfl) (by simp) ?_
    refine AllReadyH.cons rfl (fun K hK => ?_) AllReadyH.nil
    go_simp
    refine hK.out _ _ HS9.out (fun _ => ?_)
    clear hK K
    clear z0 z1 z2 z3 z4 q0 q1 q2 q3 q4
    generalize (((((w3.setCell ⟨w.heap.size + 1 + 1, 0, none⟩ (.slice a2.A0 m.o.reg.length a2.c0)).setCell ⟨w.heap.size + 1 + 1, 1, none⟩ (.slice a2.A1 m.o.q.length a2.c1)).setCell ⟨w.heap.size + 1 + 1, 2, none⟩ (.slice a2.A2 m.o.lk.length a2.c2)).setCell ⟨w.heap.size + 1 + 1, 3, none⟩ (.slice a2.A3 m.o.mp.length a2.c3)).setCell ⟨w.heap.size + 1 + 1, 4, none⟩ (.slice A7 m.t.length c7)) = w9 at HE HS9 HS10 p0 p1 p2 d0 d1 d2 ⊢
    refine wpAnyH_ready (rs := [7]) (by kernel_rfl) (by simp) ?_
    refine AllReadyH.cons rfl (fun K hK => ?_) AllReadyH.nil
    go_simp
    refine hK.out _ _ HS10.out (fun _ => ?_)
    clear hK K
    refine wpAnyH_done (by kernel_rfl) ?_ _
    go_wp2_with fail
    refine bodyPost_ret (results_cells2 rfl _ _ _ _ _ _ _ _ _ _ rfl rfl HE.out.1 HE.out.2.1 Tryz.underlying33 rfl (by kernel_rfl) Tryz.underlying47 rfl (by kernel_rfl)) rfl ?_
    rw [HST.out]
    exact HE.out.2.2
theorem refStep_any {W w : World} {a : MA} {ca : CA} {m : Mc} {e : En} {B B' : Nat} (hM : m.Ok) (hc : e.c.Fits) (h : RdM w B a m) (h' : RdC w B' ca e.c) (hB : Below W.heap.size W w) :
    Calls Tryz.prog 37 #[machV a m, entV ca e] w (GotM W w (m.step e)) :=
  (refStep_raw hM hc h h').mono fun e w' h => GotM.of hB h
end Go.Proofs.YtaknfmionkkdjaaGreat

