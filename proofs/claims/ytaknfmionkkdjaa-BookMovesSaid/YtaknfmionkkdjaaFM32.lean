/- MachRefG MachRef ObjsCopied -/
import Derived.Test.YtaknfmionkkdjaaFM04
import Derived.Test.YtaknfmionkkdjaaFM11
import Derived.Test.YtaknfmionkkdjaaFM13
import Derived.Test.YtaknfmionkkdjaaFM19
import Derived.Test.YtaknfmionkkdjaaFM21
import Derived.Test.YtaknfmionkkdjaaFM29
import Derived.Test.YtaknfmionkkdjaaFM31
import Derived.Deep.RegionHeld3
namespace Go.Proofs.Ytaknfmionkkdjaa
open Go.RowKit
set_option linter.unusedVariables false
/-- a command of the call's own -/
structure OwnC (W w : World) (a : CA) (c : Cm) : Prop where
  k : OwnB W w a.Ak c.key.length a.ck c.key
  v : OwnB W w a.Av c.val.length a.cv c.val
  o : OwnB W w a.Ao c.old.length a.co c.old
theorem OwnC.rd {W w : World} {a : CA} {c : Cm} (h : OwnC W w a c) : RdC w w.heap.size a c := ⟨Rd.own_ h.k, Rd.own_ h.v, Rd.own_ h.o⟩
end Go.Proofs.Ytaknfmionkkdjaa

namespace Go.Proofs.Ytaknfmionkkdjaa
open Go.RowKit
set_option linter.unusedVariables false
/-- the variables of a step: the machine, the entry, the two answers' -/
structure VarsM (w wx : World) (b : Nat) (a : MA) (m : Mc) (ca : CA) (e : En) : Prop where
  v0 : Blk wx b 40 (machC a m)
  v1 : Blk wx (b + 1) 30 (entC ca e)
  v2 : Blk wx (b + 1 + 1) 40 #[.slice none 0 0, .slice none 0 0, .slice none 0 0, .slice none 0 0, .slice none 0 0]
  v3 : Blk wx (b + 1 + 1 + 1) 65 #[.int .i64 0, .slice none 0 0, .int .i64 0]
  rm : RdM wx w.heap.size a m
  rc : RdC wx w.heap.size ca e.c
  bel : Below w.heap.size w wx
theorem VarsM.below {w wx wy : World} {b : Nat} {a : MA} {m : Mc} {ca : CA} {e : En} (h : VarsM w wx b a m ca e) (hb : Below wx.heap.size wx wy) : VarsM w wy b a m ca e :=
  have hw : Below w.heap.size wx wy := hb.mono h.bel.size
  ⟨h.v0.below hb, h.v1.below hb, h.v2.below hb, h.v3.below hb, h.rm.below hw, h.rc.below hw, h.bel.trans hw⟩
theorem VarsM.start {w : World} {a : MA} {m : Mc} {ca : CA} {e : En} {B B' : Nat} (h : RdM w B a m) (h' : RdC w B' ca e.c) :
    VarsM w ((((w.alloc (.cells (machC a m) 40)).alloc (.cells (entC ca e) 30)).alloc (.cells #[.slice none 0 0, .slice none 0 0, .slice none 0 0, .slice none 0 0, .slice none 0 0] 40)).alloc (.cells #[.int .i64 0, .slice none 0 0, .int .i64 0] 65)) w.heap.size a m ca e := by
  have b1 : Below w.heap.size w (w.alloc (.cells (machC a m) 40)) := (Below.refl _ _).alloc (Nat.le_refl _) _
  have b2 := b1.alloc b1.size (.cells (entC ca e) 30)
  have b3 := b2.alloc b2.size (.cells #[.slice none 0 0, .slice none 0 0, .slice none 0 0, .slice none 0 0, .slice none 0 0] 40)
  have b4 := b3.alloc b3.size (.cells #[.int .i64 0, .slice none 0 0, .int .i64 0] 65)
  refine ⟨(((Blk.new w _ _).alloc _).alloc _).alloc _, ?_, ?_, ?_, h.fit.below b4, h'.fit.below b4, b4⟩
  · have := ((Blk.new (w.alloc (.cells (machC a m) 40)) 30 (entC ca e)).alloc (.cells #[.slice none 0 0, .slice none 0 0, .slice none 0 0, .slice none 0 0, .slice none 0 0] 40)).alloc (.cells #[.int .i64 0, .slice none 0 0, .int .i64 0] 65)
    rwa [World.size_alloc] at this
  · have := (Blk.new ((w.alloc (.cells (machC a m) 40)).alloc (.cells (entC ca e) 30)) 40 #[.slice none 0 0, .slice none 0 0, .slice none 0 0, .slice none 0 0, .slice none 0 0]).alloc (.cells #[.int .i64 0, .slice none 0 0, .int .i64 0] 65)
    rwa [World.size_alloc, World.size_alloc] at this
  · have := Blk.new (((w.alloc (.cells (machC a m) 40)).alloc (.cells (entC ca e) 30)).alloc (.cells #[.slice none 0 0, .slice none 0 0, .slice none 0 0, .slice none 0 0, .slice none 0 0] 40)) 65 #[.int .i64 0, .slice none 0 0, .int .i64 0]
    rwa [World.size_alloc, World.size_alloc, World.size_alloc] at this
/-- what a walk reads of them -/
theorem VarsM.cells {w wx : World} {b : Nat} {a : MA} {m : Mc} {ca : CA} {e : En} (h : VarsM w wx b a m ca e) :
    (wx.cell? ⟨b, 0, none⟩ = some (.slice a.o.A0 m.o.reg.length a.o.c0) ∧ wx.cell? ⟨b, 1, none⟩ = some (.slice a.o.A1 m.o.q.length a.o.c1) ∧ wx.cell? ⟨b, 2, none⟩ = some (.slice a.o.A2 m.o.lk.length a.o.c2) ∧ wx.cell? ⟨b, 3, none⟩ = some (.slice a.o.A3 m.o.mp.length a.o.c3) ∧ wx.cell? ⟨b, 4, none⟩ = some (.slice a.At m.t.length a.ct)) ∧
    (wx.cell? ⟨b + 1, 0, none⟩ = some (.int .i64 e.s) ∧ wx.cell? ⟨b + 1, 1, none⟩ = some (.int .i64 e.q) ∧ wx.cell? ⟨b + 1, 2, none⟩ = some (.int .i64 e.c.kind) ∧ wx.cell? ⟨b + 1, 3, none⟩ = some (.int .i64 e.c.who) ∧ wx.cell? ⟨b + 1, 4, none⟩ = some (.slice ca.Ak e.c.key.length ca.ck) ∧ wx.cell? ⟨b + 1, 5, none⟩ = some (.slice ca.Av e.c.val.length ca.cv) ∧ wx.cell? ⟨b + 1, 6, none⟩ = some (.slice ca.Ao e.c.old.length ca.co)) ∧
    (wx.frozen? ⟨b + 1 + 1, 0, none⟩ = false ∧ wx.frozen? ⟨b + 1 + 1, 1, none⟩ = false ∧ wx.frozen? ⟨b + 1 + 1, 2, none⟩ = false ∧ wx.frozen? ⟨b + 1 + 1, 3, none⟩ = false ∧ wx.frozen? ⟨b + 1 + 1, 4, none⟩ = false) ∧
    (wx.frozen? ⟨b + 1 + 1 + 1, 0, none⟩ = false ∧ wx.frozen? ⟨b + 1 + 1 + 1, 1, none⟩ = false ∧ wx.frozen? ⟨b + 1 + 1 + 1, 2, none⟩ = false) ∧
    (wx.cell? ⟨b + 1 + 1, 0, none⟩ = some (.slice none 0 0) ∧ wx.cell? ⟨b + 1 + 1, 1, none⟩ = some (.slice none 0 0) ∧ wx.cell? ⟨b + 1 + 1, 2, none⟩ = some (.slice none 0 0) ∧ wx.cell? ⟨b + 1 + 1, 3, none⟩ = some (.slice none 0 0) ∧ wx.cell? ⟨b + 1 + 1, 4, none⟩ = some (.slice none 0 0)) ∧
    (wx.cell? ⟨b + 1 + 1 + 1, 0, none⟩ = some (.int .i64 0) ∧ wx.cell? ⟨b + 1 + 1 + 1, 1, none⟩ = some (.slice none 0 0) ∧ wx.cell? ⟨b + 1 + 1 + 1, 2, none⟩ = some (.int .i64 0)) :=
  ⟨five (t := 40) h.v0, seven h.v1, five_frozen h.v2, ⟨h.v3.frozen 0, h.v3.frozen 1, h.v3.frozen 2⟩, five h.v2, ⟨h.v3.cell 0, h.v3.cell 1, h.v3.cell 2⟩⟩
/-- the two answers' variables are written -/
theorem VarsM.end_ {w wx : World} {b : Nat} {a : MA} {m : Mc} {ca : CA} {e : En} (h : VarsM w wx b a m ca e) (hw : w.heap.size ≤ b) {r : MAns} {a' : MA} {A : Option Addr} {c : Nat} (ho : OwnM w wx a' r.m) (hv : OwnB w wx A r.v.length c r.v)
    (x0 x1 x2 x3 x4 y0 y1 y2 : Value) (hx : #[x0, x1, x2, x3, x4] = machC a' r.m) (hy : #[y0, y1, y2] = #[.int .i64 r.e, .slice A r.v.length c, .int .i64 r.n]) {en : Ending} (he : en = .returned (.tuple #[.agg #[x0, x1, x2, x3, x4], .agg #[y0, y1, y2]])) :
    let wy := ((((((((wx.setCell ⟨b + 1 + 1, 0, none⟩ x0).setCell ⟨b + 1 + 1, 1, none⟩ x1).setCell ⟨b + 1 + 1, 2, none⟩ x2).setCell ⟨b + 1 + 1, 3, none⟩ x3).setCell ⟨b + 1 + 1, 4, none⟩ x4).setCell ⟨b + 1 + 1 + 1, 0, none⟩ y0).setCell ⟨b + 1 + 1 + 1, 1, none⟩ y1).setCell ⟨b + 1 + 1 + 1, 2, none⟩ y2)
    Blk wy (b + 1 + 1) 40 #[x0, x1, x2, x3, x4] ∧ Blk wy (b + 1 + 1 + 1) 65 #[y0, y1, y2] ∧ GotM w w r en wy := by
  intro wy
  obtain ⟨k1, k2, k3, k4, k5⟩ := put5 h.v2 x0 x1 x2 x3 x4
  have l0 := k5 (b + 1 + 1 + 1) _ _ (by omega) h.v3
  obtain ⟨l1, l2, l3⟩ := put3 l0 y0 y1 y2
  have q := k3 w a' r.m ho (by decide) (by decide) (by decide) (by decide) (by decide)
  have q2 := k4 _ _ _ _ _ _ hv (by decide)
  have hbel := l2 w (by omega) (k2 w (by omega) h.bel)
  refine ⟨((k1.set_other (by omega)).set_other (by omega)).set_other (by omega), l1, a', A, c, ?_, ?_, l3 _ _ _ _ _ _ q2 (by decide), hbel, hbel⟩
  · rw [he, hx, hy]; rfl
  · exact ((q.set_t l0 (by decide) (by decide) (by decide) (by decide) (by decide)).set_t (l0.set_ _ _) (by decide) (by decide) (by decide) (by decide) (by decide)).set_t ((l0.set_ _ _).set_ _ _) (by decide) (by decide) (by decide) (by decide) (by decide)
theorem VarsM.set {w wx : World} {b g i : Nat} {u : Value} {a : MA} {m : Mc} {ca : CA} {e : En} (h : VarsM w wx b a m ca e) (hw : w.heap.size ≤ b) (hg : b + 1 + 1 + 1 < g) : VarsM w (wx.setCell ⟨g, i, none⟩ u) b a m ca e :=
  have hb : Below w.heap.size wx (wx.setCell ⟨g, i, none⟩ u) := (Below.refl _ _).setCell (p := ⟨g, i, none⟩) (by show w.heap.size ≤ g; omega) u
  ⟨h.v0.set_other (by omega), h.v1.set_other (by omega), h.v2.set_other (by omega), h.v3.set_other (by omega), h.rm.below hb, h.rc.below hb, h.bel.trans hb⟩
/-- what a region reads, wherever its operations stand -/
def SM (b g h : Nat) (mc ec rc oc : Array Value) (w' : World) : Prop := Blk w' b 40 mc ∧ Blk w' (b + 1) 30 ec ∧ Blk w' g 65 rc ∧ Blk w' h 37 oc
theorem SM.below {b g h : Nat} {mc ec rc oc : Array Value} {w w' : World} (hs : SM b g h mc ec rc oc w) (hb : Below w.heap.size w w') : SM b g h mc ec rc oc w' := ⟨hs.1.below hb, hs.2.1.below hb, hs.2.2.1.below hb, hs.2.2.2.below hb⟩
theorem SM.set {b g h k i : Nat} {u : Value} {mc ec rc oc : Array Value} {w : World} (hs : SM b g h mc ec rc oc w) (h1 : b ≠ k) (h2 : b + 1 ≠ k) (h3 : g ≠ k) (h4 : h ≠ k) : SM b g h mc ec rc oc (w.setCell ⟨k, i, none⟩ u) := ⟨hs.1.set_other h1, hs.2.1.set_other h2, hs.2.2.1.set_other h3, hs.2.2.2.set_other h4⟩
theorem SM.set5 {b g h k : Nat} {u0 u1 u2 u3 u4 : Value} {mc ec rc oc : Array Value} {w : World} (hs : SM b g h mc ec rc oc w) (h1 : b ≠ k) (h2 : b + 1 ≠ k) (h3 : g ≠ k) (h4 : h ≠ k) : SM b g h mc ec rc oc (((((w.setCell ⟨k, 0, none⟩ u0).setCell ⟨k, 1, none⟩ u1).setCell ⟨k, 2, none⟩ u2).setCell ⟨k, 3, none⟩ u3).setCell ⟨k, 4, none⟩ u4) := ((((hs.set h1 h2 h3 h4).set h1 h2 h3 h4).set h1 h2 h3 h4).set h1 h2 h3 h4).set h1 h2 h3 h4
theorem SM.set3 {b g h k : Nat} {u0 u1 u2 : Value} {mc ec rc oc : Array Value} {w : World} (hs : SM b g h mc ec rc oc w) (h1 : b ≠ k) (h2 : b + 1 ≠ k) (h3 : g ≠ k) (h4 : h ≠ k) : SM b g h mc ec rc oc (((w.setCell ⟨k, 0, none⟩ u0).setCell ⟨k, 1, none⟩ u1).setCell ⟨k, 2, none⟩ u2) := ((hs.set h1 h2 h3 h4).set h1 h2 h3 h4).set h1 h2 h3 h4
end Go.Proofs.Ytaknfmionkkdjaa

namespace Go.Proofs.Ytaknfmionkkdjaa
open Go.RowKit
set_option linter.unusedVariables false
/-- objects of the call's own -/
def GotObj (W w : World) (s : Ob) (e : Ending) (w' : World) : Prop := ∃ a, e = .returned (objV a s) ∧ OwnO W w' a s ∧ Below W.heap.size W w' ∧ Below w.heap.size w w'
set_option maxHeartbeats 4000000 in
set_option maxRecDepth 100000 in
theorem copied8_raw {w : World} {a : OA} {s : Ob} {B : Nat} (hI : s.Inv) (h : RdO w B a s) : Calls Try.prog 44 #[objV a s] w (GotObj w w s) := by
  obtain ⟨A0, c0, A1, c1, A2, c2, A3, c3⟩ := a
  obtain ⟨g, hg⟩ : ∃ g, w.heap.size = g := ⟨_, rfl⟩
  obtain ⟨wz, hwz⟩ : ∃ wz, (w.alloc (.cells (objC ⟨A0, c0, A1, c1, A2, c2, A3, c3⟩ s) 37)).alloc (.cells #[.slice none 0 0, .slice none 0 0, .slice none 0 0, .slice none 0 0] 37) = wz := ⟨_, rfl⟩
  have hbz : Below w.heap.size w wz := by rw [← hwz]; exact ((Below.refl _ _).alloc (Nat.le_refl _) _).alloc (by simp) _
  have H := Lib.hid ((h.fit.below hbz).fit)
  have HI := Lib.hid hI
  have HBZ := Lib.hid hbz
  have HW := Lib.hid hwz
  have HG := Lib.hid hg
  have HV : Hid (Blk wz g 37 (objC ⟨A0, c0, A1, c1, A2, c2, A3, c3⟩ s) ∧ Blk wz (g + 1) 37 #[.slice none 0 0, .slice none 0 0, .slice none 0 0, .slice none 0 0]) := Lib.hid (by
    subst hg
    rw [← hwz]
    refine ⟨(Blk.new _ _ _).alloc _, ?_⟩
    have := Blk.new (w.alloc (.cells (objC ⟨A0, c0, A1, c1, A2, c2, A3, c3⟩ s) 37)) 37 #[.slice none 0 0, .slice none 0 0, .slice none 0 0, .slice none 0 0]
    rwa [World.size_alloc] at this)
  have hLr : Lim 0 s.reg.length := by have := hI.reg; unfold Lim; omega
  have hLqn : s.q.length ≤ 100000 := by have := hI.ql; omega
  have hLq : LimL s.q := fun l hl => by have := hI.qv l hl; unfold Lim; omega
  have hll : s.lk.length ≤ 100000 := by have := hI.lkl; omega
  have hLmn : s.mp.length ≤ 100000 := by have := hI.mp.few; omega
  have hLm : LimP s.mp := fun p hp => by have := hI.mp.len p hp; unfold Lim; exact ⟨by omega, by omega⟩
  have HLr := Lib.hid hLr
  have HLqn := Lib.hid hLqn
  have HLq := Lib.hid hLq
  have Hll := Lib.hid hll
  have HLmn := Lib.hid hLmn
  have HLm := Lib.hid hLm
  clear hbz h hI hwz hg hLr hLqn hLq hll hLmn hLm
  unfold objV
  simp only [objC] at HW ⊢
  go_enter Try.func44, Try.ntmps44
  go_upto_region 1 with fail
  rw [HG.out]
  rw [HW.out]
  refine region_T (n := 13) (S := fun w' => Below wz.heap.size wz w') (by kernel_rfl) ?_
  have hS0 : Below wz.heap.size wz wz.drew := (Below.refl _ _).drew
  generalize wz.drew = w4 at hS0 ⊢
  have hS := Lib.hid hS0
  clear hS0
  refine AnyT.take (i := 0) (v := .pointer (some ⟨g, 0, none⟩)) rfl (by kernel_rfl) (by kernel_rfl) (by kernel_rfl) (by kernel_rfl) (fun _ _ _ h => h) (Or.inl ⟨by kernel_rfl, fun w _ => by go_simp⟩) hS.out ?_
  refine AnyT.take (i := 3) (v := .pointer (some ⟨g, 1, none⟩)) rfl (by kernel_rfl) (by kernel_rfl) (by kernel_rfl) (by kernel_rfl) (fun _ _ _ h => h) (Or.inl ⟨by kernel_rfl, fun w _ => by go_simp⟩) hS.out ?_
  refine AnyT.take (i := 6) (v := .pointer (some ⟨g, 2, none⟩)) rfl (by kernel_rfl) (by kernel_rfl) (by kernel_rfl) (by kernel_rfl) (fun _ _ _ h => h) (Or.inl ⟨by kernel_rfl, fun w _ => by go_simp⟩) hS.out ?_
  refine AnyT.take (i := 9) (v := .pointer (some ⟨g, 3, none⟩)) rfl (by kernel_rfl) (by kernel_rfl) (by kernel_rfl) (by kernel_rfl) (fun _ _ _ h => h) (Or.inl ⟨by kernel_rfl, fun w _ => by go_simp⟩) hS.out ?_
  refine AnyT.take (i := 1) (v := .slice A0 s.reg.length c0) rfl (by kernel_rfl) (by kernel_rfl) (by kernel_rfl) (by kernel_rfl) (fun _ _ _ h => h) (Or.inl ⟨by kernel_rfl, fun w h => by have q := (Below.cell h (p := ⟨g, 0, none⟩) HV.out.1.lt).trans (HV.out.1.cell 0); simp only [objC] at q; go_simp⟩) hS.out ?_
  refine AnyT.take (i := 4) (v := .slice A1 s.q.length c1) rfl (by kernel_rfl) (by kernel_rfl) (by kernel_rfl) (by kernel_rfl) (fun _ _ _ h => h) (Or.inl ⟨by kernel_rfl, fun w h => by have q := (Below.cell h (p := ⟨g, 1, none⟩) HV.out.1.lt).trans (HV.out.1.cell 1); simp only [objC] at q; go_simp⟩) hS.out ?_
  refine AnyT.take (i := 7) (v := .slice A2 s.lk.length c2) rfl (by kernel_rfl) (by kernel_rfl) (by kernel_rfl) (by kernel_rfl) (fun _ _ _ h => h) (Or.inl ⟨by kernel_rfl, fun w h => by have q := (Below.cell h (p := ⟨g, 2, none⟩) HV.out.1.lt).trans (HV.out.1.cell 2); simp only [objC] at q; go_simp⟩) hS.out ?_
  refine AnyT.take (i := 10) (v := .slice A3 s.mp.length c3) rfl (by kernel_rfl) (by kernel_rfl) (by kernel_rfl) (by kernel_rfl) (fun _ _ _ h => h) (Or.inl ⟨by kernel_rfl, fun w h => by have q := (Below.cell h (p := ⟨g, 3, none⟩) HV.out.1.lt).trans (HV.out.1.cell 3); simp only [objC] at q; go_simp⟩) hS.out ?_
  refine AnyT.ready (rs := [2]) (by kernel_rfl) (by simp) ?_
  refine AllT.cons rfl (fun K hK => ?_) AllT.nil
  go_simp
  refine (clone_any (W := wz) (l := s.reg) HLr.out (H.out.r0.below hS.out) hS.out).mono ?_
  rintro e w5 ⟨A5, c5, rfl, ho5, hB5, hb5⟩
  have hS := Lib.hid (hS.out.trans (hb5.mono hS.out.size))
  go_simp
  refine hK.out _ _ (Or.inr (hS.out)) (fun _ => ?_)
  clear hK K
  refine AnyT.ready (rs := [5]) (by kernel_rfl) (by simp) ?_
  refine AllT.cons rfl (fun K hK => ?_) AllT.nil
  go_simp
  refine (eachQ_any (W := wz) (qs := s.q) HLqn.out HLq.out (H.out.r1.below hS.out) hS.out).mono ?_
  rintro e w6 ⟨A6, c6, rfl, ho6, hB6, hb6⟩
  have hS := Lib.hid (hS.out.trans (hb6.mono hS.out.size))
  have ho5 := own_below ho5 hb6
  go_simp
  refine hK.out _ _ (Or.inr (hS.out)) (fun _ => ?_)
  clear hK K
  refine AnyT.ready (rs := [8]) (by kernel_rfl) (by simp) ?_
  refine AllT.cons rfl (fun K hK => ?_) AllT.nil
  go_simp
  refine (cloneI_any (W := wz) (zs := s.lk) Hll.out (H.out.r2.below hS.out) hS.out).mono ?_
  rintro e w7 ⟨A7, c7, rfl, ho7, hB7, hb7⟩
  have hS := Lib.hid (hS.out.trans (hb7.mono hS.out.size))
  have ho5 := own_below ho5 hb7
  have ho6 := ho6.below hb7
  go_simp
  refine hK.out _ _ (Or.inr (hS.out)) (fun _ => ?_)
  clear hK K
  refine AnyT.ready (rs := [11]) (by kernel_rfl) (by simp) ?_
  refine AllT.cons rfl (fun K hK => ?_) AllT.nil
  go_simp
  refine (eachP_any (W := wz) (ps := s.mp) HLmn.out HLm.out (H.out.r3.below hS.out) hS.out).mono ?_
  rintro e w8 ⟨A8, c8, rfl, ho8, hB8, hb8⟩
  have hS := Lib.hid (hS.out.trans (hb8.mono hS.out.size))
  have ho5 := own_below ho5 hb8
  have ho6 := ho6.below hb8
  have ho7 := ownsRow_below ho7 hb8
  have HK := Lib.hid (HV.out.2.below hS.out)
  obtain ⟨x0, x1, x2, x3, f0, f1, f2, f3⟩ := four HK.out
  go_simp
  refine hK.out _ _ (Or.inr (hS.out)) (fun _ => ?_)
  clear hK K
  refine AnyT.take (i := 12) (v := .agg #[.slice A5 s.reg.length c5, .slice A6 s.q.length c6, .slice A7 s.lk.length c7, .slice A8 s.mp.length c8]) rfl (by kernel_rfl) (by kernel_rfl) (by kernel_rfl) (by kernel_rfl) (fun _ _ _ h => h) (Or.inl ⟨by kernel_rfl, fun w _ => by go_simp⟩) hS.out ?_
  refine AnyT.ready (rs := [13]) (by kernel_rfl) (by simp) ?_
  refine AllT.cons rfl (fun K hK => ?_) AllT.nil
  go_simp
  refine hK.out _ _ (Or.inl rfl) (fun _ => ?_)
  clear hK K
  refine AnyT.done (by kernel_rfl) ?_ _
  go_wp2_with fail
  have k1 := HK.out.set_ 0 (.slice A5 s.reg.length c5)
  have k2 := k1.set_ 1 (.slice A6 s.q.length c6)
  have k3 := k2.set_ 2 (.slice A7 s.lk.length c7)
  have k4 := k3.set_ 3 (.slice A8 s.mp.length c8)
  refine bodyPost_ret (results_cell_row rfl _ _ _ _ _ _ _ rfl k4 Try.underlying37 rfl (by kernel_rfl)) rfl ?_
  have q1 : 5 ≠ 37 := by decide
  have q2 : 26 ≠ 37 := by decide
  have q3 : 3 ≠ 37 := by decide
  have q4 : 109 ≠ 37 := by decide
  have ho : OwnO wz w8 ⟨A5, c5, A6, c6, A7, c7, A8, c8⟩ s := ⟨ho5, ho6, ho7, ho8⟩
  have hwb : w.heap.size ≤ g + 1 := by have := HG.out; omega
  have hw : Below w.heap.size w w8 := HBZ.out.trans (hS.out.mono HBZ.out.size)
  have h3 : Below w.heap.size w ((((w8.setCell ⟨g + 1, 0, none⟩ (.slice A5 s.reg.length c5)).setCell ⟨g + 1, 1, none⟩ (.slice A6 s.q.length c6)).setCell ⟨g + 1, 2, none⟩ (.slice A7 s.lk.length c7)).setCell ⟨g + 1, 3, none⟩ (.slice A8 s.mp.length c8)) := (((hw.setCell (p := ⟨g + 1, 0, none⟩) hwb _).setCell (p := ⟨g + 1, 1, none⟩) hwb _).setCell (p := ⟨g + 1, 2, none⟩) hwb _).setCell (p := ⟨g + 1, 3, none⟩) hwb _
  exact ⟨⟨A5, c5, A6, c6, A7, c7, A8, c8⟩, rfl, ((((ho.set_t HK.out q1 q2 q3 q4).set_t k1 q1 q2 q3 q4).set_t k2 q1 q2 q3 q4).set_t k3 q1 q2 q3 q4).of HBZ.out.size, h3, h3⟩
theorem copied8 {W w : World} {a : OA} {s : Ob} {B : Nat} (hI : s.Inv) (h : RdO w B a s) (hB : Below W.heap.size W w) : Calls Try.prog 44 #[objV a s] w (GotObj W w s) :=
  (copied8_raw hI h).mono fun e w' ⟨a, h1, h2, h3, h4⟩ => ⟨a, h1, h2.of hB.size, hB.trans (h3.mono hB.size), h4⟩
end Go.Proofs.Ytaknfmionkkdjaa

