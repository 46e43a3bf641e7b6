/- TknPass -/
import Derived.Test.YtbgagmpifaakgaaTF28
import Derived.Test.YtbgagmpifaakgaaTF38
import Derived.Deep.CutBlock
import Derived.Deep.DeepCutAuto
namespace Go.Proofs.Ytbgagmpifaakgaa
open Go.RowKit
set_option linter.unusedVariables false
/-- Pass under way: the box, the result, the variable, what it holds of the call's own -/
structure PaSt (w wx : World) (g h : Nat) (a : GA) (m : Mg) (cs : Array Value) (a1 : GA) (L : List Int) : Prop where
  box : Blk wx g 29 (msgC a m)
  res : Blk wx (g + 1) 29 msgZ
  var : Blk wx h 29 cs
  gw : w.heap.size = g
  gh : g + 1 < h
  bel : Below w.heap.size w wx
  od : OwnB w wx a1.Ad m.data.length a1.cd m.data
  oh : OwnI w wx a1.Ah L.length a1.ch L
  oc : OwnC w wx a1.c m.ent.c
theorem PaSt.below {w wx wy : World} {g h : Nat} {a a1 : GA} {m : Mg} {cs : Array Value} {L : List Int} (s : PaSt w wx g h a m cs a1 L) (hb : Below wx.heap.size wx wy) : PaSt w wy g h a m cs a1 L :=
  ⟨s.box.below hb, s.res.below hb, s.var.below hb, s.gw, s.gh, s.bel.trans (hb.mono s.bel.size), own_below s.od hb, ownsRow_below s.oh hb, s.oc.below hb⟩
theorem PaSt.set {w wx : World} {g h : Nat} {a a1 : GA} {m : Mg} {cs cs' : Array Value} {L : List Int} (s : PaSt w wx g h a m cs a1 L) (i : Nat) (u : Value) (hc : cs.setIfInBounds i u = cs') : PaSt w (wx.setCell ⟨h, i, none⟩ u) g h a m cs' a1 L := by
  have h1 := s.gh
  subst hc
  exact ⟨(Below.heap_setCell wx ⟨h, i, none⟩ u g (by show g ≠ h; omega)).trans s.box, (Below.heap_setCell wx ⟨h, i, none⟩ u (g + 1) (by show g + 1 ≠ h; omega)).trans s.res, s.var.set_ i u, s.gw, s.gh,
    s.bel.setCell (by show w.heap.size ≤ h; have := s.gw; omega) _, own_set_t s.od s.var (by decide), own_set_t s.oh s.var (by decide), ⟨own_set_t s.oc.k s.var (by decide), own_set_t s.oc.v s.var (by decide), own_set_t s.oc.o s.var (by decide)⟩⟩
theorem PaSt.cellh {w wx : World} {g h : Nat} {a a1 : GA} {m : Mg} {cs : Array Value} {L : List Int} (s : PaSt w wx g h a m cs a1 L) (i : Nat) : wx.cell? ⟨h, i, none⟩ = cs[i]? ∧ wx.frozen? ⟨h, i, none⟩ = false := ⟨s.var.cell i, s.var.frozen i⟩
/-- a row of it is written in place -/
theorem PaSt.put {w wx : World} {g h q k : Nat} {a a1 : GA} {m : Mg} {cs : Array Value} {L : List Int} (s : PaSt w wx g h a m cs a1 L) (hA : a1.Ah = some ⟨q, 0, none⟩) (z : Int) : PaSt w (wx.setCell ⟨q, k, none⟩ (.int .i64 z)) g h a m cs a1 (L.set k z) := by
  have ho := s.oh
  rw [hA] at ho
  rcases own_blk ho with ⟨h1, _⟩ | ⟨q', cur, h1, h2, h3⟩
  · cases h1
  · injection h1 with h1; injection h1 with h1 _ _; subst h1
    have hne : ∀ {b : Nat} {cs' : Array Value}, Blk wx b 29 cs' → Blk (wx.setCell ⟨q, k, none⟩ (.int .i64 z)) b 29 cs' := fun {b cs'} hb => (Below.heap_setCell wx ⟨q, k, none⟩ _ b (hb.apart h3 (by decide))).trans hb
    refine ⟨hne s.box, hne s.res, hne s.var, s.gw, s.gh, s.bel.setCell h2 _, own_set_t s.od h3 (by decide), ?_, ⟨own_set_t s.oc.k h3 (by decide), own_set_t s.oc.v h3 (by decide), own_set_t s.oc.o h3 (by decide)⟩⟩
    rw [List.length_set, hA]
    exact ownI_set ho k z
theorem range_msg {w : World} {g : Nat} {a : GA} {m : Mg} (h : Blk w g 29 (msgC a m)) : w.rangeAt g 0 [.int .i64 m.kind, .int .i64 m.frm, .int .i64 m.dst, .int .i64 m.view, .int .i64 m.inst, .int .i64 m.len, .bool m.has, .int .i64 m.mem, .int .i64 m.src, .int .i64 m.pos, .int .i64 m.tot, .slice a.Ad m.data.length a.cd, .int .i64 m.hop, .int .i64 m.seq, .slice a.Ah m.hav.length a.ch, .slice a.An m.nee.length a.cn, .int .i64 m.idx, .int .i64 m.ent.s, .int .i64 m.ent.q, .int .i64 m.ent.c.kind, .int .i64 m.ent.c.who, .slice a.c.Ak m.ent.c.key.length a.c.ck, .slice a.c.Av m.ent.c.val.length a.c.cv, .slice a.c.Ao m.ent.c.old.length a.c.co] := by
  have := World.rangeAt_of_block h 0 24
  simpa [msgC] using this
/-- handed on, and what is sent again -/
def GotP (W w : World) (m : Mg) (l : List Int) (e : Ending) (w' : World) : Prop := ∃ a A c, e = .returned (.tuple #[msgV a m, .slice A l.length c]) ∧ OwnG W w' a m ∧ OwnI W w' A l.length c l ∧ Below W.heap.size W w' ∧ Below w.heap.size w w'
set_option maxHeartbeats 4000000 in
set_option maxRecDepth 100000 in
theorem pass17 (w : World) {a : GA} {m : Mg} {B B2 B3 : Nat} (me p nx whole fresh : Int) {A6 A7 : Option Addr} {n6 c6 n7 c7 : Nat} {has mis : List Int}
    (hf : m.ent.c.Fits) (hd : m.data.length ≤ 2000000) (hl : m.hav.length ≤ 1000) (hl2 : m.nee.length ≤ 1000) (hr : RdG w B a m) (h6 : Rd w B2 A6 n6 (iv has)) (h7 : Rd w B3 A7 n7 (iv mis)) (hn6 : n6 ≤ 12) (hn7 : n7 ≤ 1000)
    (hs1 : -1000000 ≤ m.seq ∧ m.seq ≤ 1000000) (hs2 : -1000000 ≤ Tk.safe m.hav ∧ Tk.safe m.hav ≤ 1000000) (hh : -1000000 ≤ m.hop ∧ m.hop ≤ 1000000) (hp : p < 1000000) {M : Mg} (hM : Tk.pass m me p nx whole fresh has mis = M) {I : List Int} (hI : Tk.inn m.nee has = I) :
    Calls Try.prog 7 #[msgV a m, .int .i64 me, .int .i64 p, .int .i64 nx, .int .i64 whole, .int .i64 fresh, .slice A6 n6 c6, .slice A7 n7 c7] w (GotP w w M I) := by
  obtain ⟨g, hg⟩ : ∃ g, w.heap.size = g := ⟨_, rfl⟩
  obtain ⟨wz, hwz⟩ : ∃ wz, (w.alloc (.cells (msgC a m) 29)).alloc (.cells msgZ 29) = wz := ⟨_, rfl⟩
  have hbz : Below w.heap.size w wz := by rw [← hwz]; exact ((Below.refl _ _).alloc (Nat.le_refl _) _).alloc (by simp) _
  have hbk : Blk wz g 29 (msgC a m) ∧ Blk wz (g + 1) 29 msgZ := by
    subst hg
    rw [← hwz]
    refine ⟨(Blk.new _ _ _).alloc _, ?_⟩
    have := Blk.new (w.alloc (.cells (msgC a m) 29)) 29 msgZ
    rwa [World.size_alloc] at this
  have hsz : wz.heap.size = g + 2 := by rw [← hwz, ← hg]; simp
  have CA := Lib.hid (anewMsg17 wz hf hd (by omega) (by omega) (hr.fit.below hbz))
  have HR := Lib.hid hr.fit
  have H6 := Lib.hid h6.fit
  have H7 := Lib.hid h7.fit
  have HBZ := Lib.hid hbz
  have HWZ := Lib.hid hwz
  have HG := Lib.hid hg
  have HK := Lib.hid hbk
  have HSZ := Lib.hid hsz
  have HLL := Lib.hid (And.intro hl hl2)
  obtain ⟨sf, hsf⟩ : ∃ s, Tk.safe m.hav = s := ⟨_, rfl⟩
  obtain ⟨rm, hrm⟩ : ∃ r, Tk.room m.seq sf = r := ⟨_, rfl⟩
  obtain ⟨hd', hhd⟩ : ∃ r, Tk.held fresh 0 rm = r := ⟨_, rfl⟩
  obtain ⟨sq, hsq⟩ : ∃ r, m.seq + hd' = r := ⟨_, rfl⟩
  have HSF := Lib.hid hsf
  have HRM := Lib.hid hrm
  have HHD := Lib.hid hhd
  have HS1 := Lib.hid hs1
  have HS2 := Lib.hid hs2
  have hwh : IntKind.i64.wrap (m.hop + 1) = m.hop + 1 := IntWalk.i64_in _ (by omega)
  have hrm4 : 0 ≤ rm ∧ rm ≤ 4 := by rw [← hrm]; unfold Tk.room; split <;> omega
  have hhd4 : 0 ≤ hd' ∧ hd' ≤ 4 := by rw [← hhd]; unfold Tk.held; omega
  have hws : IntKind.i64.wrap sq = sq := IntWalk.i64_in _ (by omega)
  have HE : Hid ({ m with frm := me, dst := nx, hop := m.hop + 1, seq := sq, hav := Tk.hav m.hav p whole, nee := Tk.need (Tk.out m.nee has) mis (Tk.safe (Tk.hav m.hav p whole)) } = M) := Lib.hid (by rw [← hM, ← hsq, ← hhd, ← hrm, ← hsf]; rfl)
  have HI := Lib.hid hI
  unfold msgC msgZ at HWZ
  unfold msgC at HK CA
  unfold msgV at CA
  clear hr h6 h7 hbz hwz hg hbk hf hd hsz hM hI hsf hrm hhd hl hl2 hs1 hs2 hh hrm4
  unfold msgV msgC
  go_enter Try.func7, Try.ntmps7
  go_upto_region 1 with fail
  rw [HG.out, HWZ.out]
  clear HWZ
  go_upto_region 2 with (first
    | (refine wpList_load_row rfl 29 (.tmp 8) rfl g rfl 29 #[.int .i64 m.kind, .int .i64 m.frm, .int .i64 m.dst, .int .i64 m.view, .int .i64 m.inst, .int .i64 m.len, .bool m.has, .int .i64 m.mem, .int .i64 m.src, .int .i64 m.pos, .int .i64 m.tot, .slice a.Ad m.data.length a.cd, .int .i64 m.hop, .int .i64 m.seq, .slice a.Ah m.hav.length a.ch, .slice a.An m.nee.length a.cn, .int .i64 m.idx, .int .i64 m.ent.s, .int .i64 m.ent.q, .int .i64 m.ent.c.kind, .int .i64 m.ent.c.who, .slice a.c.Ak m.ent.c.key.length a.c.ck, .slice a.c.Av m.ent.c.val.length a.c.cv, .slice a.c.Ao m.ent.c.old.length a.c.co] (0, 0) _ HK.out.1 Try.underlying29 rfl (by kernel_rfl) ?_)
    | (go_at_call 15; refine CA.out.mono ?_; rintro e x1 ⟨a1, rfl, ho1, hB1, hb1⟩; unfold msgV msgC; have HO1 := Lib.hid ho1; have HB1 := Lib.hid hb1; clear ho1 hB1 hb1 CA)
    | (refine wpList_store_row rfl 29 (.tmp 18) (.tmp 22) rfl x1.heap.size #[.int .i64 m.kind, .int .i64 m.frm, .int .i64 m.dst, .int .i64 m.view, .int .i64 m.inst, .int .i64 m.len, .bool m.has, .int .i64 m.mem, .int .i64 m.src, .int .i64 m.pos, .int .i64 m.tot, .slice a1.Ad m.data.length a1.cd, .int .i64 m.hop, .int .i64 m.seq, .slice a1.Ah m.hav.length a1.ch, .slice a1.An m.nee.length a1.cn, .int .i64 m.idx, .int .i64 m.ent.s, .int .i64 m.ent.q, .int .i64 m.ent.c.kind, .int .i64 m.ent.c.who, .slice a1.c.Ak m.ent.c.key.length a1.c.ck, .slice a1.c.Av m.ent.c.val.length a1.c.cv, .slice a1.c.Ao m.ent.c.old.length a1.c.co] rfl rfl 29 #[.int .i64 0, .int .i64 0, .int .i64 0, .int .i64 0, .int .i64 0, .int .i64 0, .bool false, .int .i64 0, .int .i64 0, .int .i64 0, .int .i64 0, .slice none 0 0, .int .i64 0, .int .i64 0, .slice none 0 0, .slice none 0 0, .int .i64 0, .int .i64 0, .int .i64 0, .int .i64 0, .int .i64 0, .slice none 0 0, .slice none 0 0, .slice none 0 0] (Blk.new x1 29 #[.int .i64 0, .int .i64 0, .int .i64 0, .int .i64 0, .int .i64 0, .int .i64 0, .bool false, .int .i64 0, .int .i64 0, .int .i64 0, .int .i64 0, .slice none 0 0, .int .i64 0, .int .i64 0, .slice none 0 0, .slice none 0 0, .int .i64 0, .int .i64 0, .int .i64 0, .int .i64 0, .int .i64 0, .slice none 0 0, .slice none 0 0, .slice none 0 0]) (by kernel_rfl) rfl (by kernel_rfl) ?_)
    | fail)
  obtain ⟨h, w1, hgE, hwE, hbE, hkE⟩ := boxed x1 #[.int .i64 0, .int .i64 0, .int .i64 0, .int .i64 0, .int .i64 0, .int .i64 0, .bool false, .int .i64 0, .int .i64 0, .int .i64 0, .int .i64 0, .slice none 0 0, .int .i64 0, .int .i64 0, .slice none 0 0, .slice none 0 0, .int .i64 0, .int .i64 0, .int .i64 0, .int .i64 0, .int .i64 0, .slice none 0 0, .slice none 0 0, .slice none 0 0] #[.int .i64 m.kind, .int .i64 m.frm, .int .i64 m.dst, .int .i64 m.view, .int .i64 m.inst, .int .i64 m.len, .bool m.has, .int .i64 m.mem, .int .i64 m.src, .int .i64 m.pos, .int .i64 m.tot, .slice a1.Ad m.data.length a1.cd, .int .i64 m.hop, .int .i64 m.seq, .slice a1.Ah m.hav.length a1.ch, .slice a1.An m.nee.length a1.cn, .int .i64 m.idx, .int .i64 m.ent.s, .int .i64 m.ent.q, .int .i64 m.ent.c.kind, .int .i64 m.ent.c.who, .slice a1.c.Ak m.ent.c.key.length a1.c.ck, .slice a1.c.Av m.ent.c.val.length a1.c.cv, .slice a1.c.Ao m.ent.c.old.length a1.c.co] 29
  rw [hgE, hwE]
  have HS : Hid (PaSt w w1 g h a m #[.int .i64 m.kind, .int .i64 m.frm, .int .i64 m.dst, .int .i64 m.view, .int .i64 m.inst, .int .i64 m.len, .bool m.has, .int .i64 m.mem, .int .i64 m.src, .int .i64 m.pos, .int .i64 m.tot, .slice a1.Ad m.data.length a1.cd, .int .i64 m.hop, .int .i64 m.seq, .slice a1.Ah m.hav.length a1.ch, .slice a1.An m.nee.length a1.cn, .int .i64 m.idx, .int .i64 m.ent.s, .int .i64 m.ent.q, .int .i64 m.ent.c.kind, .int .i64 m.ent.c.who, .slice a1.c.Ak m.ent.c.key.length a1.c.ck, .slice a1.c.Av m.ent.c.val.length a1.c.cv, .slice a1.c.Ao m.ent.c.old.length a1.c.co] a1 m.hav) := Lib.hid (by
    have hx : g + 2 ≤ x1.heap.size := by have := HB1.out.size; have := HSZ.out; omega
    have hb := HB1.out
    have ho := HO1.out.of HBZ.out.size
    exact ⟨(HK.out.1.below hb).below hbE, (HK.out.2.below hb).below hbE, hkE, HG.out, by omega, (HBZ.out.trans (hb.mono HBZ.out.size)).trans (hbE.mono ((HBZ.out.trans (hb.mono HBZ.out.size)).size)), own_below ho.d hbE, ownsRow_below ho.h hbE, ho.c.below hbE⟩)
  clear hgE hwE hbE hkE HO1 HB1 HK
  -- From, To
  obtain ⟨c1, f1⟩ := HS.out.cellh 1
  obtain ⟨c2, f2⟩ := HS.out.cellh 2
  simp at c1 c2
  go_upto_region 3 with fail
  obtain ⟨w2, hw2⟩ : ∃ y, (w1.setCell ⟨h, 1, none⟩ (.int .i64 me)).setCell ⟨h, 2, none⟩ (.int .i64 nx) = y := ⟨_, rfl⟩
  rw [hw2]
  have HS : Hid (PaSt w w2 g h a m #[.int .i64 m.kind, .int .i64 me, .int .i64 nx, .int .i64 m.view, .int .i64 m.inst, .int .i64 m.len, .bool m.has, .int .i64 m.mem, .int .i64 m.src, .int .i64 m.pos, .int .i64 m.tot, .slice a1.Ad m.data.length a1.cd, .int .i64 m.hop, .int .i64 m.seq, .slice a1.Ah m.hav.length a1.ch, .slice a1.An m.nee.length a1.cn, .int .i64 m.idx, .int .i64 m.ent.s, .int .i64 m.ent.q, .int .i64 m.ent.c.kind, .int .i64 m.ent.c.who, .slice a1.c.Ak m.ent.c.key.length a1.c.ck, .slice a1.c.Av m.ent.c.val.length a1.c.cv, .slice a1.c.Ao m.ent.c.old.length a1.c.co] a1 m.hav) := Lib.hid (by rw [← hw2]; exact (HS.out.set 1 _ rfl).set 2 _ rfl)
  clear hw2 c1 f1 c2 f2
  -- Hop
  obtain ⟨c1, f1⟩ := HS.out.cellh 12
  simp at c1
  go_upto_region 4 with fail
  obtain ⟨w3, hw3⟩ : ∃ y, w2.setCell ⟨h, 12, none⟩ (.int .i64 (m.hop + 1)) = y := ⟨_, rfl⟩
  rw [hw3]
  have HS : Hid (PaSt w w3 g h a m #[.int .i64 m.kind, .int .i64 me, .int .i64 nx, .int .i64 m.view, .int .i64 m.inst, .int .i64 m.len, .bool m.has, .int .i64 m.mem, .int .i64 m.src, .int .i64 m.pos, .int .i64 m.tot, .slice a1.Ad m.data.length a1.cd, .int .i64 (m.hop + 1), .int .i64 m.seq, .slice a1.Ah m.hav.length a1.ch, .slice a1.An m.nee.length a1.cn, .int .i64 m.idx, .int .i64 m.ent.s, .int .i64 m.ent.q, .int .i64 m.ent.c.kind, .int .i64 m.ent.c.who, .slice a1.c.Ak m.ent.c.key.length a1.c.ck, .slice a1.c.Av m.ent.c.val.length a1.c.cv, .slice a1.c.Ao m.ent.c.old.length a1.c.co] a1 m.hav) := Lib.hid (by rw [← hw3]; exact HS.out.set 12 _ rfl)
  clear hw3 c1 f1
  -- Seq
  refine region_T (n := 8) (S := fun w' => Below w3.heap.size w3 w') (by kernel_rfl) ?_
  have hS0 : Below w3.heap.size w3 w3.drew := (Below.refl _ _).drew
  generalize w3.drew = w4 at hS0 ⊢
  have hS := Lib.hid hS0
  clear hS0
  refine AnyT.takeP [6, 1, 0] (i := 0) (v := .pointer (some ⟨h, 13, none⟩)) rfl (by kernel_rfl) (by kernel_rfl) (by kernel_rfl) (by kernel_rfl) (by kernel_rfl) (by kernel_rfl) (fun _ _ _ h => h) (Or.inl ⟨by kernel_rfl, fun w _ => by go_simp⟩) hS.out ?_
  refine AnyT.takeP [5, 2] (i := 2) (v := .int .i64 fresh) rfl (by kernel_rfl) (by kernel_rfl) (by kernel_rfl) (by kernel_rfl) (by kernel_rfl) (by kernel_rfl) (fun _ _ _ h => h) (Or.inl ⟨by kernel_rfl, fun w _ => by go_simp⟩) hS.out ?_
  refine AnyT.takeP [6, 1] (i := 1) (v := .int .i64 m.seq) rfl (by kernel_rfl) (by kernel_rfl) (by kernel_rfl) (by kernel_rfl) (by kernel_rfl) (by kernel_rfl) (fun _ _ _ h => h) (Or.inl ⟨by kernel_rfl, fun wq hq => by have q := (Below.cell hq (p := ⟨h, 13, none⟩) HS.out.var.lt).trans (HS.out.cellh 13).1; simp at q; go_simp⟩) hS.out ?_
  refine AnyT.takeP [5, 4, 3] (i := 3) (v := .agg #[.int .i64 m.kind, .int .i64 m.frm, .int .i64 m.dst, .int .i64 m.view, .int .i64 m.inst, .int .i64 m.len, .bool m.has, .int .i64 m.mem, .int .i64 m.src, .int .i64 m.pos, .int .i64 m.tot, .slice a.Ad m.data.length a.cd, .int .i64 m.hop, .int .i64 m.seq, .slice a.Ah m.hav.length a.ch, .slice a.An m.nee.length a.cn, .int .i64 m.idx, .int .i64 m.ent.s, .int .i64 m.ent.q, .int .i64 m.ent.c.kind, .int .i64 m.ent.c.who, .slice a.c.Ak m.ent.c.key.length a.c.ck, .slice a.c.Av m.ent.c.val.length a.c.cv, .slice a.c.Ao m.ent.c.old.length a.c.co]) rfl (by kernel_rfl) (by kernel_rfl) (by kernel_rfl) (by kernel_rfl) (by kernel_rfl) (by kernel_rfl) (fun _ _ _ h => h) (yieldsIf_load_mid (by kernel_rfl) 29 (.tmp 8) rfl g 0 (by kernel_rfl) [.int .i64 m.kind, .int .i64 m.frm, .int .i64 m.dst, .int .i64 m.view, .int .i64 m.inst, .int .i64 m.len, .bool m.has, .int .i64 m.mem, .int .i64 m.src, .int .i64 m.pos, .int .i64 m.tot, .slice a.Ad m.data.length a.cd, .int .i64 m.hop, .int .i64 m.seq, .slice a.Ah m.hav.length a.ch, .slice a.An m.nee.length a.cn, .int .i64 m.idx, .int .i64 m.ent.s, .int .i64 m.ent.q, .int .i64 m.ent.c.kind, .int .i64 m.ent.c.who, .slice a.c.Ak m.ent.c.key.length a.c.ck, .slice a.c.Av m.ent.c.val.length a.c.cv, .slice a.c.Ao m.ent.c.old.length a.c.co] _ (fun wq hq => range_msg (HS.out.box.below hq)) Try.underlying29 rfl (by kernel_rfl)) hS.out ?_
  refine AnyT.ready (rs := [4]) (by kernel_rfl) (by simp) ?_
  refine AllT.cons rfl (fun K hK => ?_) AllT.nil
  go_simp
  refine (room17 (a := a) (m := m) w4 (r := rm) (by rw [HSF.out]; exact HRM.out) ((HR.out.h.below HS.out.bel).fit.below hS.out) (by have := HLL.out; omega) (by have := HS1.out; omega) (by have := HS2.out; omega)).mono ?_
  rintro e w5 ⟨rfl, hb5⟩
  have hS := Lib.hid (hS.out.trans (hb5.mono hS.out.size))
  clear hb5
  go_simp
  refine hK.out _ _ (Or.inr hS.out) (fun _ => ?_)
  clear hK K
  refine AnyT.ready (rs := [5]) (by kernel_rfl) (by simp) ?_
  refine AllT.cons rfl (fun K hK => ?_) AllT.nil
  go_simp
  refine (held17 w5 fresh 0 rm).mono ?_
  rintro e w6 ⟨rfl, hw6⟩
  rw [hw6, HHD.out]
  clear hw6
  go_simp
  refine hK.out _ _ (Or.inr hS.out) (fun _ => ?_)
  clear hK K
  refine AnyT.ready (rs := [6]) (by kernel_rfl) (by simp) ?_
  refine AllT.cons rfl (fun K hK => ?_) AllT.nil
  go_simp
  refine hK.out _ _ (Or.inr hS.out) (fun _ => ?_)
  clear hK K
  refine AnyT.take (i := 7) (v := .pointer (some ⟨h, 13, none⟩)) rfl (by kernel_rfl) (by kernel_rfl) (by kernel_rfl) (by kernel_rfl) (fun _ _ _ h => h) (Or.inl ⟨by kernel_rfl, fun w _ => by go_simp⟩) hS.out ?_
  refine AnyT.ready (rs := [8]) (by kernel_rfl) (by simp) ?_
  refine AllT.cons rfl (fun K hK => ?_) AllT.nil
  have HS5 := Lib.hid (HS.out.below hS.out)
  obtain ⟨c1, f1⟩ := HS5.out.cellh 13
  simp at c1
  go_simp
  refine hK.out _ _ (Or.inl rfl) (fun _ => ?_)
  clear hK K
  refine AnyT.done (by kernel_rfl) ?_ _
  obtain ⟨w7, hw7⟩ : ∃ y, w5.setCell ⟨h, 13, none⟩ (.int .i64 sq) = y := ⟨_, rfl⟩
  rw [hw7]
  have HS7 : Hid (PaSt w w7 g h a m #[.int .i64 m.kind, .int .i64 me, .int .i64 nx, .int .i64 m.view, .int .i64 m.inst, .int .i64 m.len, .bool m.has, .int .i64 m.mem, .int .i64 m.src, .int .i64 m.pos, .int .i64 m.tot, .slice a1.Ad m.data.length a1.cd, .int .i64 (m.hop + 1), .int .i64 sq, .slice a1.Ah m.hav.length a1.ch, .slice a1.An m.nee.length a1.cn, .int .i64 m.idx, .int .i64 m.ent.s, .int .i64 m.ent.q, .int .i64 m.ent.c.kind, .int .i64 m.ent.c.who, .slice a1.c.Ak m.ent.c.key.length a1.c.ck, .slice a1.c.Av m.ent.c.val.length a1.c.cv, .slice a1.c.Ao m.ent.c.old.length a1.c.co] a1 m.hav) := Lib.hid (by rw [← hw7]; exact HS5.out.set 13 _ rfl)
  clear hw7 c1 f1 HS5 HS hS
  go_simp
  -- Have
  obtain ⟨bb, hbb⟩ : ∃ b : Bool, decide (0 ≤ p ∧ p < (m.hav.length : Int)) = b := ⟨_, rfl⟩
  have HBB := Lib.hid hbb
  clear hbb
  go_upto_region 5 with fail
  go_cut [47] from 39 to 46 (fun s47 wx => s47 = .bool bb ∧ wx = w7)
  case first =>
    obtain ⟨c1, f1⟩ := HS7.out.cellh 14
    simp at c1
    rcases Int.lt_or_le p 0 with hp0 | hp0
    · have e : bb = false := by rw [← HBB.out]; exact decide_eq_false (by omega)
      subst e
      have hd : decide (0 ≤ p) = false := decide_eq_false (by omega)
      go_wp2_with fail
      go_meet
      exact ⟨rfl, rfl⟩
    · have hd : decide (0 ≤ p) = true := decide_eq_true hp0
      by_cases hp1 : p < (m.hav.length : Int)
      · have e : bb = true := by rw [← HBB.out]; exact decide_eq_true ⟨hp0, hp1⟩
        subst e
        go_wp2_with fail
        go_meet
        exact ⟨rfl, rfl⟩
      · have e : bb = false := by rw [← HBB.out]; exact decide_eq_false (by omega)
        subst e
        go_wp2_with fail
        go_meet
        exact ⟨rfl, rfl⟩
  rename_i hcut
  obtain ⟨rfl, hwx⟩ := hcut
  rename World => wy
  subst hwx
  go_upto_if 47 with fail
  go_cut [] from 48 to 52 (fun wx => Hid (PaSt w wx g h a m #[.int .i64 m.kind, .int .i64 me, .int .i64 nx, .int .i64 m.view, .int .i64 m.inst, .int .i64 m.len, .bool m.has, .int .i64 m.mem, .int .i64 m.src, .int .i64 m.pos, .int .i64 m.tot, .slice a1.Ad m.data.length a1.cd, .int .i64 (m.hop + 1), .int .i64 sq, .slice a1.Ah m.hav.length a1.ch, .slice a1.An m.nee.length a1.cn, .int .i64 m.idx, .int .i64 m.ent.s, .int .i64 m.ent.q, .int .i64 m.ent.c.kind, .int .i64 m.ent.c.who, .slice a1.c.Ak m.ent.c.key.length a1.c.ck, .slice a1.c.Av m.ent.c.val.length a1.c.cv, .slice a1.c.Ao m.ent.c.old.length a1.c.co] a1 (Tk.hav m.hav p whole)))
  case first =>
    cases bb with
    | true =>
      have hb := of_decide_eq_true HBB.out
      obtain ⟨j, rfl⟩ : ∃ j : Nat, p = (j : Int) := ⟨p.toNat, by omega⟩
      have hj : j < m.hav.length := by omega
      obtain ⟨q, hA, hq1, hq2⟩ := own_addr HS7.out.oh (by omega)
      obtain ⟨z, hz⟩ : ∃ z, m.hav[j]? = some z := ⟨_, List.getElem?_eq_getElem hj⟩
      have hov := HS7.out.oh
      rw [hA] at hov
      obtain ⟨c2, f2⟩ := ownI_cell hov hz
      obtain ⟨c1, f1⟩ := HS7.out.cellh 14
      simp at c1
      rw [hA] at c1
      have HJ : Hid (Tk.hav m.hav (j : Int) whole = m.hav.set j whole) := Lib.hid (by unfold Tk.hav; rw [if_pos hb]; rfl)
      have HP := Lib.hid (HS7.out.put (k := j) hA whole)
      have hw8 : IntKind.i64.wrap (j : Int) = (j : Int) := IntWalk.i64_in _ (by omega)
      clear hz hov hb hA
      go_wp2_with fail
      go_meet
      rw [HJ.out]
      exact HP
    | false =>
      have HJ : Hid (Tk.hav m.hav p whole = m.hav) := Lib.hid (by unfold Tk.hav; rw [if_neg (of_decide_eq_false HBB.out)])
      go_wp2_with fail
      go_meet
      rw [HJ.out]
      exact HS7
  rename_i hcut
  have HS := hcut
  clear hcut HS7 HBB
  have hLL : m.hav.length = (Tk.hav m.hav p whole).length := (Tk.hav_len _ _ _).symm
  obtain ⟨L, hL⟩ : ∃ L, Tk.hav m.hav p whole = L := ⟨_, rfl⟩
  rw [hL] at HS hLL HE
  rw [hLL] at HS
  have hLn : L.length ≤ 1000 := by have := HLL.out; omega
  clear hLL hL
  rename_i wa
  -- Need: what is parted
  have c1 := HS.out.box.cell 15
  simp [msgC] at c1
  have HNEE := Lib.hid ((HR.out.n.below HS.out.bel).fit)
  have HHAS := Lib.hid ((H6.out.below HS.out.bel).fit)
  go_wp2_with fail
  refine (parted17 HNEE.out HHAS.out HLL.out.2 hn6).mono ?_
  rintro e w8 ⟨Ai, ci, Ao, co, rfl, hr8, hB8, hb8⟩
  have HS8 := Lib.hid (HS.out.below hb8)
  have HI8 : Hid (OwnI w w8 Ai (Tk.inn m.nee has).length ci (Tk.inn m.nee has)) := Lib.hid (own_of HS.out.bel.size hr8.a)
  have HO8 : Hid (Rd w8 w8.heap.size Ao (Tk.out m.nee has).length (iv (Tk.out m.nee has))) := Lib.hid (Rd.own_ hr8.b)
  have HOL : Hid ((Tk.out m.nee has).length ≤ 1000) := Lib.hid (Nat.le_trans (Tk.out_len _ _) HLL.out.2)
  rw [HI.out] at HI8 ⊢
  obtain ⟨O, hO⟩ : ∃ O, Tk.out m.nee has = O := ⟨_, rfl⟩
  rw [hO] at HO8 HOL HE ⊢
  clear hr8 hB8 hb8 c1 HNEE HHAS HS HI hO
  -- what is safe then
  obtain ⟨s2, hs2⟩ : ∃ s, Tk.safe L = s := ⟨_, rfl⟩
  rw [hs2] at HE
  have CS : Hid (Calls Try.prog 8 #[.agg #[.int .i64 m.kind, .int .i64 me, .int .i64 nx, .int .i64 m.view, .int .i64 m.inst, .int .i64 m.len, .bool m.has, .int .i64 m.mem, .int .i64 m.src, .int .i64 m.pos, .int .i64 m.tot, .slice a1.Ad m.data.length a1.cd, .int .i64 (m.hop + 1), .int .i64 sq, .slice a1.Ah L.length a1.ch, .slice a1.An m.nee.length a1.cn, .int .i64 m.idx, .int .i64 m.ent.s, .int .i64 m.ent.q, .int .i64 m.ent.c.kind, .int .i64 m.ent.c.who, .slice a1.c.Ak m.ent.c.key.length a1.c.ck, .slice a1.c.Av m.ent.c.val.length a1.c.cv, .slice a1.c.Ao m.ent.c.old.length a1.c.co]] w8 fun e w' => e = .returned (.int .i64 s2) ∧ Below w8.heap.size w8 w') := Lib.hid (safe17 (a := a1) (m := { m with frm := me, dst := nx, hop := m.hop + 1, seq := sq, hav := L }) w8 hs2 (Rd.own_ HS8.out.oh) (show L.length ≤ 100000 by omega))
  obtain ⟨R, hR⟩ : ∃ R, Tk.need O mis s2 = R := ⟨_, rfl⟩
  rw [hR] at HE
  have HRR := Lib.hid hR
  clear hs2 hR
  go_wp2_with (first
    | (refine wpList_load_row rfl 29 (.tmp 18) rfl h rfl 29 #[.int .i64 m.kind, .int .i64 me, .int .i64 nx, .int .i64 m.view, .int .i64 m.inst, .int .i64 m.len, .bool m.has, .int .i64 m.mem, .int .i64 m.src, .int .i64 m.pos, .int .i64 m.tot, .slice a1.Ad m.data.length a1.cd, .int .i64 (m.hop + 1), .int .i64 sq, .slice a1.Ah L.length a1.ch, .slice a1.An m.nee.length a1.cn, .int .i64 m.idx, .int .i64 m.ent.s, .int .i64 m.ent.q, .int .i64 m.ent.c.kind, .int .i64 m.ent.c.who, .slice a1.c.Ak m.ent.c.key.length a1.c.ck, .slice a1.c.Av m.ent.c.val.length a1.c.cv, .slice a1.c.Ao m.ent.c.old.length a1.c.co] (0, 0) _ HS8.out.var Try.underlying29 rfl (by kernel_rfl) ?_)
    | fail)
  refine CS.out.mono ?_
  rintro e w9 ⟨rfl, hb9⟩
  have HS9 := Lib.hid (HS8.out.below hb9)
  have HI9 := Lib.hid (ownsRow_below HI8.out hb9)
  have HO9 := Lib.hid (HO8.out.below hb9)
  have H79 := Lib.hid ((H7.out.below HS9.out.bel).fit)
  clear hb9 HS8 HI8 HO8 CS
  go_wp2_with fail
  refine (needed17 s2 HRR.out HO9.out H79.out HOL.out hn7).mono ?_
  rintro e w10 ⟨A9, c9, rfl, ho10, hB10, hb10⟩
  have HSx := Lib.hid (HS9.out.below hb10)
  have HIx := Lib.hid (ownsRow_below HI9.out hb10)
  have HNx := Lib.hid (own_of HS9.out.bel.size ho10)
  clear ho10 hB10 hb10 HS9 HI9 HO9 H79
  obtain ⟨c1, f1⟩ := HSx.out.cellh 15
  simp at c1
  go_upto_region 9 with fail
  obtain ⟨wb, hwb⟩ : ∃ y, w10.setCell ⟨h, 15, none⟩ (.slice A9 R.length c9) = y := ⟨_, rfl⟩
  rw [hwb]
  have HS : Hid (PaSt w wb g h a m #[.int .i64 m.kind, .int .i64 me, .int .i64 nx, .int .i64 m.view, .int .i64 m.inst, .int .i64 m.len, .bool m.has, .int .i64 m.mem, .int .i64 m.src, .int .i64 m.pos, .int .i64 m.tot, .slice a1.Ad m.data.length a1.cd, .int .i64 (m.hop + 1), .int .i64 sq, .slice a1.Ah L.length a1.ch, .slice A9 R.length c9, .int .i64 m.idx, .int .i64 m.ent.s, .int .i64 m.ent.q, .int .i64 m.ent.c.kind, .int .i64 m.ent.c.who, .slice a1.c.Ak m.ent.c.key.length a1.c.ck, .slice a1.c.Av m.ent.c.val.length a1.c.cv, .slice a1.c.Ao m.ent.c.old.length a1.c.co] a1 L) := Lib.hid (by rw [← hwb]; exact HSx.out.set 15 _ rfl)
  have HIy : Hid (OwnI w wb Ai I.length ci I) := Lib.hid (by rw [← hwb]; exact own_set_t HIx.out HSx.out.var (by decide))
  have HNy : Hid (OwnI w wb A9 R.length c9 R) := Lib.hid (by rw [← hwb]; exact own_set_t HNx.out HSx.out.var (by decide))
  clear hwb c1 f1 HSx HIx HNx
  go_wp2_with (first
    | (refine wpList_load_row rfl 29 (.tmp 18) rfl h rfl 29 #[.int .i64 m.kind, .int .i64 me, .int .i64 nx, .int .i64 m.view, .int .i64 m.inst, .int .i64 m.len, .bool m.has, .int .i64 m.mem, .int .i64 m.src, .int .i64 m.pos, .int .i64 m.tot, .slice a1.Ad m.data.length a1.cd, .int .i64 (m.hop + 1), .int .i64 sq, .slice a1.Ah L.length a1.ch, .slice A9 R.length c9, .int .i64 m.idx, .int .i64 m.ent.s, .int .i64 m.ent.q, .int .i64 m.ent.c.kind, .int .i64 m.ent.c.who, .slice a1.c.Ak m.ent.c.key.length a1.c.ck, .slice a1.c.Av m.ent.c.val.length a1.c.cv, .slice a1.c.Ao m.ent.c.old.length a1.c.co] (0, 0) _ HS.out.var Try.underlying29 rfl (by kernel_rfl) ?_)
    | (refine wpList_store_row rfl 29 (.tmp 16) (.tmp 66) rfl (g + 1) #[.int .i64 m.kind, .int .i64 me, .int .i64 nx, .int .i64 m.view, .int .i64 m.inst, .int .i64 m.len, .bool m.has, .int .i64 m.mem, .int .i64 m.src, .int .i64 m.pos, .int .i64 m.tot, .slice a1.Ad m.data.length a1.cd, .int .i64 (m.hop + 1), .int .i64 sq, .slice a1.Ah L.length a1.ch, .slice A9 R.length c9, .int .i64 m.idx, .int .i64 m.ent.s, .int .i64 m.ent.q, .int .i64 m.ent.c.kind, .int .i64 m.ent.c.who, .slice a1.c.Ak m.ent.c.key.length a1.c.ck, .slice a1.c.Av m.ent.c.val.length a1.c.cv, .slice a1.c.Ao m.ent.c.old.length a1.c.co] rfl rfl 29 msgZ HS.out.res (by kernel_rfl) rfl (by kernel_rfl) ?_)
    | fail)
  refine bodyPost_ret (results_cell_tmp rfl _ _ _ _ _ _ rfl (HS.out.res.row #[.int .i64 m.kind, .int .i64 me, .int .i64 nx, .int .i64 m.view, .int .i64 m.inst, .int .i64 m.len, .bool m.has, .int .i64 m.mem, .int .i64 m.src, .int .i64 m.pos, .int .i64 m.tot, .slice a1.Ad m.data.length a1.cd, .int .i64 (m.hop + 1), .int .i64 sq, .slice a1.Ah L.length a1.ch, .slice A9 R.length c9, .int .i64 m.idx, .int .i64 m.ent.s, .int .i64 m.ent.q, .int .i64 m.ent.c.kind, .int .i64 m.ent.c.who, .slice a1.c.Ak m.ent.c.key.length a1.c.ck, .slice a1.c.Av m.ent.c.val.length a1.c.cv, .slice a1.c.Ao m.ent.c.old.length a1.c.co]) Try.underlying29 rfl (by kernel_rfl)) rfl ?_
  have h3 := below_setRow HS.out.bel (show w.heap.size ≤ g + 1 by have := HG.out; omega) #[.int .i64 m.kind, .int .i64 me, .int .i64 nx, .int .i64 m.view, .int .i64 m.inst, .int .i64 m.len, .bool m.has, .int .i64 m.mem, .int .i64 m.src, .int .i64 m.pos, .int .i64 m.tot, .slice a1.Ad m.data.length a1.cd, .int .i64 (m.hop + 1), .int .i64 sq, .slice a1.Ah L.length a1.ch, .slice A9 R.length c9, .int .i64 m.idx, .int .i64 m.ent.s, .int .i64 m.ent.q, .int .i64 m.ent.c.kind, .int .i64 m.ent.c.who, .slice a1.c.Ak m.ent.c.key.length a1.c.ck, .slice a1.c.Av m.ent.c.val.length a1.c.cv, .slice a1.c.Ao m.ent.c.old.length a1.c.co]
  rw [← HE.out]
  exact ⟨{ a1 with An := A9, cn := c9 }, Ai, ci, rfl, ⟨own_row_t HS.out.od HS.out.res (by decide), own_row_t HS.out.oh HS.out.res (by decide), own_row_t HNy.out HS.out.res (by decide), ⟨own_row_t HS.out.oc.k HS.out.res (by decide), own_row_t HS.out.oc.v HS.out.res (by decide), own_row_t HS.out.oc.o HS.out.res (by decide)⟩⟩, own_row_t HIy.out HS.out.res (by decide), h3, h3⟩
end Go.Proofs.Ytbgagmpifaakgaa

