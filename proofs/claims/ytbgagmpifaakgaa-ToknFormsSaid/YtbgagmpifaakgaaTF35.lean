/- TknAnew -/
import Derived.Test.YtbgagmpifaakgaaTF33
import Derived.Test.YtbgagmpifaakgaaTF34
namespace Go.Proofs.Ytbgagmpifaakgaa
open Go.RowKit
set_option linter.unusedVariables false
/-- cells put over a block's cells, from one on -/
def putL : Array Value → Nat → List Value → Array Value
  | cs, _, [] => cs
  | cs, o, v :: r => putL (cs.setIfInBounds o v) (o + 1) r
theorem Blk.cells {t : TypeId} {b : Nat} : ∀ (vs : List Value) (o : Nat) (w : World) (cs : Array Value), Blk w b t cs → Blk (w.setCells b o vs) b t (putL cs o vs)
  | [], o, w, cs, h => h
  | v :: r, o, w, cs, h => Blk.cells r (o + 1) _ _ (h.set_ o v)
theorem own_cells {t e : TypeId} {b base size n : Nat} {v : Value} {xs : List Value} (hne : e ≠ t) : ∀ (vs : List Value) (o : Nat) (w : World) (cs : Array Value), Blk w b t cs → w.ownsRow base e size v n xs → (w.setCells b o vs).ownsRow base e size v n xs
  | [], o, w, cs, h, ho => ho
  | u :: r, o, w, cs, h, ho => own_cells hne r (o + 1) _ _ (h.set_ o u) (own_set_t ho h hne)
theorem below_cells {B b : Nat} {a : World} (hb : B ≤ b) : ∀ (vs : List Value) (o : Nat) (w : World), Below B a w → Below B a (w.setCells b o vs)
  | [], o, w, h => h
  | v :: r, o, w, h => below_cells hb r (o + 1) _ (h.setCell hb _)
theorem blk_cells_other {t : TypeId} {b g : Nat} {cs : Array Value} (hne : g ≠ b) : ∀ (vs : List Value) (o : Nat) (w : World), Blk w g t cs → Blk (w.setCells b o vs) g t cs
  | [], o, w, h => h
  | v :: r, o, w, h => blk_cells_other hne r (o + 1) _ ((Below.heap_setCell w ⟨b, o, none⟩ v g hne).trans h)
theorem there_of_blk {w : World} {b o n : Nat} {t : TypeId} {cs : Array Value} (h : Blk w b t cs) (hn : o + n ≤ cs.size) : w.there b o n := fun j hj => by
  refine ⟨?_, h.frozen _⟩
  rw [h.cell]
  simp; omega
theorem blk_put24 {w : World} {b : Nat} {t : TypeId} {v0 v1 v2 v3 v4 v5 v6 v7 v8 v9 v10 v11 v12 v13 v14 v15 v16 v17 v18 v19 v20 v21 v22 v23 u0 u1 u2 u3 u4 u5 u6 : Value} (h : Blk w b t #[v0, v1, v2, v3, v4, v5, v6, v7, v8, v9, v10, v11, v12, v13, v14, v15, v16, v17, v18, v19, v20, v21, v22, v23]) : Blk (w.setCells b 17 #[u0, u1, u2, u3, u4, u5, u6].toList) b t #[v0, v1, v2, v3, v4, v5, v6, v7, v8, v9, v10, v11, v12, v13, v14, v15, v16, u0, u1, u2, u3, u4, u5, u6] := by
  have := Blk.cells #[u0, u1, u2, u3, u4, u5, u6].toList 17 _ _ h
  simpa [putL] using this
/-- a message of the call's own -/
def GotMs (W w : World) (m : Mg) (e : Ending) (w' : World) : Prop := ∃ a, e = .returned (msgV a m) ∧ OwnG W w' a m ∧ Below W.heap.size W w' ∧ Below w.heap.size w w'
set_option maxHeartbeats 2000000 in
set_option maxRecDepth 100000 in
theorem anewMsg17 (w : World) {a : GA} {m : Mg} {B : Nat} (hf : m.ent.c.Fits) (hd : m.data.length ≤ 2000000) (hl : m.hav.length ≤ 100000) (hl2 : m.nee.length ≤ 100000) (hr : RdG w B a m) : Calls Try.prog 15 #[msgV a m] w (GotMs w w m) := by
  obtain ⟨g, hg⟩ : ∃ g, w.heap.size = g := ⟨_, rfl⟩
  obtain ⟨wz, hwz⟩ : ∃ wz, (w.alloc (.cells (msgC a m) 29)).alloc (.cells msgZ 29) = wz := ⟨_, rfl⟩
  have hbz : Below w.heap.size w wz := by rw [← hwz]; exact ((Below.refl _ _).alloc (Nat.le_refl _) _).alloc (by simp) _
  have hbk : Blk wz g 29 (msgC a m) ∧ Blk wz (g + 1) 29 msgZ := by
    subst hg
    rw [← hwz]
    refine ⟨(Blk.new _ _ _).alloc _, ?_⟩
    have := Blk.new (w.alloc (.cells (msgC a m) 29)) 29 msgZ
    rwa [World.size_alloc] at this
  have HR := Lib.hid hr.fit
  have HF := Lib.hid hf
  have HBZ := Lib.hid hbz
  have HWZ := Lib.hid hwz
  have HG := Lib.hid hg
  have HK := Lib.hid hbk.1
  have HZ := Lib.hid hbk.2
  have HL := Lib.hid (And.intro hd (And.intro hl hl2))
  unfold msgC msgZ at HWZ
  unfold msgC at HK
  clear hr hf hbz hwz hg hbk hd hl hl2
  unfold msgV msgC
  go_enter Try.func15, Try.ntmps15
  go_upto_region 1 with fail
  rw [HG.out, HWZ.out]
  clear HWZ
  -- field
  have c31 := HK.out.cell 11
  simp at c31
  go_wp2_with fail
  refine (clone_any (W := w) (l := m.data) (show Lim 0 m.data.length by have := HL.out.1; unfold Lim; omega) (HR.out.d.below HBZ.out) HBZ.out).mono ?_
  rintro e x1 ⟨A1, c1, rfl, ho1, hB1, hb1⟩
  have HO1 := Lib.hid ho1
  have HKx := Lib.hid (HK.out.below hb1)
  have HZx := Lib.hid (HZ.out.below hb1)
  have HBx := Lib.hid hB1
  clear ho1 hB1 hb1 c31 HK HZ HBZ
  have d51 := HKx.out.cell 11
  simp at d51
  have f51 := HKx.out.frozen 11
  go_upto_region 2 with fail
  obtain ⟨w1, hw1⟩ : ∃ y, x1.setCell ⟨g, 11, none⟩ (.slice A1 m.data.length c1) = y := ⟨_, rfl⟩
  rw [hw1]
  have HK : Hid (Blk w1 g 29 #[.int .i64 m.kind, .int .i64 m.frm, .int .i64 m.dst, .int .i64 m.view, .int .i64 m.inst, .int .i64 m.len, .bool m.has, .int .i64 m.mem, .int .i64 m.src, .int .i64 m.pos, .int .i64 m.tot, .slice A1 m.data.length c1, .int .i64 m.hop, .int .i64 m.seq, .slice a.Ah m.hav.length a.ch, .slice a.An m.nee.length a.cn, .int .i64 m.idx, .int .i64 m.ent.s, .int .i64 m.ent.q, .int .i64 m.ent.c.kind, .int .i64 m.ent.c.who, .slice a.c.Ak m.ent.c.key.length a.c.ck, .slice a.c.Av m.ent.c.val.length a.c.cv, .slice a.c.Ao m.ent.c.old.length a.c.co]) := Lib.hid (by rw [← hw1]; exact HKx.out.set_ 11 _)
  have HZ : Hid (Blk w1 (g + 1) 29 msgZ) := Lib.hid (by rw [← hw1]; exact (Below.heap_setCell _ ⟨g, 11, none⟩ _ (g + 1) (by simp)).trans HZx.out)
  have HBZ : Hid (Below w.heap.size w w1) := Lib.hid (by rw [← hw1]; exact HBx.out.setCell (by show w.heap.size ≤ g; have := HG.out; omega) _)
  have HO1 := Lib.hid (show w1.ownsRow w.heap.size _ 1 _ _ _ from by rw [← hw1]; exact own_set_t HO1.out HKx.out (by decide))
  clear hw1 d51 f51 HKx HZx HBx
  -- field
  have c32 := HK.out.cell 14
  simp at c32
  go_wp2_with fail
  refine (cloneI_any (W := w) (zs := m.hav) HL.out.2.1 (HR.out.h.below HBZ.out) HBZ.out).mono ?_
  rintro e x2 ⟨A2, c2, rfl, ho2, hB2, hb2⟩
  have HO2 := Lib.hid ho2
  have HKx := Lib.hid (HK.out.below hb2)
  have HZx := Lib.hid (HZ.out.below hb2)
  have HBx := Lib.hid hB2
  have HO1 := Lib.hid (ownsRow_below HO1.out hb2)
  clear ho2 hB2 hb2 c32 HK HZ HBZ
  have d52 := HKx.out.cell 14
  simp at d52
  have f52 := HKx.out.frozen 14
  go_upto_region 3 with fail
  obtain ⟨w2, hw2⟩ : ∃ y, x2.setCell ⟨g, 14, none⟩ (.slice A2 m.hav.length c2) = y := ⟨_, rfl⟩
  rw [hw2]
  have HK : Hid (Blk w2 g 29 #[.int .i64 m.kind, .int .i64 m.frm, .int .i64 m.dst, .int .i64 m.view, .int .i64 m.inst, .int .i64 m.len, .bool m.has, .int .i64 m.mem, .int .i64 m.src, .int .i64 m.pos, .int .i64 m.tot, .slice A1 m.data.length c1, .int .i64 m.hop, .int .i64 m.seq, .slice A2 m.hav.length c2, .slice a.An m.nee.length a.cn, .int .i64 m.idx, .int .i64 m.ent.s, .int .i64 m.ent.q, .int .i64 m.ent.c.kind, .int .i64 m.ent.c.who, .slice a.c.Ak m.ent.c.key.length a.c.ck, .slice a.c.Av m.ent.c.val.length a.c.cv, .slice a.c.Ao m.ent.c.old.length a.c.co]) := Lib.hid (by rw [← hw2]; exact HKx.out.set_ 14 _)
  have HZ : Hid (Blk w2 (g + 1) 29 msgZ) := Lib.hid (by rw [← hw2]; exact (Below.heap_setCell _ ⟨g, 14, none⟩ _ (g + 1) (by simp)).trans HZx.out)
  have HBZ : Hid (Below w.heap.size w w2) := Lib.hid (by rw [← hw2]; exact HBx.out.setCell (by show w.heap.size ≤ g; have := HG.out; omega) _)
  have HO1 := Lib.hid (show w2.ownsRow w.heap.size _ 1 _ _ _ from by rw [← hw2]; exact own_set_t HO1.out HKx.out (by decide))
  have HO2 := Lib.hid (show w2.ownsRow w.heap.size _ 1 _ _ _ from by rw [← hw2]; exact own_set_t HO2.out HKx.out (by decide))
  clear hw2 d52 f52 HKx HZx HBx
  -- field
  have c33 := HK.out.cell 15
  simp at c33
  go_wp2_with fail
  refine (cloneI_any (W := w) (zs := m.nee) HL.out.2.2 (HR.out.n.below HBZ.out) HBZ.out).mono ?_
  rintro e x3 ⟨A3, c3, rfl, ho3, hB3, hb3⟩
  have HO3 := Lib.hid ho3
  have HKx := Lib.hid (HK.out.below hb3)
  have HZx := Lib.hid (HZ.out.below hb3)
  have HBx := Lib.hid hB3
  have HO1 := Lib.hid (ownsRow_below HO1.out hb3)
  have HO2 := Lib.hid (ownsRow_below HO2.out hb3)
  clear ho3 hB3 hb3 c33 HK HZ HBZ
  have d53 := HKx.out.cell 15
  simp at d53
  have f53 := HKx.out.frozen 15
  go_upto_region 4 with fail
  obtain ⟨w3, hw3⟩ : ∃ y, x3.setCell ⟨g, 15, none⟩ (.slice A3 m.nee.length c3) = y := ⟨_, rfl⟩
  rw [hw3]
  have HK : Hid (Blk w3 g 29 #[.int .i64 m.kind, .int .i64 m.frm, .int .i64 m.dst, .int .i64 m.view, .int .i64 m.inst, .int .i64 m.len, .bool m.has, .int .i64 m.mem, .int .i64 m.src, .int .i64 m.pos, .int .i64 m.tot, .slice A1 m.data.length c1, .int .i64 m.hop, .int .i64 m.seq, .slice A2 m.hav.length c2, .slice A3 m.nee.length c3, .int .i64 m.idx, .int .i64 m.ent.s, .int .i64 m.ent.q, .int .i64 m.ent.c.kind, .int .i64 m.ent.c.who, .slice a.c.Ak m.ent.c.key.length a.c.ck, .slice a.c.Av m.ent.c.val.length a.c.cv, .slice a.c.Ao m.ent.c.old.length a.c.co]) := Lib.hid (by rw [← hw3]; exact HKx.out.set_ 15 _)
  have HZ : Hid (Blk w3 (g + 1) 29 msgZ) := Lib.hid (by rw [← hw3]; exact (Below.heap_setCell _ ⟨g, 15, none⟩ _ (g + 1) (by simp)).trans HZx.out)
  have HBZ : Hid (Below w.heap.size w w3) := Lib.hid (by rw [← hw3]; exact HBx.out.setCell (by show w.heap.size ≤ g; have := HG.out; omega) _)
  have HO1 := Lib.hid (show w3.ownsRow w.heap.size _ 1 _ _ _ from by rw [← hw3]; exact own_set_t HO1.out HKx.out (by decide))
  have HO2 := Lib.hid (show w3.ownsRow w.heap.size _ 1 _ _ _ from by rw [← hw3]; exact own_set_t HO2.out HKx.out (by decide))
  have HO3 := Lib.hid (show w3.ownsRow w.heap.size _ 1 _ _ _ from by rw [← hw3]; exact own_set_t HO3.out HKx.out (by decide))
  clear hw3 d53 f53 HKx HZx HBx
  have hrange := World.rangeAt_of_block HK.out 17 7
  go_wp2_with (first
    | (refine wpList_load_mid rfl 27 (.tmp 15) rfl g 17 rfl [.int .i64 m.ent.s, .int .i64 m.ent.q, .int .i64 m.ent.c.kind, .int .i64 m.ent.c.who, .slice a.c.Ak m.ent.c.key.length a.c.ck, .slice a.c.Av m.ent.c.val.length a.c.cv, .slice a.c.Ao m.ent.c.old.length a.c.co] _ hrange Try.underlying27 rfl (by kernel_rfl) ?_)
    | (go_at_call 25; refine (entA_any (W := w) (ca := a.c) (e := m.ent) HF.out (HR.out.c.below HBZ.out) HBZ.out).mono ?_; rintro e x4 ⟨ca, rfl, ho4, hB4, hb4⟩
       unfold entC
       have HO4 := Lib.hid ho4
       have HKx := Lib.hid (HK.out.below hb4)
       have HZx := Lib.hid (HZ.out.below hb4)
       have HBx := Lib.hid hB4
       have HO1 := Lib.hid (ownsRow_below HO1.out hb4)
       have HO2 := Lib.hid (ownsRow_below HO2.out hb4)
       have HO3 := Lib.hid (ownsRow_below HO3.out hb4)
       clear ho4 hB4 hb4 HK HZ HBZ hrange)
    | (refine wpList_store_mid rfl 27 (.tmp 18) (.tmp 17) rfl g 17 #[.int .i64 m.ent.s, .int .i64 m.ent.q, .int .i64 m.ent.c.kind, .int .i64 m.ent.c.who, .slice ca.Ak m.ent.c.key.length ca.ck, .slice ca.Av m.ent.c.val.length ca.cv, .slice ca.Ao m.ent.c.old.length ca.co] rfl rfl (there_of_blk HKx.out (by show (24 : Nat) ≤ 24; exact Nat.le_refl _)) (by kernel_rfl) (by kernel_rfl) ?_
       obtain ⟨w4, hw4⟩ : ∃ y, x4.setCells g 17 (#[.int .i64 m.ent.s, .int .i64 m.ent.q, .int .i64 m.ent.c.kind, .int .i64 m.ent.c.who, .slice ca.Ak m.ent.c.key.length ca.ck, .slice ca.Av m.ent.c.val.length ca.cv, .slice ca.Ao m.ent.c.old.length ca.co]).toList = y := ⟨_, rfl⟩
       rw [hw4]
       have HK : Hid (Blk w4 g 29 #[.int .i64 m.kind, .int .i64 m.frm, .int .i64 m.dst, .int .i64 m.view, .int .i64 m.inst, .int .i64 m.len, .bool m.has, .int .i64 m.mem, .int .i64 m.src, .int .i64 m.pos, .int .i64 m.tot, .slice A1 m.data.length c1, .int .i64 m.hop, .int .i64 m.seq, .slice A2 m.hav.length c2, .slice A3 m.nee.length c3, .int .i64 m.idx, .int .i64 m.ent.s, .int .i64 m.ent.q, .int .i64 m.ent.c.kind, .int .i64 m.ent.c.who, .slice ca.Ak m.ent.c.key.length ca.ck, .slice ca.Av m.ent.c.val.length ca.cv, .slice ca.Ao m.ent.c.old.length ca.co]) := Lib.hid (by rw [← hw4]; exact blk_put24 HKx.out)
       have HZ : Hid (Blk w4 (g + 1) 29 msgZ) := Lib.hid (by rw [← hw4]; exact blk_cells_other (by omega) _ 17 _ HZx.out)
       have HBZ : Hid (Below w.heap.size w w4) := Lib.hid (by rw [← hw4]; exact below_cells (by have := HG.out; omega) _ 17 _ HBx.out)
       have HO1 := Lib.hid (show w4.ownsRow w.heap.size _ 1 _ _ _ from by rw [← hw4]; exact own_cells (by decide) _ 17 _ _ HKx.out HO1.out)
       have HO2 := Lib.hid (show w4.ownsRow w.heap.size _ 1 _ _ _ from by rw [← hw4]; exact own_cells (by decide) _ 17 _ _ HKx.out HO2.out)
       have HO3 := Lib.hid (show w4.ownsRow w.heap.size _ 1 _ _ _ from by rw [← hw4]; exact own_cells (by decide) _ 17 _ _ HKx.out HO3.out)
       have HO4 : Hid (OwnC w w4 ca m.ent.c) := Lib.hid (by rw [← hw4]; exact ⟨own_cells (by decide) _ 17 _ _ HKx.out HO4.out.k, own_cells (by decide) _ 17 _ _ HKx.out HO4.out.v, own_cells (by decide) _ 17 _ _ HKx.out HO4.out.o⟩)
       clear hw4 HKx HZx HBx)
    | (refine wpList_load_row rfl 29 (.tmp 1) rfl g rfl 29 #[.int .i64 m.kind, .int .i64 m.frm, .int .i64 m.dst, .int .i64 m.view, .int .i64 m.inst, .int .i64 m.len, .bool m.has, .int .i64 m.mem, .int .i64 m.src, .int .i64 m.pos, .int .i64 m.tot, .slice A1 m.data.length c1, .int .i64 m.hop, .int .i64 m.seq, .slice A2 m.hav.length c2, .slice A3 m.nee.length c3, .int .i64 m.idx, .int .i64 m.ent.s, .int .i64 m.ent.q, .int .i64 m.ent.c.kind, .int .i64 m.ent.c.who, .slice ca.Ak m.ent.c.key.length ca.ck, .slice ca.Av m.ent.c.val.length ca.cv, .slice ca.Ao m.ent.c.old.length ca.co] (0, 0) _ HK.out Try.underlying29 rfl (by kernel_rfl) ?_)
    | (refine wpList_store_row rfl 29 (.tmp 2) (.tmp 19) rfl (g + 1) #[.int .i64 m.kind, .int .i64 m.frm, .int .i64 m.dst, .int .i64 m.view, .int .i64 m.inst, .int .i64 m.len, .bool m.has, .int .i64 m.mem, .int .i64 m.src, .int .i64 m.pos, .int .i64 m.tot, .slice A1 m.data.length c1, .int .i64 m.hop, .int .i64 m.seq, .slice A2 m.hav.length c2, .slice A3 m.nee.length c3, .int .i64 m.idx, .int .i64 m.ent.s, .int .i64 m.ent.q, .int .i64 m.ent.c.kind, .int .i64 m.ent.c.who, .slice ca.Ak m.ent.c.key.length ca.ck, .slice ca.Av m.ent.c.val.length ca.cv, .slice ca.Ao m.ent.c.old.length ca.co] rfl rfl 29 msgZ HZ.out (by kernel_rfl) rfl (by kernel_rfl) ?_)
    | fail)
  refine bodyPost_ret (results_cell_row rfl _ _ _ _ _ _ _ rfl (Blk.row HZ.out #[.int .i64 m.kind, .int .i64 m.frm, .int .i64 m.dst, .int .i64 m.view, .int .i64 m.inst, .int .i64 m.len, .bool m.has, .int .i64 m.mem, .int .i64 m.src, .int .i64 m.pos, .int .i64 m.tot, .slice A1 m.data.length c1, .int .i64 m.hop, .int .i64 m.seq, .slice A2 m.hav.length c2, .slice A3 m.nee.length c3, .int .i64 m.idx, .int .i64 m.ent.s, .int .i64 m.ent.q, .int .i64 m.ent.c.kind, .int .i64 m.ent.c.who, .slice ca.Ak m.ent.c.key.length ca.ck, .slice ca.Av m.ent.c.val.length ca.cv, .slice ca.Ao m.ent.c.old.length ca.co]) Try.underlying29 rfl (by kernel_rfl)) rfl ?_
  have h3 := below_setRow HBZ.out (show w.heap.size ≤ g + 1 by have := HG.out; omega) #[.int .i64 m.kind, .int .i64 m.frm, .int .i64 m.dst, .int .i64 m.view, .int .i64 m.inst, .int .i64 m.len, .bool m.has, .int .i64 m.mem, .int .i64 m.src, .int .i64 m.pos, .int .i64 m.tot, .slice A1 m.data.length c1, .int .i64 m.hop, .int .i64 m.seq, .slice A2 m.hav.length c2, .slice A3 m.nee.length c3, .int .i64 m.idx, .int .i64 m.ent.s, .int .i64 m.ent.q, .int .i64 m.ent.c.kind, .int .i64 m.ent.c.who, .slice ca.Ak m.ent.c.key.length ca.ck, .slice ca.Av m.ent.c.val.length ca.cv, .slice ca.Ao m.ent.c.old.length ca.co]
  exact ⟨⟨A1, c1, A2, c2, A3, c3, ca⟩, rfl, ⟨own_row_t HO1.out HZ.out (by decide), own_row_t HO2.out HZ.out (by decide), own_row_t HO3.out HZ.out (by decide), ⟨own_row_t HO4.out.k HZ.out (by decide), own_row_t HO4.out.v HZ.out (by decide), own_row_t HO4.out.o HZ.out (by decide)⟩⟩, h3, h3⟩
end Go.Proofs.Ytbgagmpifaakgaa

