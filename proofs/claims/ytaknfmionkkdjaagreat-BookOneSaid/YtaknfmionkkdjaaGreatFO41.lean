/- BookAnew MachAnew -/
import Derived.Test.YtaknfmionkkdjaaGreatFO05
import Derived.Test.YtaknfmionkkdjaaGreatFO13
import Derived.Test.YtaknfmionkkdjaaGreatFO20
import Derived.Test.YtaknfmionkkdjaaGreatFO34
import Derived.Test.YtaknfmionkkdjaaGreatFO37
import Derived.Test.YtaknfmionkkdjaaGreatFO38
import Derived.Test.YtaknfmionkkdjaaGreatFO40
import Derived.Deep.MidRow
import Derived.Deep.RegionWith
import Derived.OwnWalk
import Derived.WalkLawsBesides
import Derived.WalkSpells
namespace Go.Proofs.YtaknfmionkkdjaaGreat
open Go.RowKit
set_option linter.unusedVariables false
theorem RdC.fit9 {w : World} {B : Nat} {a : CA} {c : Cm} (h : RdC w B a c) : RdC w w.heap.size a c := ⟨h.rk.fit, h.rv.fit, h.ro.fit⟩
/-- a command of the call's own -/
def GotCm (W w : World) (k : Cm) (en : Ending) (w' : World) : Prop := ∃ ca : CA, en = .returned (.agg #[.int .i64 k.kind, .int .i64 k.who, .slice ca.Ak k.key.length ca.ck, .slice ca.Av k.val.length ca.cv, .slice ca.Ao k.old.length ca.co]) ∧ OwnC W w' ca k ∧ Below W.heap.size W w' ∧ Below w.heap.size w w'
set_option maxHeartbeats 2000000 in
set_option maxRecDepth 100000 in
theorem cmdA_raw (w : World) {ca : CA} {k : Cm} {B : Nat} (hf : k.Fits) (hr : RdC w B ca k) : Calls Tryz.prog 52 #[.agg #[.int .i64 k.kind, .int .i64 k.who, .slice ca.Ak k.key.length ca.ck, .slice ca.Av k.val.length ca.cv, .slice ca.Ao k.old.length ca.co]] w (GotCm w w k) := by
  obtain ⟨g, hg⟩ : ∃ g, w.heap.size = g := ⟨_, rfl⟩
  obtain ⟨wz, hwz⟩ : ∃ wz, (w.alloc (.cells #[.int .i64 k.kind, .int .i64 k.who, .slice ca.Ak k.key.length ca.ck, .slice ca.Av k.val.length ca.cv, .slice ca.Ao k.old.length ca.co] 38)).alloc (.cells #[.int .i64 0, .int .i64 0, .slice none 0 0, .slice none 0 0, .slice none 0 0] 38) = wz := ⟨_, rfl⟩
  have hbz : Below w.heap.size w wz := by rw [← hwz]; exact ((Below.refl _ _).alloc (Nat.le_refl _) _).alloc (by simp) _
  have HR := Lib.hid (hr.fit.below hbz).fit
  have HF := Lib.hid hf
  have HBZ := Lib.hid hbz
  have HW := Lib.hid hwz
  have HG := Lib.hid hg
  have HV : Hid (Blk wz g 38 #[.int .i64 k.kind, .int .i64 k.who, .slice ca.Ak k.key.length ca.ck, .slice ca.Av k.val.length ca.cv, .slice ca.Ao k.old.length ca.co] ∧ Blk wz (g + 1) 38 #[.int .i64 0, .int .i64 0, .slice none 0 0, .slice none 0 0, .slice none 0 0]) := Lib.hid (by
    subst hg
    rw [← hwz]
    refine ⟨(Blk.new _ _ _).alloc _, ?_⟩
    have := Blk.new (w.alloc (.cells #[.int .i64 k.kind, .int .i64 k.who, .slice ca.Ak k.key.length ca.ck, .slice ca.Av k.val.length ca.cv, .slice ca.Ao k.old.length ca.co] 38)) 38 #[.int .i64 0, .int .i64 0, .slice none 0 0, .slice none 0 0, .slice none 0 0]
    rwa [World.size_alloc] at this)
  clear hbz hr hf hwz hg
  go_enter Tryz.func52, Tryz.ntmps52
  go_upto_region 1 with fail
  rw [HG.out]
  rw [HW.out]
  have m1 : (⟨g + 1, 0, none⟩ : Addr).block < wz.heap.size := HV.out.2.lt
  refine region_T (n := 14) (S := fun w' => Below wz.heap.size wz w') (by kernel_rfl) ?_
  have hS0 : Below wz.heap.size wz wz.drew := (Below.refl _ _).drew
  generalize wz.drew = w4 at hS0 ⊢
  have hS := Lib.hid hS0
  clear hS0 m1
  refine AnyT.take (i := 0) (v := .pointer (some ⟨g, 0, none⟩)) rfl (by kernel_rfl) (by kernel_rfl) (by kernel_rfl) (by kernel_rfl) (fun _ _ _ h => h) (Or.inl ⟨by kernel_rfl, fun w _ => by go_simp⟩) hS.out ?_
  refine AnyT.take (i := 2) (v := .pointer (some ⟨g, 1, none⟩)) rfl (by kernel_rfl) (by kernel_rfl) (by kernel_rfl) (by kernel_rfl) (fun _ _ _ h => h) (Or.inl ⟨by kernel_rfl, fun w _ => by go_simp⟩) hS.out ?_
  refine AnyT.take (i := 4) (v := .pointer (some ⟨g, 2, none⟩)) rfl (by kernel_rfl) (by kernel_rfl) (by kernel_rfl) (by kernel_rfl) (fun _ _ _ h => h) (Or.inl ⟨by kernel_rfl, fun w _ => by go_simp⟩) hS.out ?_
  refine AnyT.take (i := 7) (v := .pointer (some ⟨g, 3, none⟩)) rfl (by kernel_rfl) (by kernel_rfl) (by kernel_rfl) (by kernel_rfl) (fun _ _ _ h => h) (Or.inl ⟨by kernel_rfl, fun w _ => by go_simp⟩) hS.out ?_
  refine AnyT.take (i := 10) (v := .pointer (some ⟨g, 4, none⟩)) rfl (by kernel_rfl) (by kernel_rfl) (by kernel_rfl) (by kernel_rfl) (fun _ _ _ h => h) (Or.inl ⟨by kernel_rfl, fun w _ => by go_simp⟩) hS.out ?_
  refine AnyT.take (i := 1) (v := .int .i64 k.kind) rfl (by kernel_rfl) (by kernel_rfl) (by kernel_rfl) (by kernel_rfl) (fun _ _ _ h => h) (Or.inl ⟨by kernel_rfl, fun w h => by have q := (Below.cell h (p := ⟨g, 0, none⟩) HV.out.1.lt).trans (HV.out.1.cell 0); go_simp⟩) hS.out ?_
  refine AnyT.take (i := 3) (v := .int .i64 k.who) rfl (by kernel_rfl) (by kernel_rfl) (by kernel_rfl) (by kernel_rfl) (fun _ _ _ h => h) (Or.inl ⟨by kernel_rfl, fun w h => by have q := (Below.cell h (p := ⟨g, 1, none⟩) HV.out.1.lt).trans (HV.out.1.cell 1); go_simp⟩) hS.out ?_
  refine AnyT.take (i := 5) (v := .slice ca.Ak k.key.length ca.ck) rfl (by kernel_rfl) (by kernel_rfl) (by kernel_rfl) (by kernel_rfl) (fun _ _ _ h => h) (Or.inl ⟨by kernel_rfl, fun w h => by have q := (Below.cell h (p := ⟨g, 2, none⟩) HV.out.1.lt).trans (HV.out.1.cell 2); go_simp⟩) hS.out ?_
  refine AnyT.take (i := 8) (v := .slice ca.Av k.val.length ca.cv) rfl (by kernel_rfl) (by kernel_rfl) (by kernel_rfl) (by kernel_rfl) (fun _ _ _ h => h) (Or.inl ⟨by kernel_rfl, fun w h => by have q := (Below.cell h (p := ⟨g, 3, none⟩) HV.out.1.lt).trans (HV.out.1.cell 3); go_simp⟩) hS.out ?_
  refine AnyT.take (i := 11) (v := .slice ca.Ao k.old.length ca.co) rfl (by kernel_rfl) (by kernel_rfl) (by kernel_rfl) (by kernel_rfl) (fun _ _ _ h => h) (Or.inl ⟨by kernel_rfl, fun w h => by have q := (Below.cell h (p := ⟨g, 4, none⟩) HV.out.1.lt).trans (HV.out.1.cell 4); go_simp⟩) hS.out ?_
  refine AnyT.ready (rs := [6]) (by kernel_rfl) (by simp) ?_
  refine AllT.cons rfl (fun K hK => ?_) AllT.nil
  go_simp
  refine (clone_any (W := wz) (show Lim 0 k.key.length by have := HF.out.key.1; unfold Lim; omega) (HR.out.rk.below hS.out) hS.out).mono ?_
  rintro en w5 ⟨A5, c5, rfl, ho5, hB5, hb5⟩
  have hS := Lib.hid (hS.out.trans (hb5.mono hS.out.size))
  go_simp
  refine hK.out _ _ (Or.inr (hS.out)) (fun _ => ?_)
  clear hK K
  refine AnyT.ready (rs := [9]) (by kernel_rfl) (by simp) ?_
  refine AllT.cons rfl (fun K hK => ?_) AllT.nil
  go_simp
  refine (clone_any (W := wz) (show Lim 0 k.val.length by have := HF.out.val.1; unfold Lim; omega) (HR.out.rv.below hS.out) hS.out).mono ?_
  rintro en w6 ⟨A6, c6, rfl, ho6, hB6, hb6⟩
  have hS := Lib.hid (hS.out.trans (hb6.mono hS.out.size))
  have ho5 := own_below ho5 hb6
  go_simp
  refine hK.out _ _ (Or.inr (hS.out)) (fun _ => ?_)
  clear hK K
  refine AnyT.ready (rs := [12]) (by kernel_rfl) (by simp) ?_
  refine AllT.cons rfl (fun K hK => ?_) AllT.nil
  go_simp
  refine (clone_any (W := wz) (show Lim 0 k.old.length by have := HF.out.old.1; unfold Lim; omega) (HR.out.ro.below hS.out) hS.out).mono ?_
  rintro en w7 ⟨A7, c7, rfl, ho7, hB7, hb7⟩
  have hS := Lib.hid (hS.out.trans (hb7.mono hS.out.size))
  have ho5 := own_below ho5 hb7
  have ho6 := own_below ho6 hb7
  go_simp
  refine hK.out _ _ (Or.inr (hS.out)) (fun _ => ?_)
  clear hK K
  refine AnyT.take (i := 13) (v := .agg #[.int .i64 k.kind, .int .i64 k.who, .slice A5 k.key.length c5, .slice A6 k.val.length c6, .slice A7 k.old.length c7]) rfl (by kernel_rfl) (by kernel_rfl) (by kernel_rfl) (by kernel_rfl) (fun _ _ _ h => h) (Or.inl ⟨by kernel_rfl, fun w _ => by go_simp⟩) hS.out ?_
  refine AnyT.ready (rs := [14]) (by kernel_rfl) (by simp) ?_
  refine AllT.cons rfl (fun K hK => ?_) AllT.nil
  have HK := Lib.hid (HV.out.2.below hS.out)
  refine wp_store_row 38 (.tmp 2) (.tmp 16) rfl (g + 1) #[.int .i64 k.kind, .int .i64 k.who, .slice A5 k.key.length c5, .slice A6 k.val.length c6, .slice A7 k.old.length c7] rfl rfl 38 #[.int .i64 0, .int .i64 0, .slice none 0 0, .slice none 0 0, .slice none 0 0] HK.out (by kernel_rfl) rfl (by kernel_rfl) ?_
  refine hK.out _ _ (Or.inl rfl) (fun _ => ?_)
  clear hK K
  refine AnyT.done (by kernel_rfl) ?_ _
  go_wp2_with fail
  refine bodyPost_ret (results_cell_row rfl _ _ _ _ _ _ _ rfl (Blk.row HK.out #[.int .i64 k.kind, .int .i64 k.who, .slice A5 k.key.length c5, .slice A6 k.val.length c6, .slice A7 k.old.length c7]) Tryz.underlying38 rfl (by kernel_rfl)) rfl ?_
  have hwb : w.heap.size ≤ g + 1 := by have := HG.out; omega
  have hw : Below w.heap.size w w7 := HBZ.out.trans (hS.out.mono HBZ.out.size)
  have h3 := below_setRow hw hwb #[.int .i64 k.kind, .int .i64 k.who, .slice A5 k.key.length c5, .slice A6 k.val.length c6, .slice A7 k.old.length c7]
  exact ⟨⟨A5, c5, A6, c6, A7, c7⟩, rfl, ⟨more_ HBZ.out.size (own_row_t ho5 HK.out (by decide)), more_ HBZ.out.size (own_row_t ho6 HK.out (by decide)), more_ HBZ.out.size (own_row_t ho7 HK.out (by decide))⟩, h3, h3⟩
theorem OwnC.of9 {W w w' : World} {a : CA} {c : Cm} (hs : W.heap.size ≤ w.heap.size) (h : OwnC w w' a c) : OwnC W w' a c := ⟨more_ hs h.k, more_ hs h.v, more_ hs h.o⟩
theorem cmdA_any {W w : World} {ca : CA} {k : Cm} {B : Nat} (hf : k.Fits) (hr : RdC w B ca k) (hB : Below W.heap.size W w) : Calls Tryz.prog 52 #[.agg #[.int .i64 k.kind, .int .i64 k.who, .slice ca.Ak k.key.length ca.ck, .slice ca.Av k.val.length ca.cv, .slice ca.Ao k.old.length ca.co]] w (GotCm W w k) :=
  (cmdA_raw w hf hr).mono fun e w' ⟨ca, h1, h2, h3, h4⟩ => ⟨ca, h1, h2.of9 hB.size, hB.trans (h3.mono hB.size), h4⟩
/-- an entry of the call's own -/
def GotEn (W w : World) (e : En) (en : Ending) (w' : World) : Prop := ∃ ca : CA, en = .returned (.agg (entC ca e)) ∧ OwnC W w' ca e.c ∧ Below W.heap.size W w' ∧ Below w.heap.size w w'
set_option maxHeartbeats 2000000 in
set_option maxRecDepth 100000 in
theorem entA_raw (w : World) {ca : CA} {e : En} {B : Nat} (hf : e.c.Fits) (hr : RdC w B ca e.c) : Calls Tryz.prog 35 #[.agg (entC ca e)] w (GotEn w w e) := by
  unfold entC
  obtain ⟨g, hg⟩ : ∃ g, w.heap.size = g := ⟨_, rfl⟩
  obtain ⟨wz, hwz⟩ : ∃ wz, (w.alloc (.cells #[.int .i64 e.s, .int .i64 e.q, .int .i64 e.c.kind, .int .i64 e.c.who, .slice ca.Ak e.c.key.length ca.ck, .slice ca.Av e.c.val.length ca.cv, .slice ca.Ao e.c.old.length ca.co] 40)).alloc (.cells #[.int .i64 0, .int .i64 0, .int .i64 0, .int .i64 0, .slice none 0 0, .slice none 0 0, .slice none 0 0] 40) = wz := ⟨_, rfl⟩
  have hbz : Below w.heap.size w wz := by rw [← hwz]; exact ((Below.refl _ _).alloc (Nat.le_refl _) _).alloc (by simp) _
  have HR := Lib.hid (hr.fit.below hbz).fit
  have HF := Lib.hid hf
  have HBZ := Lib.hid hbz
  have HW := Lib.hid hwz
  have HG := Lib.hid hg
  have HV : Hid (Blk wz g 40 #[.int .i64 e.s, .int .i64 e.q, .int .i64 e.c.kind, .int .i64 e.c.who, .slice ca.Ak e.c.key.length ca.ck, .slice ca.Av e.c.val.length ca.cv, .slice ca.Ao e.c.old.length ca.co] ∧ Blk wz (g + 1) 40 #[.int .i64 0, .int .i64 0, .int .i64 0, .int .i64 0, .slice none 0 0, .slice none 0 0, .slice none 0 0]) := Lib.hid (by
    subst hg
    rw [← hwz]
    refine ⟨(Blk.new _ _ _).alloc _, ?_⟩
    have := Blk.new (w.alloc (.cells #[.int .i64 e.s, .int .i64 e.q, .int .i64 e.c.kind, .int .i64 e.c.who, .slice ca.Ak e.c.key.length ca.ck, .slice ca.Av e.c.val.length ca.cv, .slice ca.Ao e.c.old.length ca.co] 40)) 40 #[.int .i64 0, .int .i64 0, .int .i64 0, .int .i64 0, .slice none 0 0, .slice none 0 0, .slice none 0 0]
    rwa [World.size_alloc] at this)
  clear hbz hr hf hwz hg
  go_enter Tryz.func35, Tryz.ntmps35
  go_upto_region 1 with fail
  rw [HG.out]
  rw [HW.out]
  have m1 : (⟨g + 1, 0, none⟩ : Addr).block < wz.heap.size := HV.out.2.lt
  have HRG : Hid (wz.rangeAt g 2 [.int .i64 e.c.kind, .int .i64 e.c.who, .slice ca.Ak e.c.key.length ca.ck, .slice ca.Av e.c.val.length ca.cv, .slice ca.Ao e.c.old.length ca.co]) := Lib.hid (fun q v hv => by
    rw [HV.out.1.cell]
    match q with
    | 0 => simpa using hv
    | 1 => simpa using hv
    | 2 => simpa using hv
    | 3 => simpa using hv
    | 4 => simpa using hv
    | q + 5 => simp at hv)
  refine region_T (n := 8) (S := fun w' => Below wz.heap.size wz w') (by kernel_rfl) ?_
  have hS0 : Below wz.heap.size wz wz.drew := (Below.refl _ _).drew
  generalize wz.drew = w4 at hS0 ⊢
  have hS := Lib.hid hS0
  clear hS0 m1
  refine AnyT.take (i := 0) (v := .pointer (some ⟨g, 0, none⟩)) rfl (by kernel_rfl) (by kernel_rfl) (by kernel_rfl) (by kernel_rfl) (fun _ _ _ h => h) (Or.inl ⟨by kernel_rfl, fun w _ => by go_simp⟩) hS.out ?_
  refine AnyT.take (i := 2) (v := .pointer (some ⟨g, 1, none⟩)) rfl (by kernel_rfl) (by kernel_rfl) (by kernel_rfl) (by kernel_rfl) (fun _ _ _ h => h) (Or.inl ⟨by kernel_rfl, fun w _ => by go_simp⟩) hS.out ?_
  refine AnyT.take (i := 4) (v := .pointer (some ⟨g, 2, none⟩)) rfl (by kernel_rfl) (by kernel_rfl) (by kernel_rfl) (by kernel_rfl) (fun _ _ _ h => h) (Or.inl ⟨by kernel_rfl, fun w _ => by go_simp⟩) hS.out ?_
  refine AnyT.take (i := 1) (v := .int .i64 e.s) rfl (by kernel_rfl) (by kernel_rfl) (by kernel_rfl) (by kernel_rfl) (fun _ _ _ h => h) (Or.inl ⟨by kernel_rfl, fun w h => by have q := (Below.cell h (p := ⟨g, 0, none⟩) HV.out.1.lt).trans (HV.out.1.cell 0); go_simp⟩) hS.out ?_
  refine AnyT.take (i := 3) (v := .int .i64 e.q) rfl (by kernel_rfl) (by kernel_rfl) (by kernel_rfl) (by kernel_rfl) (fun _ _ _ h => h) (Or.inl ⟨by kernel_rfl, fun w h => by have q := (Below.cell h (p := ⟨g, 1, none⟩) HV.out.1.lt).trans (HV.out.1.cell 1); go_simp⟩) hS.out ?_
  refine AnyT.take (i := 5) (v := .agg #[.int .i64 e.c.kind, .int .i64 e.c.who, .slice ca.Ak e.c.key.length ca.ck, .slice ca.Av e.c.val.length ca.cv, .slice ca.Ao e.c.old.length ca.co]) rfl (by kernel_rfl) (by kernel_rfl) (by kernel_rfl) (by kernel_rfl) (fun _ _ _ h => h) (yieldsIf_load_mid (by kernel_rfl) 38 (.tmp 7) rfl g 2 rfl [.int .i64 e.c.kind, .int .i64 e.c.who, .slice ca.Ak e.c.key.length ca.ck, .slice ca.Av e.c.val.length ca.cv, .slice ca.Ao e.c.old.length ca.co] _ (fun w h => fun q v hv => (Below.cell h (p := ⟨g, 2 + q, none⟩) HV.out.1.lt).trans (HRG.out q v hv)) Tryz.underlying38 rfl (by kernel_rfl)) hS.out ?_
  refine AnyT.ready (rs := [6]) (by kernel_rfl) (by simp) ?_
  refine AllT.cons rfl (fun K hK => ?_) AllT.nil
  go_simp
  refine (cmdA_any (W := wz) HF.out (HR.out.below hS.out) hS.out).mono ?_
  rintro en w5 ⟨cb, rfl, ho5, hB5, hb5⟩
  have hS := Lib.hid (hS.out.trans (hb5.mono hS.out.size))
  go_simp
  refine hK.out _ _ (Or.inr (hS.out)) (fun _ => ?_)
  clear hK K
  refine AnyT.take (i := 7) (v := .agg #[.int .i64 e.s, .int .i64 e.q, .int .i64 e.c.kind, .int .i64 e.c.who, .slice cb.Ak e.c.key.length cb.ck, .slice cb.Av e.c.val.length cb.cv, .slice cb.Ao e.c.old.length cb.co]) rfl (by kernel_rfl) (by kernel_rfl) (by kernel_rfl) (by kernel_rfl) (fun _ _ _ h => h) (Or.inl ⟨by kernel_rfl, fun w _ => by go_simp⟩) hS.out ?_
  refine AnyT.ready (rs := [8]) (by kernel_rfl) (by simp) ?_
  refine AllT.cons rfl (fun K hK => ?_) AllT.nil
  have HK := Lib.hid (HV.out.2.below hS.out)
  refine wp_store_row 40 (.tmp 2) (.tmp 10) rfl (g + 1) #[.int .i64 e.s, .int .i64 e.q, .int .i64 e.c.kind, .int .i64 e.c.who, .slice cb.Ak e.c.key.length cb.ck, .slice cb.Av e.c.val.length cb.cv, .slice cb.Ao e.c.old.length cb.co] rfl rfl 40 #[.int .i64 0, .int .i64 0, .int .i64 0, .int .i64 0, .slice none 0 0, .slice none 0 0, .slice none 0 0] HK.out (by kernel_rfl) rfl (by kernel_rfl) ?_
  refine hK.out _ _ (Or.inl rfl) (fun _ => ?_)
  clear hK K
  refine AnyT.done (by kernel_rfl) ?_ _
  go_wp2_with fail
  refine bodyPost_ret (results_cell_row rfl _ _ _ _ _ _ _ rfl (Blk.row HK.out #[.int .i64 e.s, .int .i64 e.q, .int .i64 e.c.kind, .int .i64 e.c.who, .slice cb.Ak e.c.key.length cb.ck, .slice cb.Av e.c.val.length cb.cv, .slice cb.Ao e.c.old.length cb.co]) Tryz.underlying40 rfl (by kernel_rfl)) rfl ?_
  have hwb : w.heap.size ≤ g + 1 := by have := HG.out; omega
  have hw : Below w.heap.size w w5 := HBZ.out.trans (hS.out.mono HBZ.out.size)
  have h3 := below_setRow hw hwb #[.int .i64 e.s, .int .i64 e.q, .int .i64 e.c.kind, .int .i64 e.c.who, .slice cb.Ak e.c.key.length cb.ck, .slice cb.Av e.c.val.length cb.cv, .slice cb.Ao e.c.old.length cb.co]
  exact ⟨cb, rfl, ⟨more_ HBZ.out.size (own_row_t ho5.k HK.out (by decide)), more_ HBZ.out.size (own_row_t ho5.v HK.out (by decide)), more_ HBZ.out.size (own_row_t ho5.o HK.out (by decide))⟩, h3, h3⟩
theorem entA_any {W w : World} {ca : CA} {e : En} {B : Nat} (hf : e.c.Fits) (hr : RdC w B ca e.c) (hB : Below W.heap.size W w) : Calls Tryz.prog 35 #[.agg (entC ca e)] w (GotEn W w e) :=
  (entA_raw w hf hr).mono fun e w' ⟨ca, h1, h2, h3, h4⟩ => ⟨ca, h1, h2.of9 hB.size, hB.trans (h3.mono hB.size), h4⟩
end Go.Proofs.YtaknfmionkkdjaaGreat

namespace Go.Proofs.YtaknfmionkkdjaaGreat
open Go.RowKit
set_option linter.unusedVariables false
set_option maxHeartbeats 2000000 in
set_option maxRecDepth 100000 in
theorem eachLA_raw (ps : List Ls) (A : Option Addr) (n c B : Nat) (hn : n ≤ 100000) (hL : LimLs ps) (w : World) (hr : RdL w B A n ps) :
    Calls Tryz.prog 62 #[.slice A n c, .func (.func 63) #[] #[]] w (GotL w w ps) := by
  have HL := Lib.hid hL
  have HR := Lib.hid hr.fit
  have hlen := hr.length
  obtain ⟨i0, hi0, hi1, hi2, hi3⟩ := info_parts cellL.info
  clear hr hL
  go_enter Tryz.func62, Tryz.ntmps62
  go_wp2_with (first
    | (at_make
       refine wpList_make_own w rfl _ _ 31 rfl w.heap.size 57 i0 _ 5 Tryz.underlying31 hi0 hi1 hi2 _ _ _ n rfl rfl rfl (by rw [hi3]; omega) (by unfold maxLen; omega) (Nat.le_refl _) ?_
       intro w0 hown0 hg0)
    | fail)
  clear hi0 hi1 hi2 hi3
  obtain ⟨g, hg⟩ : ∃ g, w.heap.size = g := ⟨_, rfl⟩
  have HB00 := Lib.hid ((Below.refl w.heap.size w).grown hg0 (Nat.le_refl _) (fun k hk => by cases hk))
  have HO00 : Hid (OwnL w w0 (some ⟨g, 0, none⟩) 0 n []) := Lib.hid ⟨[], by rw [← hg]; exact hown0, CellsL.nil⟩
  clear hown0 hg0
  rw [hg]
  have HG := Lib.hid hg
  clear hg
  go_loopw [5, 7, 13] (fun s5 s7 s13 wr => ∃ (k : Nat), k ≤ n ∧ s13 = .int .i64 (k : Int) ∧ s5 = .slice (some ⟨g, 0, none⟩) k n ∧ Hid (OwnL w wr (some ⟨g, 0, none⟩) k n (ps.take k)) ∧ Hid (Below w.heap.size w wr)) (fun _ _ s13 _ => n - (intOf s13).toNat)
  case atStart => exact ⟨0, Nat.zero_le _, rfl, rfl, Lib.hid (by simpa using HO00.out), HB00⟩
  case round =>
    obtain ⟨k, hk, rfl, rfl, HO, HB⟩ := hrel
    by_cases hlt : k < n
    · obtain ⟨b, o, l, A1, c1, rfl, hl, y0, y1, y2, y3, y4, hrd⟩ := ((HR.out.below HB.out).fit).at hlt
      have hl1 : Lim 0 l.v.length := HL.out l (List.mem_of_getElem? hl)
      have b0 : Below wr.heap.size wr (wr.alloc (.cells #[.int .i64 l.s, .int .i64 l.q, .int .i64 l.e, .slice A1 l.v.length c1, .int .i64 l.n] 57)) := (Below.refl _ _).alloc (Nat.le_refl _) _
      have HC := Lib.hid (lastA_any (W := w) (c := c1) l hl1 (hrd.below b0) (HB.out.trans (b0.mono HB.out.size)))
      have HB0 := Lib.hid b0
      have HP := Lib.hid hl
      clear hrd hl b0
      go_wp2_with (first
        | (go_at_call 63; refine HC.out.mono ?_; rintro e w1 ⟨A4, c4, rfl, ho1, hB2, hb2⟩; obtain ⟨vs, hv1, hv2⟩ := HO.out.below (HB0.out.trans (hb2.mono HB0.out.size)))
        | (at_builtin
           refine wpList_append_fits (W := w) cellL (.tmp 17) (.tmp 21) rfl (by rfl) rfl (ownsRow_below hv1 ((Below.refl _ _).alloc (Nat.le_refl _) _)) rfl (Rd.lastAt _ A4 c4 l _ rfl) (lastC_one _ _ _) (by omega) (by omega) (hB2.alloc hB2.size _) ?_
           intro w3 hown3 hB3 hg3)
        | fail)
      go_roundw
      case rel =>
        refine ⟨k + 1, by omega, by go_num, rfl, Lib.hid ?_, Lib.hid hB3⟩
        have b1 : Below w1.heap.size w1 (w1.alloc (.cells #[.int .i64 l.s, .int .i64 l.q, .int .i64 l.e, .slice A4 l.v.length c4, .int .i64 l.n] 57)) := (Below.refl _ _).alloc (Nat.le_refl _) _
        refine ⟨vs ++ lastC A4 c4 l, hown3, ?_⟩
        rw [List.take_add_one, HP.out]
        exact ((hv2.snoc ho1).below b1).grown (by decide) (ownsRow_below hv1 b1) hg3
      case measure => simp only [intOf]; omega
    · obtain rfl : k = n := by omega
      go_wp2_with fail
      go_ret
      have HO2 := HO.out
      rw [List.take_of_length_le (by omega)] at HO2
      subst hlen
      exact ⟨_, _, rfl, HO2, HB.out, HB.out⟩
theorem eachLA_any {W w : World} {ps : List Ls} {A : Option Addr} {n c B : Nat} (hn : n ≤ 100000) (hL : LimLs ps) (hr : RdL w B A n ps) (hB : Below W.heap.size W w) :
    Calls Tryz.prog 62 #[.slice A n c, .func (.func 63) #[] #[]] w (GotL W w ps) :=
  (eachLA_raw ps A n c B hn hL w hr).mono fun e w' h => GotL.of hB h
set_option maxHeartbeats 4000000 in
set_option maxRecDepth 100000 in
theorem machineA_raw {w : World} {a : MA} {m : Mc} {B : Nat} (hM : m.Ok) (h : RdM w B a m) : Calls Tryz.prog 41 #[machV a m] w fun e w' => ∃ a', e = .returned (machV a' m) ∧ OwnM w w' a' m ∧ Below w.heap.size w w' := by
  obtain ⟨⟨A0, c0, A1, c1, A2, c2, A3, c3⟩, At, ct⟩ := a
  obtain ⟨g, hg⟩ : ∃ g, w.heap.size = g := ⟨_, rfl⟩
  obtain ⟨wz, hwz⟩ : ∃ wz, (w.alloc (.cells #[.slice A0 m.o.reg.length c0, .slice A1 m.o.q.length c1, .slice A2 m.o.lk.length c2, .slice A3 m.o.mp.length c3, .slice At m.t.length ct] 33)).alloc (.cells #[.slice none 0 0, .slice none 0 0, .slice none 0 0, .slice none 0 0, .slice none 0 0] 33) = wz := ⟨_, rfl⟩
  have hbz : Below w.heap.size w wz := by rw [← hwz]; exact ((Below.refl _ _).alloc (Nat.le_refl _) _).alloc (by simp) _
  have HR := Lib.hid (h.fit.below hbz).fit
  have HM := Lib.hid hM
  have HBZ := Lib.hid hbz
  have HW := Lib.hid hwz
  have HG := Lib.hid hg
  have HV : Hid (Blk wz g 33 #[.slice A0 m.o.reg.length c0, .slice A1 m.o.q.length c1, .slice A2 m.o.lk.length c2, .slice A3 m.o.mp.length c3, .slice At m.t.length ct] ∧ Blk wz (g + 1) 33 #[.slice none 0 0, .slice none 0 0, .slice none 0 0, .slice none 0 0, .slice none 0 0]) := Lib.hid (by
    subst hg
    rw [← hwz]
    refine ⟨(Blk.new _ _ _).alloc _, ?_⟩
    have := Blk.new (w.alloc (.cells #[.slice A0 m.o.reg.length c0, .slice A1 m.o.q.length c1, .slice A2 m.o.lk.length c2, .slice A3 m.o.mp.length c3, .slice At m.t.length ct] 33)) 33 #[.slice none 0 0, .slice none 0 0, .slice none 0 0, .slice none 0 0, .slice none 0 0]
    rwa [World.size_alloc] at this)
  have hl8 : m.t.length ≤ 100000 := by have := hM.t8; omega
  clear hbz h hwz hg hM
  unfold machV machC
  go_enter Tryz.func41, Tryz.ntmps41
  go_upto_region 1 with fail
  rw [HG.out]
  rw [HW.out]
  refine region_T (n := 7) (S := fun w' => Below wz.heap.size wz w') (by kernel_rfl) ?_
  have hS0 : Below wz.heap.size wz wz.drew := (Below.refl _ _).drew
  generalize wz.drew = w4 at hS0 ⊢
  have hS := Lib.hid hS0
  clear hS0
  refine AnyT.take (i := 0) (v := .pointer (some ⟨g, 0, none⟩)) rfl (by kernel_rfl) (by kernel_rfl) (by kernel_rfl) (by kernel_rfl) (fun _ _ _ h => h) (Or.inl ⟨by kernel_rfl, fun w _ => by go_simp⟩) hS.out ?_
  refine AnyT.take (i := 3) (v := .pointer (some ⟨g, 4, none⟩)) rfl (by kernel_rfl) (by kernel_rfl) (by kernel_rfl) (by kernel_rfl) (fun _ _ _ h => h) (Or.inl ⟨by kernel_rfl, fun w _ => by go_simp⟩) hS.out ?_
  refine AnyT.take (i := 1) (v := .agg #[.slice A0 m.o.reg.length c0, .slice A1 m.o.q.length c1, .slice A2 m.o.lk.length c2, .slice A3 m.o.mp.length c3]) rfl (by kernel_rfl) (by kernel_rfl) (by kernel_rfl) (by kernel_rfl) (fun _ _ _ h => h) (Or.inl ⟨by kernel_rfl, fun w h => by
    obtain ⟨q0, q1, q2, q3, q4⟩ := five (HV.out.1.below h)
    go_simp⟩) hS.out ?_
  refine AnyT.take (i := 4) (v := .slice At m.t.length ct) rfl (by kernel_rfl) (by kernel_rfl) (by kernel_rfl) (by kernel_rfl) (fun _ _ _ h => h) (Or.inl ⟨by kernel_rfl, fun w h => by
    obtain ⟨q0, q1, q2, q3, q4⟩ := five (HV.out.1.below h)
    go_simp⟩) hS.out ?_
  refine AnyT.ready (rs := [2]) (by kernel_rfl) (by simp) ?_
  refine AllT.cons rfl (fun K hK => ?_) AllT.nil
  go_simp
  refine (copied8 (W := wz) (a := ⟨A0, c0, A1, c1, A2, c2, A3, c3⟩) HM.out.o (HR.out.o.below hS.out) hS.out).mono ?_
  rintro e w5 ⟨⟨A5, c5, A6, c6, A7, c7, A8, c8⟩, rfl, ho5, hB5, hb5⟩
  unfold objV objC
  have hS := Lib.hid (hS.out.trans (hb5.mono hS.out.size))
  go_simp
  refine hK.out _ _ (Or.inr (hS.out)) (fun _ => ?_)
  clear hK K
  refine AnyT.ready (rs := [5]) (by kernel_rfl) (by simp) ?_
  refine AllT.cons rfl (fun K hK => ?_) AllT.nil
  go_simp
  refine (eachLA_any (W := wz) hl8 HM.out.lim (HR.out.t.below hS.out) hS.out).mono ?_
  rintro e w6 ⟨A9, c9, rfl, ho9, hB9, hb9⟩
  have hS := Lib.hid (hS.out.trans (hb9.mono hS.out.size))
  have ho5 := ho5.below hb9
  have HK := Lib.hid (HV.out.2.below hS.out)
  obtain ⟨f0, f1, f2, f3, f4⟩ := five_frozen HK.out
  obtain ⟨x0, x1, x2, x3, x4⟩ := five HK.out
  go_simp
  refine hK.out _ _ (Or.inr (hS.out)) (fun _ => ?_)
  clear hK K
  refine AnyT.take (i := 6) (v := .agg #[.slice A5 m.o.reg.length c5, .slice A6 m.o.q.length c6, .slice A7 m.o.lk.length c7, .slice A8 m.o.mp.length c8, .slice A9 m.t.length c9]) rfl (by kernel_rfl) (by kernel_rfl) (by kernel_rfl) (by kernel_rfl) (fun _ _ _ h => h) (Or.inl ⟨by kernel_rfl, fun w _ => by go_simp⟩) hS.out ?_
  refine AnyT.ready (rs := [7]) (by kernel_rfl) (by simp) ?_
  refine AllT.cons rfl (fun K hK => ?_) AllT.nil
  go_simp
  refine hK.out _ _ (Or.inl rfl) (fun _ => ?_)
  clear hK K
  refine AnyT.done (by kernel_rfl) ?_ _
  go_wp2_with fail
  obtain ⟨k1, k2, k3, _, _⟩ := put5 HK.out (.slice A5 m.o.reg.length c5) (.slice A6 m.o.q.length c6) (.slice A7 m.o.lk.length c7) (.slice A8 m.o.mp.length c8) (.slice A9 m.t.length c9)
  refine bodyPost_ret (results_cell_row rfl _ _ _ _ _ _ _ rfl k1 Tryz.underlying33 rfl (by kernel_rfl)) rfl ?_
  have hwb : w.heap.size ≤ g + 1 := by have := HG.out; omega
  have hw : Below w.heap.size w w6 := HBZ.out.trans (hS.out.mono HBZ.out.size)
  have ho : OwnM wz w6 ⟨⟨A5, c5, A6, c6, A7, c7, A8, c8⟩, A9, c9⟩ m := ⟨ho5, ho9⟩
  exact ⟨⟨⟨A5, c5, A6, c6, A7, c7, A8, c8⟩, A9, c9⟩, rfl, (k3 _ _ _ ho (by decide) (by decide) (by decide) (by decide) (by decide)).of HBZ.out.size, k2 w hwb hw⟩
theorem machineA_any {W w : World} {a : MA} {m : Mc} {B : Nat} (hM : m.Ok) (h : RdM w B a m) (hB : Below W.heap.size W w) : Calls Tryz.prog 41 #[machV a m] w fun e w' => ∃ a', e = .returned (machV a' m) ∧ OwnM W w' a' m ∧ Below W.heap.size W w' ∧ Below w.heap.size w w' :=
  (machineA_raw hM h).mono fun e w' ⟨a', h1, h2, h3⟩ => ⟨a', h1, h2.of hB.size, hB.trans (h3.mono hB.size), h3⟩
end Go.Proofs.YtaknfmionkkdjaaGreat

