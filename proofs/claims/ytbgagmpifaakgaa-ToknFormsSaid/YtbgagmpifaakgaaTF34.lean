/- BookAnew -/
import Derived.Test.YtbgagmpifaakgaaTF02
import Derived.Test.YtbgagmpifaakgaaTF03
import Derived.Test.YtbgagmpifaakgaaTF04
import Derived.Test.YtbgagmpifaakgaaTF06
import Derived.Test.YtbgagmpifaakgaaTF07
import Derived.Test.YtbgagmpifaakgaaTF11
import Derived.Test.YtbgagmpifaakgaaTF12
import Derived.Test.YtbgagmpifaakgaaTF13
import Derived.Test.YtbgagmpifaakgaaTF17
import Derived.Test.YtbgagmpifaakgaaTF24
import Derived.Test.YtbgagmpifaakgaaTF25
import Derived.Test.YtbgagmpifaakgaaTF27
import Derived.Test.YtbgagmpifaakgaaTF28
import Derived.Test.YtbgagmpifaakgaaTF30
import Derived.BigQuiet
import Derived.Deep.CutBlock
import Derived.Deep.DeepCutAuto
import Derived.Deep.MidRow
import Derived.Deep.QuietTactic
import Derived.Deep.RegionHeld3
import Derived.Deep.RegionLaw
import Derived.Deep.RegionWith
import Derived.Laws.CopyRow
import Derived.Laws.DeepStrings4
import Derived.OwnWalk
import Derived.WalkLawsBesides
import Derived.WalkSpells
import Init
namespace Go.Proofs.Ytbgagmpifaakgaa
open Go.RowKit
set_option linter.unusedVariables false
/-- a command of the call's own -/
def GotCm (W w : World) (k : Cm) (en : Ending) (w' : World) : Prop := ∃ ca : CA, en = .returned (.agg #[.int .i64 k.kind, .int .i64 k.who, .slice ca.Ak k.key.length ca.ck, .slice ca.Av k.val.length ca.cv, .slice ca.Ao k.old.length ca.co]) ∧ OwnC W w' ca k ∧ Below W.heap.size W w' ∧ Below w.heap.size w w'
set_option maxHeartbeats 2000000 in
set_option maxRecDepth 100000 in
theorem cmdA_raw (w : World) {ca : CA} {k : Cm} {B : Nat} (hf : k.Fits) (hr : RdC w B ca k) : Calls Try.prog 31 #[.agg #[.int .i64 k.kind, .int .i64 k.who, .slice ca.Ak k.key.length ca.ck, .slice ca.Av k.val.length ca.cv, .slice ca.Ao k.old.length ca.co]] w (GotCm w w k) := by
  obtain ⟨g, hg⟩ : ∃ g, w.heap.size = g := ⟨_, rfl⟩
  obtain ⟨wz, hwz⟩ : ∃ wz, (w.alloc (.cells #[.int .i64 k.kind, .int .i64 k.who, .slice ca.Ak k.key.length ca.ck, .slice ca.Av k.val.length ca.cv, .slice ca.Ao k.old.length ca.co] 25)).alloc (.cells #[.int .i64 0, .int .i64 0, .slice none 0 0, .slice none 0 0, .slice none 0 0] 25) = wz := ⟨_, rfl⟩
  have hbz : Below w.heap.size w wz := by rw [← hwz]; exact ((Below.refl _ _).alloc (Nat.le_refl _) _).alloc (by simp) _
  have HR := Lib.hid (hr.fit.below hbz).fit
  have HF := Lib.hid hf
  have HBZ := Lib.hid hbz
  have HW := Lib.hid hwz
  have HG := Lib.hid hg
  have HV : Hid (Blk wz g 25 #[.int .i64 k.kind, .int .i64 k.who, .slice ca.Ak k.key.length ca.ck, .slice ca.Av k.val.length ca.cv, .slice ca.Ao k.old.length ca.co] ∧ Blk wz (g + 1) 25 #[.int .i64 0, .int .i64 0, .slice none 0 0, .slice none 0 0, .slice none 0 0]) := Lib.hid (by
    subst hg
    rw [← hwz]
    refine ⟨(Blk.new _ _ _).alloc _, ?_⟩
    have := Blk.new (w.alloc (.cells #[.int .i64 k.kind, .int .i64 k.who, .slice ca.Ak k.key.length ca.ck, .slice ca.Av k.val.length ca.cv, .slice ca.Ao k.old.length ca.co] 25)) 25 #[.int .i64 0, .int .i64 0, .slice none 0 0, .slice none 0 0, .slice none 0 0]
    rwa [World.size_alloc] at this)
  clear hbz hr hf hwz hg
  go_enter Try.func31, Try.ntmps31
  go_upto_region 1 with fail
  rw [HG.out]
  rw [HW.out]
  have m1 : (⟨g + 1, 0, none⟩ : Addr).block < wz.heap.size := HV.out.2.lt
  refine region_T (n := 14) (S := fun w' => Below wz.heap.size wz w') (by kernel_rfl) ?_
  have hS0 : Below wz.heap.size wz wz.drew := (Below.refl _ _).drew
  generalize wz.drew = w4 at hS0 ⊢
  have hS := Lib.hid hS0
  clear hS0 m1
  refine AnyT.take (i := 0) (v := .pointer (some ⟨g, 0, none⟩)) rfl (by kernel_rfl) (by kernel_rfl) (by kernel_rfl) (by kernel_rfl) (fun _ _ _ h => h) (Or.inl ⟨by kernel_rfl, fun w _ => by go_simp⟩) hS.out ?_
  refine AnyT.take (i := 2) (v := .pointer (some ⟨g, 1, none⟩)) rfl (by kernel_rfl) (by kernel_rfl) (by kernel_rfl) (by kernel_rfl) (fun _ _ _ h => h) (Or.inl ⟨by kernel_rfl, fun w _ => by go_simp⟩) hS.out ?_
  refine AnyT.take (i := 4) (v := .pointer (some ⟨g, 2, none⟩)) rfl (by kernel_rfl) (by kernel_rfl) (by kernel_rfl) (by kernel_rfl) (fun _ _ _ h => h) (Or.inl ⟨by kernel_rfl, fun w _ => by go_simp⟩) hS.out ?_
  refine AnyT.take (i := 7) (v := .pointer (some ⟨g, 3, none⟩)) rfl (by kernel_rfl) (by kernel_rfl) (by kernel_rfl) (by kernel_rfl) (fun _ _ _ h => h) (Or.inl ⟨by kernel_rfl, fun w _ => by go_simp⟩) hS.out ?_
  refine AnyT.take (i := 10) (v := .pointer (some ⟨g, 4, none⟩)) rfl (by kernel_rfl) (by kernel_rfl) (by kernel_rfl) (by kernel_rfl) (fun _ _ _ h => h) (Or.inl ⟨by kernel_rfl, fun w _ => by go_simp⟩) hS.out ?_
  refine AnyT.take (i := 1) (v := .int .i64 k.kind) rfl (by kernel_rfl) (by kernel_rfl) (by kernel_rfl) (by kernel_rfl) (fun _ _ _ h => h) (Or.inl ⟨by kernel_rfl, fun w h => by have q := (Below.cell h (p := ⟨g, 0, none⟩) HV.out.1.lt).trans (HV.out.1.cell 0); go_simp⟩) hS.out ?_
  refine AnyT.take (i := 3) (v := .int .i64 k.who) rfl (by kernel_rfl) (by kernel_rfl) (by kernel_rfl) (by kernel_rfl) (fun _ _ _ h => h) (Or.inl ⟨by kernel_rfl, fun w h => by have q := (Below.cell h (p := ⟨g, 1, none⟩) HV.out.1.lt).trans (HV.out.1.cell 1); go_simp⟩) hS.out ?_
  refine AnyT.take (i := 5) (v := .slice ca.Ak k.key.length ca.ck) rfl (by kernel_rfl) (by kernel_rfl) (by kernel_rfl) (by kernel_rfl) (fun _ _ _ h => h) (Or.inl ⟨by kernel_rfl, fun w h => by have q := (Below.cell h (p := ⟨g, 2, none⟩) HV.out.1.lt).trans (HV.out.1.cell 2); go_simp⟩) hS.out ?_
  refine AnyT.take (i := 8) (v := .slice ca.Av k.val.length ca.cv) rfl (by kernel_rfl) (by kernel_rfl) (by kernel_rfl) (by kernel_rfl) (fun _ _ _ h => h) (Or.inl ⟨by kernel_rfl, fun w h => by have q := (Below.cell h (p := ⟨g, 3, none⟩) HV.out.1.lt).trans (HV.out.1.cell 3); go_simp⟩) hS.out ?_
  refine AnyT.take (i := 11) (v := .slice ca.Ao k.old.length ca.co) rfl (by kernel_rfl) (by kernel_rfl) (by kernel_rfl) (by kernel_rfl) (fun _ _ _ h => h) (Or.inl ⟨by kernel_rfl, fun w h => by have q := (Below.cell h (p := ⟨g, 4, none⟩) HV.out.1.lt).trans (HV.out.1.cell 4); go_simp⟩) hS.out ?_
  refine AnyT.ready (rs := [6]) (by kernel_rfl) (by simp) ?_
  refine AllT.cons rfl (fun K hK => ?_) AllT.nil
  go_simp
  refine (clone_any (W := wz) (show Lim 0 k.key.length by have := HF.out.key.1; unfold Lim; omega) (HR.out.rk.below hS.out) hS.out).mono ?_
  rintro en w5 ⟨A5, c5, rfl, ho5, hB5, hb5⟩
  have hS := Lib.hid (hS.out.trans (hb5.mono hS.out.size))
  go_simp
  refine hK.out _ _ (Or.inr (hS.out)) (fun _ => ?_)
  clear hK K
  refine AnyT.ready (rs := [9]) (by kernel_rfl) (by simp) ?_
  refine AllT.cons rfl (fun K hK => ?_) AllT.nil
  go_simp
  refine (clone_any (W := wz) (show Lim 0 k.val.length by have := HF.out.val.1; unfold Lim; omega) (HR.out.rv.below hS.out) hS.out).mono ?_
  rintro en w6 ⟨A6, c6, rfl, ho6, hB6, hb6⟩
  have hS := Lib.hid (hS.out.trans (hb6.mono hS.out.size))
  have ho5 := own_below ho5 hb6
  go_simp
  refine hK.out _ _ (Or.inr (hS.out)) (fun _ => ?_)
  clear hK K
  refine AnyT.ready (rs := [12]) (by kernel_rfl) (by simp) ?_
  refine AllT.cons rfl (fun K hK => ?_) AllT.nil
  go_simp
  refine (clone_any (W := wz) (show Lim 0 k.old.length by have := HF.out.old.1; unfold Lim; omega) (HR.out.ro.below hS.out) hS.out).mono ?_
  rintro en w7 ⟨A7, c7, rfl, ho7, hB7, hb7⟩
  have hS := Lib.hid (hS.out.trans (hb7.mono hS.out.size))
  have ho5 := own_below ho5 hb7
  have ho6 := own_below ho6 hb7
  go_simp
  refine hK.out _ _ (Or.inr (hS.out)) (fun _ => ?_)
  clear hK K
  refine AnyT.take (i := 13) (v := .agg #[.int .i64 k.kind, .int .i64 k.who, .slice A5 k.key.length c5, .slice A6 k.val.length c6, .slice A7 k.old.length c7]) rfl (by kernel_rfl) (by kernel_rfl) (by kernel_rfl) (by kernel_rfl) (fun _ _ _ h => h) (Or.inl ⟨by kernel_rfl, fun w _ => by go_simp⟩) hS.out ?_
  refine AnyT.ready (rs := [14]) (by kernel_rfl) (by simp) ?_
  refine AllT.cons rfl (fun K hK => ?_) AllT.nil
  have HK := Lib.hid (HV.out.2.below hS.out)
  refine wp_store_row 25 (.tmp 2) (.tmp 16) rfl (g + 1) #[.int .i64 k.kind, .int .i64 k.who, .slice A5 k.key.length c5, .slice A6 k.val.length c6, .slice A7 k.old.length c7] rfl rfl 25 #[.int .i64 0, .int .i64 0, .slice none 0 0, .slice none 0 0, .slice none 0 0] HK.out (by kernel_rfl) rfl (by kernel_rfl) ?_
  refine hK.out _ _ (Or.inl rfl) (fun _ => ?_)
  clear hK K
  refine AnyT.done (by kernel_rfl) ?_ _
  go_wp2_with fail
  refine bodyPost_ret (results_cell_row rfl _ _ _ _ _ _ _ rfl (Blk.row HK.out #[.int .i64 k.kind, .int .i64 k.who, .slice A5 k.key.length c5, .slice A6 k.val.length c6, .slice A7 k.old.length c7]) Try.underlying25 rfl (by kernel_rfl)) rfl ?_
  have hwb : w.heap.size ≤ g + 1 := by have := HG.out; omega
  have hw : Below w.heap.size w w7 := HBZ.out.trans (hS.out.mono HBZ.out.size)
  have h3 := below_setRow hw hwb #[.int .i64 k.kind, .int .i64 k.who, .slice A5 k.key.length c5, .slice A6 k.val.length c6, .slice A7 k.old.length c7]
  exact ⟨⟨A5, c5, A6, c6, A7, c7⟩, rfl, ⟨more_ HBZ.out.size (own_row_t ho5 HK.out (by decide)), more_ HBZ.out.size (own_row_t ho6 HK.out (by decide)), more_ HBZ.out.size (own_row_t ho7 HK.out (by decide))⟩, h3, h3⟩
theorem OwnC.of9 {W w w' : World} {a : CA} {c : Cm} (hs : W.heap.size ≤ w.heap.size) (h : OwnC w w' a c) : OwnC W w' a c := ⟨more_ hs h.k, more_ hs h.v, more_ hs h.o⟩
theorem cmdA_any {W w : World} {ca : CA} {k : Cm} {B : Nat} (hf : k.Fits) (hr : RdC w B ca k) (hB : Below W.heap.size W w) : Calls Try.prog 31 #[.agg #[.int .i64 k.kind, .int .i64 k.who, .slice ca.Ak k.key.length ca.ck, .slice ca.Av k.val.length ca.cv, .slice ca.Ao k.old.length ca.co]] w (GotCm W w k) :=
  (cmdA_raw w hf hr).mono fun e w' ⟨ca, h1, h2, h3, h4⟩ => ⟨ca, h1, h2.of9 hB.size, hB.trans (h3.mono hB.size), h4⟩
/-- an entry of the call's own -/
def GotEn (W w : World) (e : En) (en : Ending) (w' : World) : Prop := ∃ ca : CA, en = .returned (.agg (entC ca e)) ∧ OwnC W w' ca e.c ∧ Below W.heap.size W w' ∧ Below w.heap.size w w'
set_option maxHeartbeats 2000000 in
set_option maxRecDepth 100000 in
theorem entA_raw (w : World) {ca : CA} {e : En} {B : Nat} (hf : e.c.Fits) (hr : RdC w B ca e.c) : Calls Try.prog 25 #[.agg (entC ca e)] w (GotEn w w e) := by
  unfold entC
  obtain ⟨g, hg⟩ : ∃ g, w.heap.size = g := ⟨_, rfl⟩
  obtain ⟨wz, hwz⟩ : ∃ wz, (w.alloc (.cells #[.int .i64 e.s, .int .i64 e.q, .int .i64 e.c.kind, .int .i64 e.c.who, .slice ca.Ak e.c.key.length ca.ck, .slice ca.Av e.c.val.length ca.cv, .slice ca.Ao e.c.old.length ca.co] 27)).alloc (.cells #[.int .i64 0, .int .i64 0, .int .i64 0, .int .i64 0, .slice none 0 0, .slice none 0 0, .slice none 0 0] 27) = wz := ⟨_, rfl⟩
  have hbz : Below w.heap.size w wz := by rw [← hwz]; exact ((Below.refl _ _).alloc (Nat.le_refl _) _).alloc (by simp) _
  have HR := Lib.hid (hr.fit.below hbz).fit
  have HF := Lib.hid hf
  have HBZ := Lib.hid hbz
  have HW := Lib.hid hwz
  have HG := Lib.hid hg
  have HV : Hid (Blk wz g 27 #[.int .i64 e.s, .int .i64 e.q, .int .i64 e.c.kind, .int .i64 e.c.who, .slice ca.Ak e.c.key.length ca.ck, .slice ca.Av e.c.val.length ca.cv, .slice ca.Ao e.c.old.length ca.co] ∧ Blk wz (g + 1) 27 #[.int .i64 0, .int .i64 0, .int .i64 0, .int .i64 0, .slice none 0 0, .slice none 0 0, .slice none 0 0]) := Lib.hid (by
    subst hg
    rw [← hwz]
    refine ⟨(Blk.new _ _ _).alloc _, ?_⟩
    have := Blk.new (w.alloc (.cells #[.int .i64 e.s, .int .i64 e.q, .int .i64 e.c.kind, .int .i64 e.c.who, .slice ca.Ak e.c.key.length ca.ck, .slice ca.Av e.c.val.length ca.cv, .slice ca.Ao e.c.old.length ca.co] 27)) 27 #[.int .i64 0, .int .i64 0, .int .i64 0, .int .i64 0, .slice none 0 0, .slice none 0 0, .slice none 0 0]
    rwa [World.size_alloc] at this)
  clear hbz hr hf hwz hg
  go_enter Try.func25, Try.ntmps25
  go_upto_region 1 with fail
  rw [HG.out]
  rw [HW.out]
  have m1 : (⟨g + 1, 0, none⟩ : Addr).block < wz.heap.size := HV.out.2.lt
  have HRG : Hid (wz.rangeAt g 2 [.int .i64 e.c.kind, .int .i64 e.c.who, .slice ca.Ak e.c.key.length ca.ck, .slice ca.Av e.c.val.length ca.cv, .slice ca.Ao e.c.old.length ca.co]) := Lib.hid (fun q v hv => by
    rw [HV.out.1.cell]
    match q with
    | 0 => simpa using hv
    | 1 => simpa using hv
    | 2 => simpa using hv
    | 3 => simpa using hv
    | 4 => simpa using hv
    | q + 5 => simp at hv)
  refine region_T (n := 8) (S := fun w' => Below wz.heap.size wz w') (by kernel_rfl) ?_
  have hS0 : Below wz.heap.size wz wz.drew := (Below.refl _ _).drew
  generalize wz.drew = w4 at hS0 ⊢
  have hS := Lib.hid hS0
  clear hS0 m1
  refine AnyT.take (i := 0) (v := .pointer (some ⟨g, 0, none⟩)) rfl (by kernel_rfl) (by kernel_rfl) (by kernel_rfl) (by kernel_rfl) (fun _ _ _ h => h) (Or.inl ⟨by kernel_rfl, fun w _ => by go_simp⟩) hS.out ?_
  refine AnyT.take (i := 2) (v := .pointer (some ⟨g, 1, none⟩)) rfl (by kernel_rfl) (by kernel_rfl) (by kernel_rfl) (by kernel_rfl) (fun _ _ _ h => h) (Or.inl ⟨by kernel_rfl, fun w _ => by go_simp⟩) hS.out ?_
  refine AnyT.take (i := 4) (v := .pointer (some ⟨g, 2, none⟩)) rfl (by kernel_rfl) (by kernel_rfl) (by kernel_rfl) (by kernel_rfl) (fun _ _ _ h => h) (Or.inl ⟨by kernel_rfl, fun w _ => by go_simp⟩) hS.out ?_
  refine AnyT.take (i := 1) (v := .int .i64 e.s) rfl (by kernel_rfl) (by kernel_rfl) (by kernel_rfl) (by kernel_rfl) (fun _ _ _ h => h) (Or.inl ⟨by kernel_rfl, fun w h => by have q := (Below.cell h (p := ⟨g, 0, none⟩) HV.out.1.lt).trans (HV.out.1.cell 0); go_simp⟩) hS.out ?_
  refine AnyT.take (i := 3) (v := .int .i64 e.q) rfl (by kernel_rfl) (by kernel_rfl) (by kernel_rfl) (by kernel_rfl) (fun _ _ _ h => h) (Or.inl ⟨by kernel_rfl, fun w h => by have q := (Below.cell h (p := ⟨g, 1, none⟩) HV.out.1.lt).trans (HV.out.1.cell 1); go_simp⟩) hS.out ?_
  refine AnyT.take (i := 5) (v := .agg #[.int .i64 e.c.kind, .int .i64 e.c.who, .slice ca.Ak e.c.key.length ca.ck, .slice ca.Av e.c.val.length ca.cv, .slice ca.Ao e.c.old.length ca.co]) rfl (by kernel_rfl) (by kernel_rfl) (by kernel_rfl) (by kernel_rfl) (fun _ _ _ h => h) (yieldsIf_load_mid (by kernel_rfl) 25 (.tmp 7) rfl g 2 rfl [.int .i64 e.c.kind, .int .i64 e.c.who, .slice ca.Ak e.c.key.length ca.ck, .slice ca.Av e.c.val.length ca.cv, .slice ca.Ao e.c.old.length ca.co] _ (fun w h => fun q v hv => (Below.cell h (p := ⟨g, 2 + q, none⟩) HV.out.1.lt).trans (HRG.out q v hv)) Try.underlying25 rfl (by kernel_rfl)) hS.out ?_
  refine AnyT.ready (rs := [6]) (by kernel_rfl) (by simp) ?_
  refine AllT.cons rfl (fun K hK => ?_) AllT.nil
  go_simp
  refine (cmdA_any (W := wz) HF.out (HR.out.below hS.out) hS.out).mono ?_
  rintro en w5 ⟨cb, rfl, ho5, hB5, hb5⟩
  have hS := Lib.hid (hS.out.trans (hb5.mono hS.out.size))
  go_simp
  refine hK.out _ _ (Or.inr (hS.out)) (fun _ => ?_)
  clear hK K
  refine AnyT.take (i := 7) (v := .agg #[.int .i64 e.s, .int .i64 e.q, .int .i64 e.c.kind, .int .i64 e.c.who, .slice cb.Ak e.c.key.length cb.ck, .slice cb.Av e.c.val.length cb.cv, .slice cb.Ao e.c.old.length cb.co]) rfl (by kernel_rfl) (by kernel_rfl) (by kernel_rfl) (by kernel_rfl) (fun _ _ _ h => h) (Or.inl ⟨by kernel_rfl, fun w _ => by go_simp⟩) hS.out ?_
  refine AnyT.ready (rs := [8]) (by kernel_rfl) (by simp) ?_
  refine AllT.cons rfl (fun K hK => ?_) AllT.nil
  have HK := Lib.hid (HV.out.2.below hS.out)
  refine wp_store_row 27 (.tmp 2) (.tmp 10) rfl (g + 1) #[.int .i64 e.s, .int .i64 e.q, .int .i64 e.c.kind, .int .i64 e.c.who, .slice cb.Ak e.c.key.length cb.ck, .slice cb.Av e.c.val.length cb.cv, .slice cb.Ao e.c.old.length cb.co] rfl rfl 27 #[.int .i64 0, .int .i64 0, .int .i64 0, .int .i64 0, .slice none 0 0, .slice none 0 0, .slice none 0 0] HK.out (by kernel_rfl) rfl (by kernel_rfl) ?_
  refine hK.out _ _ (Or.inl rfl) (fun _ => ?_)
  clear hK K
  refine AnyT.done (by kernel_rfl) ?_ _
  go_wp2_with fail
  refine bodyPost_ret (results_cell_row rfl _ _ _ _ _ _ _ rfl (Blk.row HK.out #[.int .i64 e.s, .int .i64 e.q, .int .i64 e.c.kind, .int .i64 e.c.who, .slice cb.Ak e.c.key.length cb.ck, .slice cb.Av e.c.val.length cb.cv, .slice cb.Ao e.c.old.length cb.co]) Try.underlying27 rfl (by kernel_rfl)) rfl ?_
  have hwb : w.heap.size ≤ g + 1 := by have := HG.out; omega
  have hw : Below w.heap.size w w5 := HBZ.out.trans (hS.out.mono HBZ.out.size)
  have h3 := below_setRow hw hwb #[.int .i64 e.s, .int .i64 e.q, .int .i64 e.c.kind, .int .i64 e.c.who, .slice cb.Ak e.c.key.length cb.ck, .slice cb.Av e.c.val.length cb.cv, .slice cb.Ao e.c.old.length cb.co]
  exact ⟨cb, rfl, ⟨more_ HBZ.out.size (own_row_t ho5.k HK.out (by decide)), more_ HBZ.out.size (own_row_t ho5.v HK.out (by decide)), more_ HBZ.out.size (own_row_t ho5.o HK.out (by decide))⟩, h3, h3⟩
theorem entA_any {W w : World} {ca : CA} {e : En} {B : Nat} (hf : e.c.Fits) (hr : RdC w B ca e.c) (hB : Below W.heap.size W w) : Calls Try.prog 25 #[.agg (entC ca e)] w (GotEn W w e) :=
  (entA_raw w hf hr).mono fun e w' ⟨ca, h1, h2, h3, h4⟩ => ⟨ca, h1, h2.of9 hB.size, hB.trans (h3.mono hB.size), h4⟩
end Go.Proofs.Ytbgagmpifaakgaa

