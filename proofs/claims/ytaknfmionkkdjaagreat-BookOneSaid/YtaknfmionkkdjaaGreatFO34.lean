/- MachRefG ObjsCopied -/
import Derived.Test.YtaknfmionkkdjaaGreatFO04
import Derived.Test.YtaknfmionkkdjaaGreatFO15
import Derived.Test.YtaknfmionkkdjaaGreatFO20
import Derived.Test.YtaknfmionkkdjaaGreatFO22
import Derived.Test.YtaknfmionkkdjaaGreatFO24
import Derived.Test.YtaknfmionkkdjaaGreatFO25
import Derived.Test.YtaknfmionkkdjaaGreatFO33
import Derived.Deep.RegionHeld3
namespace Go.Proofs.YtaknfmionkkdjaaGreat
open Go.RowKit
set_option linter.unusedVariables false
/-- a command of the call's own -/
structure OwnC (W w : World) (a : CA) (c : Cm) : Prop where
  k : OwnB W w a.Ak c.key.length a.ck c.key
  v : OwnB W w a.Av c.val.length a.cv c.val
  o : OwnB W w a.Ao c.old.length a.co c.old
theorem OwnC.rd {W w : World} {a : CA} {c : Cm} (h : OwnC W w a c) : RdC w w.heap.size a c := ⟨Rd.own_ h.k, Rd.own_ h.v, Rd.own_ h.o⟩
end Go.Proofs.YtaknfmionkkdjaaGreat

namespace Go.Proofs.YtaknfmionkkdjaaGreat
open Go.RowKit
set_option linter.unusedVariables false
/-- objects of the call's own -/
def GotObj (W w : World) (s : Ob) (e : Ending) (w' : World) : Prop := ∃ a, e = .returned (objV a s) ∧ OwnO W w' a s ∧ Below W.heap.size W w' ∧ Below w.heap.size w w'
set_option maxHeartbeats 4000000 in
set_option maxRecDepth 100000 in
theorem copied8_raw {w : World} {a : OA} {s : Ob} {B : Nat} (hI : s.Inv) (h : RdO w B a s) : Calls Tryz.prog 61 #[objV a s] w (GotObj w w s) := by
  obtain ⟨A0, c0, A1, c1, A2, c2, A3, c3⟩ := a
  obtain ⟨g, hg⟩ : ∃ g, w.heap.size = g := ⟨_, rfl⟩
  obtain ⟨wz, hwz⟩ : ∃ wz, (w.alloc (.cells (objC ⟨A0, c0, A1, c1, A2, c2, A3, c3⟩ s) 30)).alloc (.cells #[.slice none 0 0, .slice none 0 0, .slice none 0 0, .slice none 0 0] 30) = wz := ⟨_, rfl⟩
  have hbz : Below w.heap.size w wz := by rw [← hwz]; exact ((Below.refl _ _).alloc (Nat.le_refl _) _).alloc (by simp) _
  have H := Lib.hid ((h.fit.below hbz).fit)
  have HI := Lib.hid hI
  have HBZ := Lib.hid hbz
  have HW := Lib.hid hwz
  have HG := Lib.hid hg
  have HV : Hid (Blk wz g 30 (objC ⟨A0, c0, A1, c1, A2, c2, A3, c3⟩ s) ∧ Blk wz (g + 1) 30 #[.slice none 0 0, .slice none 0 0, .slice none 0 0, .slice none 0 0]) := Lib.hid (by
    subst hg
    rw [← hwz]
    refine ⟨(Blk.new _ _ _).alloc _, ?_⟩
    have := Blk.new (w.alloc (.cells (objC ⟨A0, c0, A1, c1, A2, c2, A3, c3⟩ s) 30)) 30 #[.slice none 0 0, .slice none 0 0, .slice none 0 0, .slice none 0 0]
    rwa [World.size_alloc] at this)
  have hLr : Lim 0 s.reg.length := by have := hI.reg; unfold Lim; omega
  have hLqn : s.q.length ≤ 100000 := by have := hI.ql; omega
  have hLq : LimL s.q := fun l hl => by have := hI.qv l hl; unfold Lim; omega
  have hll : s.lk.length ≤ 100000 := by have := hI.lkl; omega
  have hLmn : s.mp.length ≤ 100000 := by have := hI.mp.few; omega
  have hLm : LimP s.mp := fun p hp => by have := hI.mp.len p hp; unfold Lim; exact ⟨by omega, by omega⟩
  have HLr := Lib.hid hLr
  have HLqn := Lib.hid hLqn
  have HLq := Lib.hid hLq
  have Hll := Lib.hid hll
  have HLmn := Lib.hid hLmn
  have HLm := Lib.hid hLm
  clear hbz h hI hwz hg hLr hLqn hLq hll hLmn hLm
  unfold objV
  simp only [objC] at HW ⊢
  go_enter Tryz.func61, Tryz.ntmps61
  go_upto_region 1 with fail
  rw [HG.out]
  rw [HW.out]
  refine region_T (n := 13) (S := fun w' => Below wz.heap.size wz w') (by kernel_rfl) ?_
  have hS0 : Below wz.heap.size wz wz.drew := (Below.refl _ _).drew
  generalize wz.drew = w4 at hS0 ⊢
  have hS := Lib.hid hS0
  clear hS0
  refine AnyT.take (i := 0) (v := .pointer (some ⟨g, 0, none⟩)) rfl (by kernel_rfl) (by kernel_rfl) (by kernel_rfl) (by kernel_rfl) (fun _ _ _ h => h) (Or.inl ⟨by kernel_rfl, fun w _ => by go_simp⟩) hS.out ?_
  refine AnyT.take (i := 3) (v := .pointer (some ⟨g, 1, none⟩)) rfl (by kernel_rfl) (by kernel_rfl) (by kernel_rfl) (by kernel_rfl) (fun _ _ _ h => h) (Or.inl ⟨by kernel_rfl, fun w _ => by go_simp⟩) hS.out ?_
  refine AnyT.take (i := 6) (v := .pointer (some ⟨g, 2, none⟩)) rfl (by kernel_rfl) (by kernel_rfl) (by kernel_rfl) (by kernel_rfl) (fun _ _ _ h => h) (Or.inl ⟨by kernel_rfl, fun w _ => by go_simp⟩) hS.out ?_
  refine AnyT.take (i := 9) (v := .pointer (some ⟨g, 3, none⟩)) rfl (by kernel_rfl) (by kernel_rfl) (by kernel_rfl) (by kernel_rfl) (fun _ _ _ h => h) (Or.inl ⟨by kernel_rfl, fun w _ => by go_simp⟩) hS.out ?_
  refine AnyT.take (i := 1) (v := .slice A0 s.reg.length c0) rfl (by kernel_rfl) (by kernel_rfl) (by kernel_rfl) (by kernel_rfl) (fun _ _ _ h => h) (Or.inl ⟨by kernel_rfl, fun w h => by have q := (Below.cell h (p := ⟨g, 0, none⟩) HV.out.1.lt).trans (HV.out.1.cell 0); simp only [objC] at q; go_simp⟩) hS.out ?_
  refine AnyT.take (i := 4) (v := .slice A1 s.q.length c1) rfl (by kernel_rfl) (by kernel_rfl) (by kernel_rfl) (by kernel_rfl) (fun _ _ _ h => h) (Or.inl ⟨by kernel_rfl, fun w h => by have q := (Below.cell h (p := ⟨g, 1, none⟩) HV.out.1.lt).trans (HV.out.1.cell 1); simp only [objC] at q; go_simp⟩) hS.out ?_
  refine AnyT.take (i := 7) (v := .slice A2 s.lk.length c2) rfl (by kernel_rfl) (by kernel_rfl) (by kernel_rfl) (by kernel_rfl) (fun _ _ _ h => h) (Or.inl ⟨by kernel_rfl, fun w h => by have q := (Below.cell h (p := ⟨g, 2, none⟩) HV.out.1.lt).trans (HV.out.1.cell 2); simp only [objC] at q; go_simp⟩) hS.out ?_
  refine AnyT.take (i := 10) (v := .slice A3 s.mp.length c3) rfl (by kernel_rfl) (by kernel_rfl) (by kernel_rfl) (by kernel_rfl) (fun _ _ _ h => h) (Or.inl ⟨by kernel_rfl, fun w h => by have q := (Below.cell h (p := ⟨g, 3, none⟩) HV.out.1.lt).trans (HV.out.1.cell 3); simp only [objC] at q; go_simp⟩) hS.out ?_
  refine AnyT.ready (rs := [2]) (by kernel_rfl) (by simp) ?_
  refine AllT.cons rfl (fun K hK => ?_) AllT.nil
  go_simp
  refine (clone_any (W := wz) (l := s.reg) HLr.out (H.out.r0.below hS.out) hS.out).mono ?_
  rintro e w5 ⟨A5, c5, rfl, ho5, hB5, hb5⟩
  have hS := Lib.hid (hS.out.trans (hb5.mono hS.out.size))
  go_simp
  refine hK.out _ _ (Or.inr (hS.out)) (fun _ => ?_)
  clear hK K
  refine AnyT.ready (rs := [5]) (by kernel_rfl) (by simp) ?_
  refine AllT.cons rfl (fun K hK => ?_) AllT.nil
  go_simp
  refine (eachQ_any (W := wz) (qs := s.q) HLqn.out HLq.out (H.out.r1.below hS.out) hS.out).mono ?_
  rintro e w6 ⟨A6, c6, rfl, ho6, hB6, hb6⟩
  have hS := Lib.hid (hS.out.trans (hb6.mono hS.out.size))
  have ho5 := own_below ho5 hb6
  go_simp
  refine hK.out _ _ (Or.inr (hS.out)) (fun _ => ?_)
  clear hK K
  refine AnyT.ready (rs := [8]) (by kernel_rfl) (by simp) ?_
  refine AllT.cons rfl (fun K hK => ?_) AllT.nil
  go_simp
  refine (cloneI_any (W := wz) (zs := s.lk) Hll.out (H.out.r2.below hS.out) hS.out).mono ?_
  rintro e w7 ⟨A7, c7, rfl, ho7, hB7, hb7⟩
  have hS := Lib.hid (hS.out.trans (hb7.mono hS.out.size))
  have ho5 := own_below ho5 hb7
  have ho6 := ho6.below hb7
  go_simp
  refine hK.out _ _ (Or.inr (hS.out)) (fun _ => ?_)
  clear hK K
  refine AnyT.ready (rs := [11]) (by kernel_rfl) (by simp) ?_
  refine AllT.cons rfl (fun K hK => ?_) AllT.nil
  go_simp
  refine (eachP_any (W := wz) (ps := s.mp) HLmn.out HLm.out (H.out.r3.below hS.out) hS.out).mono ?_
  rintro e w8 ⟨A8, c8, rfl, ho8, hB8, hb8⟩
  have hS := Lib.hid (hS.out.trans (hb8.mono hS.out.size))
  have ho5 := own_below ho5 hb8
  have ho6 := ho6.below hb8
  have ho7 := ownsRow_below ho7 hb8
  have HK := Lib.hid (HV.out.2.below hS.out)
  obtain ⟨x0, x1, x2, x3, f0, f1, f2, f3⟩ := four HK.out
  go_simp
  refine hK.out _ _ (Or.inr (hS.out)) (fun _ => ?_)
  clear hK K
  refine AnyT.take (i := 12) (v := .agg #[.slice A5 s.reg.length c5, .slice A6 s.q.length c6, .slice A7 s.lk.length c7, .slice A8 s.mp.length c8]) rfl (by kernel_rfl) (by kernel_rfl) (by kernel_rfl) (by kernel_rfl) (fun _ _ _ h => h) (Or.inl ⟨by kernel_rfl, fun w _ => by go_simp⟩) hS.out ?_
  refine AnyT.ready (rs := [13]) (by kernel_rfl) (by simp) ?_
  refine AllT.cons rfl (fun K hK => ?_) AllT.nil
  go_simp
  refine hK.out _ _ (Or.inl rfl) (fun _ => ?_)
  clear hK K
  refine AnyT.done (by kernel_rfl) ?_ _
  go_wp2_with fail
  have k1 := HK.out.set_ 0 (.slice A5 s.reg.length c5)
  have k2 := k1.set_ 1 (.slice A6 s.q.length c6)
  have k3 := k2.set_ 2 (.slice A7 s.lk.length c7)
  have k4 := k3.set_ 3 (.slice A8 s.mp.length c8)
  refine bodyPost_ret (results_cell_row rfl _ _ _ _ _ _ _ rfl k4 Tryz.underlying30 rfl (by kernel_rfl)) rfl ?_
  have q1 : 5 ≠ 30 := by decide
  have q2 : 26 ≠ 30 := by decide
  have q3 : 3 ≠ 30 := by decide
  have q4 : 55 ≠ 30 := by decide
  have ho : OwnO wz w8 ⟨A5, c5, A6, c6, A7, c7, A8, c8⟩ s := ⟨ho5, ho6, ho7, ho8⟩
  have hwb : w.heap.size ≤ g + 1 := by have := HG.out; omega
  have hw : Below w.heap.size w w8 := HBZ.out.trans (hS.out.mono HBZ.out.size)
  have h3 : Below w.heap.size w ((((w8.setCell ⟨g + 1, 0, none⟩ (.slice A5 s.reg.length c5)).setCell ⟨g + 1, 1, none⟩ (.slice A6 s.q.length c6)).setCell ⟨g + 1, 2, none⟩ (.slice A7 s.lk.length c7)).setCell ⟨g + 1, 3, none⟩ (.slice A8 s.mp.length c8)) := (((hw.setCell (p := ⟨g + 1, 0, none⟩) hwb _).setCell (p := ⟨g + 1, 1, none⟩) hwb _).setCell (p := ⟨g + 1, 2, none⟩) hwb _).setCell (p := ⟨g + 1, 3, none⟩) hwb _
  exact ⟨⟨A5, c5, A6, c6, A7, c7, A8, c8⟩, rfl, ((((ho.set_t HK.out q1 q2 q3 q4).set_t k1 q1 q2 q3 q4).set_t k2 q1 q2 q3 q4).set_t k3 q1 q2 q3 q4).of HBZ.out.size, h3, h3⟩
theorem copied8 {W w : World} {a : OA} {s : Ob} {B : Nat} (hI : s.Inv) (h : RdO w B a s) (hB : Below W.heap.size W w) : Calls Tryz.prog 61 #[objV a s] w (GotObj W w s) :=
  (copied8_raw hI h).mono fun e w' ⟨a, h1, h2, h3, h4⟩ => ⟨a, h1, h2.of hB.size, hB.trans (h3.mono hB.size), h4⟩
end Go.Proofs.YtaknfmionkkdjaaGreat

