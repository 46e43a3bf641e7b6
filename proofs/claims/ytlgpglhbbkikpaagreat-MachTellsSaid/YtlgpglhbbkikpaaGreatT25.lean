/- MachStep MachEncode MachGet2 MachChk MachChk2 -/
import Derived.Test.YtlgpglhbbkikpaaGreatT0H
import Derived.Test.YtlgpglhbbkikpaaGreatT00
import Derived.Test.YtlgpglhbbkikpaaGreatT09
import Derived.Test.YtlgpglhbbkikpaaGreatT10
import Derived.Test.YtlgpglhbbkikpaaGreatT11
import Derived.Test.YtlgpglhbbkikpaaGreatT13
import Derived.Test.YtlgpglhbbkikpaaGreatT16
import Derived.Test.YtlgpglhbbkikpaaGreatT21
import Derived.Test.YtlgpglhbbkikpaaGreatT22
import Derived.Test.YtlgpglhbbkikpaaGreatT23
import Derived.Test.YtlgpglhbbkikpaaGreatT24
import Derived.Deep.RegionHeld3
import Derived.Deep.RegionLaw
namespace Go.Proofs.YtlgpglhbbkikpaaGreat
open Go.RowKit
set_option linter.unusedVariables false
set_option maxHeartbeats 4000000 in
set_option maxRecDepth 100000 in
theorem step_raw {w : World} {a : MA} {ca : CA} {m : Mc} {e : En} {B B' : Nat} (hM : m.Ok) (hc : e.c.Fits) (h : RdM w B a m) (h' : RdC w B' ca e.c) :
 Calls Tryz.prog 6 #[machV a m, entV ca e] w (GotM w w (m.step e)) := by
 obtain ⟨⟨A0, c0, A1, c1, A2, c2, A3, c3⟩, At, ct⟩ := a
 obtain ⟨Ak, ck, Av, cv, Ao, co⟩ := ca
 have HV := zH (VarsM.start (e := e) h h')
 have HM := zH hM
 have HC := zH hc
 have hct : m.t.length <= ct := h.lt
 clear h h' hM hc
 unfold machV entV
 simp only [machC, entC] at HV |-
 obtain ⟨K, hK⟩ : ∃ K, Tb.look m.t e.s e.q = K := ⟨_, rfl⟩
 have HLK := zH (fun (W w : World) (B : Nat) (h : RdL w B At m.t.length m.t) (hB : Below W.heap.size W w) => look9 (W := W) (c := ct) e.s e.q HM.out.t hct h hB)
 rw [hK] at HLK
 by_cases hk : K.k = 0
 · have hkb : (K.k != 0) = false := by simpa using hk
   obtain ⟨r, hr⟩ : ∃ r, m.o.apply e.c = r := ⟨_, rfl⟩
   have HST : Hid (m.step e = ⟨⟨r.s, Tb.put m.t ⟨e.s, e.q, r.e, r.v, r.n⟩⟩, r.e, r.v, r.n⟩) := zH (by unfold Mc.step; rw [hK, if_pos hk, hr])
   have HRB : Hid (∀ x ∈ r.v, x < 256) := zH (by rw [<- hr]; exact Ob.apply_vb HM.out.o)
   have HNM : Hid (Tb.named e.s e.q) := zH (by
    unfold Tb.look at hK
    split at hK
    · assumption
    · rw [<- hK] at hk; simp at hk)
   have HRV : Hid (r.v.length <= 16) := zH (by rw [<- hr]; exact (Ob.apply_fits (c := e.c) HM.out.o HM.out.lk).v)
   have HAP := zH (fun (W w : World) (a : OA) (ca : CA) (B B' : Nat) (h : RdO w B a m.o) (h' : RdC w B' ca e.c) (hB : Below W.heap.size W w) => apply8 (W := W) HM.out.o HC.out h h' hB)
   rw [hr] at HAP
   clear hK hk hr
   go_enter Tryz.func6, Tryz.ntmps6
   go_upto_region 1 with fail
   generalize ((((w.alloc (.cells #[.slice A0 m.o.reg.length c0, .slice A1 m.o.q.length c1, .slice A2 m.o.lk.length c2, .slice A3 m.o.mp.length c3, .slice At m.t.length ct] 36)).alloc (.cells #[.int .i64 e.s, .int .i64 e.q, .int .i64 e.c.kind, .int .i64 e.c.who, .slice Ak e.c.key.length ck, .slice Av e.c.val.length cv, .slice Ao e.c.old.length co] 29)).alloc (.cells #[.slice none 0 0, .slice none 0 0, .slice none 0 0, .slice none 0 0, .slice none 0 0] 36)).alloc (.cells #[.int .i64 0, .slice none 0 0, .int .i64 0] 41)) = wa at HV |-
   obtain ⟨⟨x0, x1, x2, x3, x4⟩, ⟨y0, y1, y2, y3, y4, y5, y6⟩, _⟩ := HV.out.cells
   go_upto_region 5 with (first
    | (go_at_call 24; refine (HLK.out w _ _ HV.out.rm.t HV.out.bel).mono ?_; rintro en w1 ⟨A5, c5, rfl, ho1, hB1, hb1⟩; unfold resV; have HG1 := zH (HV.out.below hb1).v3.lt; have hb1' := hb1.alloc hb1.size (.cells #[.int .i64 K.e, .slice A5 K.v.length c5, .int .i64 K.n] 41); have HV1 := zH (HV.out.below hb1'); have HK1 := zH (Blk.new w1 41 #[.int .i64 K.e, .slice A5 K.v.length c5, .int .i64 K.n]); obtain ⟨⟨x0, x1, x2, x3, x4⟩, ⟨y0, y1, y2, y3, y4, y5, y6⟩, _⟩ := HV1.out.cells)
    | (go_at_call 26; refine (HAP.out w _ ⟨A0, c0, A1, c1, A2, c2, A3, c3⟩ ⟨Ak, ck, Av, cv, Ao, co⟩ _ _ HV1.out.rm.o HV1.out.rc HV1.out.bel).mono ?_; rintro en w2 ⟨a2, A6, c6, rfl, ho2, hv2, hB2, hb2⟩; unfold resV objV objC; have hb2' := hb2.alloc hb2.size (.cells #[.slice a2.A0 r.s.reg.length a2.c0, .slice a2.A1 r.s.q.length a2.c1, .slice a2.A2 r.s.lk.length a2.c2, .slice a2.A3 r.s.mp.length a2.c3] 33); have HG2 := zH (HK1.out.below hb2).lt; have HV2 := zH (HV1.out.below hb2'); have HK2 := zH (HK1.out.below hb2'); have HQ2 := zH (Blk.new w2 33 #[.slice a2.A0 r.s.reg.length a2.c0, .slice a2.A1 r.s.q.length a2.c1, .slice a2.A2 r.s.lk.length a2.c2, .slice a2.A3 r.s.mp.length a2.c3]); have HO2 := zH (ho2.below ((Below.refl _ _).alloc lR (.cells #[.slice a2.A0 r.s.reg.length a2.c0, .slice a2.A1 r.s.q.length a2.c1, .slice a2.A2 r.s.lk.length a2.c2, .slice a2.A3 r.s.mp.length a2.c3] 33))); have HR2 := zH (own_below hv2 ((Below.refl _ _).alloc lR (.cells #[.slice a2.A0 r.s.reg.length a2.c0, .slice a2.A1 r.s.q.length a2.c1, .slice a2.A2 r.s.lk.length a2.c2, .slice a2.A3 r.s.mp.length a2.c3] 33))); obtain ⟨k0, k1, k2, f0, f1, f2⟩ := three HK2.out; clear hb2' hb2 ho2 hv2 hB2)
    | fail)
   have hg1 := HG1.out
   have hg2 := HG2.out
   obtain ⟨p1, p2, p3⟩ := put3 HK2.out (.int .i64 r.e) (.slice A6 r.v.length c6) (.int .i64 r.n)
   have HV6 := zH (((HV2.out.set lR hg1 (i := 0) (u := .int .i64 r.e)).set lR hg1 (i := 1) (u := .slice A6 r.v.length c6)).set lR hg1 (i := 2) (u := .int .i64 r.n))
   have HQ6 := zH (((HQ2.out.set_other (b := w1.heap.size) (i := 0) (u := .int .i64 r.e) (by omega)).set_other (b := w1.heap.size) (i := 1) (u := .slice A6 r.v.length c6) (by omega)).set_other (b := w1.heap.size) (i := 2) (u := .int .i64 r.n) (by omega))
   have HK6 := zH p1
   have HR6 := zH (p3 _ _ _ _ _ _ HR2.out (by decide))
   have HO6 := zH (((HO2.out.set_t HK2.out (i := 0) (u := .int .i64 r.e) (by decide) (by decide) (by decide) (by decide)).set_t (HK2.out.set_ _ _) (i := 1) (u := .slice A6 r.v.length c6) (by decide) (by decide) (by decide) (by decide)).set_t ((HK2.out.set_ _ _).set_ _ _) (i := 2) (u := .int .i64 r.n) (by decide) (by decide) (by decide) (by decide))
   clear p1 p2 p3 HV2 HQ2 HK2 HO2 HR2 HG1 HG2 HV1 HK1 HV x0 x1 x2 x3 x4 y0 y1 y2 y3 y4 y5 y6 k0 k1 k2 f0 f1 f2 HAP HLK
   generalize ((((w2.alloc (.cells #[.slice a2.A0 r.s.reg.length a2.c0, .slice a2.A1 r.s.q.length a2.c1, .slice a2.A2 r.s.lk.length a2.c2, .slice a2.A3 r.s.mp.length a2.c3] 33)).setCell ⟨w1.heap.size, 0, none⟩ (.int .i64 r.e)).setCell ⟨w1.heap.size, 1, none⟩ (.slice A6 r.v.length c6)).setCell ⟨w1.heap.size, 2, none⟩ (.int .i64 r.n)) = wx at HV6 HQ6 HK6 HR6 HO6 |-
   have HP := zH (fun (W w : World) (B B' : Nat) (h : RdL w B At m.t.length m.t) (h' : Rd w B' A6 r.v.length (bv r.v)) (hB : Below W.heap.size W w) => put9 (W := W) (l := ⟨e.s, e.q, r.e, r.v, r.n⟩) (c := ct) (c' := c6) HM.out.t HNM.out HRV.out HRB.out hct h h' hB)
   have hbd : Below wx.heap.size wx wx.drew := (Below.refl _ _).drew
   have HV7 := zH (HV6.out.below hbd)
   have HR7 := zH (own_below HR6.out hbd)
   have HO7 := zH (HO6.out.below hbd)
   have HS7 : Hid (SM w.heap.size w1.heap.size w2.heap.size #[.slice A0 m.o.reg.length c0, .slice A1 m.o.q.length c1, .slice A2 m.o.lk.length c2, .slice A3 m.o.mp.length c3, .slice At m.t.length ct] #[.int .i64 e.s, .int .i64 e.q, .int .i64 e.c.kind, .int .i64 e.c.who, .slice Ak e.c.key.length ck, .slice Av e.c.val.length cv, .slice Ao e.c.old.length co] #[.int .i64 r.e, .slice A6 r.v.length c6, .int .i64 r.n] #[.slice a2.A0 r.s.reg.length a2.c0, .slice a2.A1 r.s.q.length a2.c1, .slice a2.A2 r.s.lk.length a2.c2, .slice a2.A3 r.s.mp.length a2.c3] wx.drew) := zH ⟨HV7.out.v0, HV7.out.v1, HK6.out.below hbd, HQ6.out.below hbd⟩
   refine wp_region_held_drew (S := SM w.heap.size w1.heap.size w2.heap.size #[.slice A0 m.o.reg.length c0, .slice A1 m.o.q.length c1, .slice A2 m.o.lk.length c2, .slice A3 m.o.mp.length c3, .slice At m.t.length ct] #[.int .i64 e.s, .int .i64 e.q, .int .i64 e.c.kind, .int .i64 e.c.who, .slice Ak e.c.key.length ck, .slice Av e.c.val.length cv, .slice Ao e.c.old.length co] #[.int .i64 r.e, .slice A6 r.v.length c6, .int .i64 r.n] #[.slice a2.A0 r.s.reg.length a2.c0, .slice a2.A1 r.s.q.length a2.c1, .slice a2.A2 r.s.lk.length a2.c2, .slice a2.A3 r.s.mp.length a2.c3]) (by kernel_rfl) HS7.out (fun _ => ?_)
   clear hbd HV6 HR6 HO6 HK6 HQ6
   generalize wx.drew = wd at HV7 HR7 HO7 HS7 |-
   refine tkL (i := 1) (v := .pointer (some ⟨w.heap.size, 4, none⟩)) rfl (fun w _ => by go_simp) HS7.out ?_
   refine tkL (i := 3) (v := .pointer (some ⟨w.heap.size + 1, 0, none⟩)) rfl (fun w _ => by go_simp) HS7.out ?_
   refine tkL (i := 5) (v := .pointer (some ⟨w.heap.size + 1, 1, none⟩)) rfl (fun w _ => by go_simp) HS7.out ?_
   refine tkL (i := 0) (v := .agg #[.slice a2.A0 r.s.reg.length a2.c0, .slice a2.A1 r.s.q.length a2.c1, .slice a2.A2 r.s.lk.length a2.c2, .slice a2.A3 r.s.mp.length a2.c3]) rfl (fun w h => by obtain ⟨q0, q1, q2, q3, _⟩ := four h.2.2.2; go_simp) HS7.out ?_
   refine tkL (i := 2) (v := .slice At m.t.length ct) rfl (fun w h => by obtain ⟨q0, q1, q2, q3, q4⟩ := five h.1; go_simp) HS7.out ?_
   refine tkL (i := 4) (v := .int .i64 e.s) rfl (fun w h => by obtain ⟨q0, q1, q2, q3, q4, q5, q6⟩ := seven h.2.1; go_simp) HS7.out ?_
   refine tkL (i := 6) (v := .int .i64 e.q) rfl (fun w h => by obtain ⟨q0, q1, q2, q3, q4, q5, q6⟩ := seven h.2.1; go_simp) HS7.out ?_
   refine tkL (i := 7) (v := .agg #[.int .i64 r.e, .slice A6 r.v.length c6, .int .i64 r.n]) rfl (fun w h => by obtain ⟨q0, q1, q2, _, _, _⟩ := three h.2.2.1; go_simp) HS7.out ?_
   refine tkL (i := 10) (v := .agg #[.int .i64 r.e, .slice A6 r.v.length c6, .int .i64 r.n]) rfl (fun w h => by obtain ⟨q0, q1, q2, _, _, _⟩ := three h.2.2.1; go_simp) HS7.out ?_
   refine rdH (rs := [8]) ?_
   refine AllReadyH.cons rfl (fun K hK => ?_) AllReadyH.nil
   go_simp
   refine (HP.out w _ _ _ HV7.out.rm.t (Rd.own_ HR7.out) HV7.out.bel).mono ?_
   rintro en w3 ⟨A7, c7, rfl, ho7, hB7, hb7⟩
   have HK8 := zH (HS7.out.2.2.1.below hb7)
   have HV8 := zH (HV7.out.below hb7)
   have HR8 := zH (own_below HR7.out hb7)
   have HO8 := zH (HO7.out.below hb7)
   have HS8 := zH (HS7.out.below hb7)
   clear HV7 HR7 HO7 HS7
   go_simp
   refine hK.out _ _ HS8.out (fun _ => ?_)
   clear hK K
   refine tkL (i := 9) (v := .agg #[.slice a2.A0 r.s.reg.length a2.c0, .slice a2.A1 r.s.q.length a2.c1, .slice a2.A2 r.s.lk.length a2.c2, .slice a2.A3 r.s.mp.length a2.c3, .slice A7 (Tb.put m.t ⟨e.s, e.q, r.e, r.v, r.n⟩).length c7]) rfl (fun w _ => by go_simp) HS8.out ?_
   have l1 := HK8.out.lt
   have HS9 := zH (HS8.out.set5 (k := w.heap.size + 1 + 1) (u0 := .slice a2.A0 r.s.reg.length a2.c0) (u1 := .slice a2.A1 r.s.q.length a2.c1) (u2 := .slice a2.A2 r.s.lk.length a2.c2) (u3 := .slice a2.A3 r.s.mp.length a2.c3) (u4 := .slice A7 (Tb.put m.t ⟨e.s, e.q, r.e, r.v, r.n⟩).length c7) (by omega) (by omega) (by omega) (by omega))
   obtain ⟨_, _, _, _, k5⟩ := put5 HV8.out.v2 (.slice a2.A0 r.s.reg.length a2.c0) (.slice a2.A1 r.s.q.length a2.c1) (.slice a2.A2 r.s.lk.length a2.c2) (.slice a2.A3 r.s.mp.length a2.c3) (.slice A7 (Tb.put m.t ⟨e.s, e.q, r.e, r.v, r.n⟩).length c7)
   have l0 := k5 (w.heap.size + 1 + 1 + 1) _ _ (by omega) HV8.out.v3
   have HS10 := zH (HS9.out.set3 (k := w.heap.size + 1 + 1 + 1) (u0 := .int .i64 r.e) (u1 := .slice A6 r.v.length c6) (u2 := .int .i64 r.n) (by omega) (by omega) (by omega) (by omega))
   obtain ⟨e1, e2, e3⟩ := HV8.out.end_ lR (r := ⟨⟨r.s, Tb.put m.t ⟨e.s, e.q, r.e, r.v, r.n⟩⟩, r.e, r.v, r.n⟩) (a' := ⟨a2, A7, c7⟩) ⟨HO8.out, ho7⟩ HR8.out (.slice a2.A0 r.s.reg.length a2.c0) (.slice a2.A1 r.s.q.length a2.c1) (.slice a2.A2 r.s.lk.length a2.c2) (.slice a2.A3 r.s.mp.length a2.c3) (.slice A7 (Tb.put m.t ⟨e.s, e.q, r.e, r.v, r.n⟩).length c7) (.int .i64 r.e) (.slice A6 r.v.length c6) (.int .i64 r.n) rfl rfl rfl
   have HE := zH (And.intro e1 (And.intro e2 e3))
   obtain ⟨_, _, ⟨z0, z1, z2, z3, z4⟩, ⟨u0, u1, u2⟩, ⟨q0, q1, q2, q3, q4⟩, ⟨r0, r1, r2⟩⟩ := HV8.out.cells
   obtain ⟨p0, p1, p2, d0, d1, d2⟩ := three l0
   clear k5 l0 e1 e2 e3 r0 r1 r2 u0 u1 u2
   refine rdH (rs := [11]) ?_
   refine AllReadyH.cons rfl (fun K hK => ?_) AllReadyH.nil
   go_simp
   refine hK.out _ _ HS9.out (fun _ => ?_)
   clear hK K
   clear z0 z1 z2 z3 z4 q0 q1 q2 q3 q4
   generalize (((((w3.setCell ⟨w.heap.size + 1 + 1, 0, none⟩ (.slice a2.A0 r.s.reg.length a2.c0)).setCell ⟨w.heap.size + 1 + 1, 1, none⟩ (.slice a2.A1 r.s.q.length a2.c1)).setCell ⟨w.heap.size + 1 + 1, 2, none⟩ (.slice a2.A2 r.s.lk.length a2.c2)).setCell ⟨w.heap.size + 1 + 1, 3, none⟩ (.slice a2.A3 r.s.mp.length a2.c3)).setCell ⟨w.heap.size + 1 + 1, 4, none⟩ (.slice A7 (Tb.put m.t ⟨e.s, e.q, r.e, r.v, r.n⟩).length c7)) = w9 at HE HS9 HS10 p0 p1 p2 d0 d1 d2 |-
   refine rdH (rs := [12]) ?_
   refine AllReadyH.cons rfl (fun K hK => ?_) AllReadyH.nil
   go_simp
   refine hK.out _ _ HS10.out (fun _ => ?_)
   clear hK K
   refine wpAnyH_done (by kernel_rfl) ?_ _
   go_wp2_with fail
   refine bodyPost_ret (results_cells2 rfl _ _ _ _ _ _ _ _ _ _ rfl rfl HE.out.1 HE.out.2.1 Tryz.underlying36 rfl (by kernel_rfl) Tryz.underlying41 rfl (by kernel_rfl)) rfl ?_
   rw [HST.out]
   exact HE.out.2.2
 · have hkb : (K.k != 0) = true := by simpa using hk
   have HST : Hid (m.step e = ⟨m, K.e, K.v, K.n⟩) := zH (by unfold Mc.step; rw [hK, if_neg hk])
   clear hK hk
   go_enter Tryz.func6, Tryz.ntmps6
   go_upto_region 1 with fail
   generalize ((((w.alloc (.cells #[.slice A0 m.o.reg.length c0, .slice A1 m.o.q.length c1, .slice A2 m.o.lk.length c2, .slice A3 m.o.mp.length c3, .slice At m.t.length ct] 36)).alloc (.cells #[.int .i64 e.s, .int .i64 e.q, .int .i64 e.c.kind, .int .i64 e.c.who, .slice Ak e.c.key.length ck, .slice Av e.c.val.length cv, .slice Ao e.c.old.length co] 29)).alloc (.cells #[.slice none 0 0, .slice none 0 0, .slice none 0 0, .slice none 0 0, .slice none 0 0] 36)).alloc (.cells #[.int .i64 0, .slice none 0 0, .int .i64 0] 41)) = wa at HV |-
   obtain ⟨⟨x0, x1, x2, x3, x4⟩, ⟨y0, y1, y2, y3, y4, y5, y6⟩, _⟩ := HV.out.cells
   go_upto_region 3 with (first
    | (go_at_call 24; refine (HLK.out w _ _ HV.out.rm.t HV.out.bel).mono ?_; rintro en w1 ⟨A5, c5, rfl, ho1, hB1, hb1⟩; unfold resV; have HG1 := zH (HV.out.below hb1).v3.lt; have hb1' := hb1.alloc hb1.size (.cells #[.int .i64 K.e, .slice A5 K.v.length c5, .int .i64 K.n] 41); have HV1 := zH (HV.out.below hb1'); have HK1 := zH (Blk.new w1 41 #[.int .i64 K.e, .slice A5 K.v.length c5, .int .i64 K.n]); have HO1 := zH (own_below ho1 ((Below.refl _ _).alloc lR (.cells #[.int .i64 K.e, .slice A5 K.v.length c5, .int .i64 K.n] 41))); obtain ⟨⟨x0, x1, x2, x3, x4⟩, ⟨y0, y1, y2, y3, y4, y5, y6⟩, _⟩ := HV1.out.cells)
    | fail)
   have hg1 := HG1.out
   clear HV x0 x1 x2 x3 x4 y0 y1 y2 y3 y4 y5 y6 HLK ho1 hB1 hb1 hb1'
   generalize w1.alloc (.cells #[.int .i64 K.e, .slice A5 K.v.length c5, .int .i64 K.n] 41) = wx at HV1 HK1 HO1 |-
   have hbd : Below wx.heap.size wx wx.drew := (Below.refl _ _).drew
   have HV7 := zH (HV1.out.below hbd)
   have HR7 := zH (own_below HO1.out hbd)
   have HS7 : Hid (Blk wx.drew w.heap.size 36 #[.slice A0 m.o.reg.length c0, .slice A1 m.o.q.length c1, .slice A2 m.o.lk.length c2, .slice A3 m.o.mp.length c3, .slice At m.t.length ct] /\ Blk wx.drew w1.heap.size 41 #[.int .i64 K.e, .slice A5 K.v.length c5, .int .i64 K.n]) := zH ⟨HV7.out.v0, HK1.out.below hbd⟩
   refine wp_region_held_drew (S := fun w' => Blk w' w.heap.size 36 #[.slice A0 m.o.reg.length c0, .slice A1 m.o.q.length c1, .slice A2 m.o.lk.length c2, .slice A3 m.o.mp.length c3, .slice At m.t.length ct] /\ Blk w' w1.heap.size 41 #[.int .i64 K.e, .slice A5 K.v.length c5, .int .i64 K.n]) (by kernel_rfl) HS7.out (fun _ => ?_)
   clear hbd HV1 HK1 HO1
   generalize wx.drew = wd at HV7 HR7 HS7 |-
   refine tkL (i := 0) (v := .agg #[.slice A0 m.o.reg.length c0, .slice A1 m.o.q.length c1, .slice A2 m.o.lk.length c2, .slice A3 m.o.mp.length c3, .slice At m.t.length ct]) rfl (fun w h => by obtain ⟨q0, q1, q2, q3, q4⟩ := five h.1; go_simp) HS7.out ?_
   refine tkL (i := 2) (v := .agg #[.int .i64 K.e, .slice A5 K.v.length c5, .int .i64 K.n]) rfl (fun w h => by obtain ⟨q0, q1, q2, _, _, _⟩ := three h.2; go_simp) HS7.out ?_
   refine rdH (rs := [1]) ?_
   refine AllReadyH.cons rfl (fun K hK => ?_) AllReadyH.nil
   go_simp
   refine (machineA_any (W := w) (a := ⟨⟨A0, c0, A1, c1, A2, c2, A3, c3⟩, At, ct⟩) HM.out HV7.out.rm HV7.out.bel).mono ?_
   rintro en w3 ⟨⟨⟨B0, d0, B1, d1, B2, d2, B3, d3⟩, Bt, dt⟩, rfl, ho7, hB7, hb7⟩
   unfold machV machC
   have HV8 := zH (HV7.out.below hb7)
   have HR8 := zH (own_below HR7.out hb7)
   have HS8 := zH (And.intro (HS7.out.1.below hb7) (HS7.out.2.below hb7))
   clear HV7 HR7 HS7
   go_simp
   refine hK.out _ _ HS8.out (fun _ => ?_)
   clear hK K
   have l1 := HS8.out.2.lt
   obtain ⟨_, _, _, _, k5⟩ := put5 HV8.out.v2 (.slice B0 m.o.reg.length d0) (.slice B1 m.o.q.length d1) (.slice B2 m.o.lk.length d2) (.slice B3 m.o.mp.length d3) (.slice Bt m.t.length dt)
   have HS9 := zH (And.intro (k5 _ _ _ (by omega) HS8.out.1) (k5 _ _ _ (by omega) HS8.out.2))
   have l0 := k5 (w.heap.size + 1 + 1 + 1) _ _ (by omega) HV8.out.v3
   have HS10 := zH (And.intro (((HS9.out.1.set_other (i := 0) (u := .int .i64 K.e) (b := w.heap.size + 1 + 1 + 1) (by omega)).set_other (i := 1) (u := .slice A5 K.v.length c5) (b := w.heap.size + 1 + 1 + 1) (by omega)).set_other (i := 2) (u := .int .i64 K.n) (b := w.heap.size + 1 + 1 + 1) (by omega)) (((HS9.out.2.set_other (i := 0) (u := .int .i64 K.e) (b := w.heap.size + 1 + 1 + 1) (by omega)).set_other (i := 1) (u := .slice A5 K.v.length c5) (b := w.heap.size + 1 + 1 + 1) (by omega)).set_other (i := 2) (u := .int .i64 K.n) (b := w.heap.size + 1 + 1 + 1) (by omega)))
   obtain ⟨e1, e2, e3⟩ := HV8.out.end_ lR (r := ⟨m, K.e, K.v, K.n⟩) (a' := ⟨⟨B0, d0, B1, d1, B2, d2, B3, d3⟩, Bt, dt⟩) ho7 HR8.out (.slice B0 m.o.reg.length d0) (.slice B1 m.o.q.length d1) (.slice B2 m.o.lk.length d2) (.slice B3 m.o.mp.length d3) (.slice Bt m.t.length dt) (.int .i64 K.e) (.slice A5 K.v.length c5) (.int .i64 K.n) rfl rfl rfl
   have HE := zH (And.intro e1 (And.intro e2 e3))
   obtain ⟨_, _, ⟨z0, z1, z2, z3, z4⟩, ⟨u0, u1, u2⟩, ⟨q0, q1, q2, q3, q4⟩, ⟨r0, r1, r2⟩⟩ := HV8.out.cells
   obtain ⟨p0, p1, p2, d0', d1', d2'⟩ := three l0
   clear k5 l0 e1 e2 e3 r0 r1 r2 u0 u1 u2
   refine rdH (rs := [3]) ?_
   refine AllReadyH.cons rfl (fun K hK => ?_) AllReadyH.nil
   go_simp
   refine hK.out _ _ HS9.out (fun _ => ?_)
   clear hK K
   clear z0 z1 z2 z3 z4 q0 q1 q2 q3 q4
   generalize (((((w3.setCell ⟨w.heap.size + 1 + 1, 0, none⟩ (.slice B0 m.o.reg.length d0)).setCell ⟨w.heap.size + 1 + 1, 1, none⟩ (.slice B1 m.o.q.length d1)).setCell ⟨w.heap.size + 1 + 1, 2, none⟩ (.slice B2 m.o.lk.length d2)).setCell ⟨w.heap.size + 1 + 1, 3, none⟩ (.slice B3 m.o.mp.length d3)).setCell ⟨w.heap.size + 1 + 1, 4, none⟩ (.slice Bt m.t.length dt)) = w9 at HE HS10 p0 p1 p2 d0' d1' d2' |-
   refine rdH (rs := [4]) ?_
   refine AllReadyH.cons rfl (fun K hK => ?_) AllReadyH.nil
   go_simp
   refine hK.out _ _ HS10.out (fun _ => ?_)
   clear hK K
   refine wpAnyH_done (by kernel_rfl) ?_ _
   go_wp2_with fail
   refine bodyPost_ret (results_cells2 rfl _ _ _ _ _ _ _ _ _ _ rfl rfl HE.out.1 HE.out.2.1 Tryz.underlying36 rfl (by kernel_rfl) Tryz.underlying41 rfl (by kernel_rfl)) rfl ?_
   rw [HST.out]
   exact HE.out.2.2
theorem step10 : StepC10 := fun hM hc h h' hB => (step_raw hM hc h h').mono fun e w' h => GotM.of hB h
set_option maxHeartbeats 4000000 in
set_option maxRecDepth 100000 in
theorem encode_raw {w : World} {a : MA} {m : Mc} {B : Nat} (hM : m.Ok) (h : RdM w B a m) : Calls Tryz.prog 21 #[machV a m] w (GotIn w w m.enc) := by
 obtain ⟨wz, hwz⟩ : ∃ wz, w.alloc (.cells (machC a m) 36) = wz := ⟨_, rfl⟩
 have hbz : Below w.heap.size w wz := by rw [<- hwz]; exact (Below.refl _ _).alloc lR _
 have hkz : Blk wz w.heap.size 36 (machC a m) := by rw [<- hwz]; exact Blk.new _ _ _
 have HR := zH ((h.fit.below hbz).fit)
 have HZ := zH hbz
 have HM := zH hM
 obtain ⟨g, hg⟩ : ∃ g, w.heap.size = g := ⟨_, rfl⟩
 rw [hg] at hkz
 have HF : Hid (∀ wx, Below wz.heap.size wz wx -> Blk wx g 36 (machC a m)) := zH (fun wx hb => hkz.below hb)
 have HW := zH hwz
 have HG := zH hg
 have k1 := encB_length m.o.reg
 have k2 := encQ_length hM.o.qv
 have k3 := Pk.encs_length m.o.lk
 have k4 := encP_length hM.o.mp.len
 have k5 := encN_length m.o.q.length
 have k6 := encN_length m.o.lk.length
 have k7 := encN_length m.o.mp.length
 have k8 := hM.o.reg
 have k9 := hM.o.ql
 have k10 := hM.o.lkl
 have k11 := hM.o.mp.few
 obtain ⟨l1, e1⟩ : ∃ x, Pk.encB m.o.reg = x := ⟨_, rfl⟩
 obtain ⟨l2, e2⟩ : ∃ x, l1 ++ (encN m.o.q.length ++ encQ m.o.q) = x := ⟨_, rfl⟩
 obtain ⟨l3, e3⟩ : ∃ x, l2 ++ (encN m.o.lk.length ++ Pk.encs m.o.lk) = x := ⟨_, rfl⟩
 obtain ⟨l4, e4⟩ : ∃ x, l3 ++ (encN m.o.mp.length ++ encP m.o.mp) = x := ⟨_, rfl⟩
 obtain ⟨l5, e5⟩ : ∃ x, l4 ++ (encN m.t.length ++ encT m.t) = x := ⟨_, rfl⟩
 have hl1 : l1.length <= 100 := by rw [<- e1]; omega
 have hl2 : l2.length <= 1000 := by rw [<- e2]; simp only [List.length_append]; omega
 have hl3 : l3.length <= 2000 := by rw [<- e3]; simp only [List.length_append]; omega
 have hl4 : l4.length <= 3000 := by rw [<- e4]; simp only [List.length_append]; omega
 have hEND : m.enc = l5 := by
  unfold Mc.enc; rw [<- e5, <- e4, <- e3, <- e2, <- e1]; simp only [List.append_assoc]
 rw [hEND]
 have C1 : Hid (Calls Tryz.prog 42 #[.slice none 0 0, .slice a.o.A0 m.o.reg.length a.o.c0] wz (GotPut wz wz l1)) := zH ((putBytes_any (W := wz) (w := wz) (l := []) (x := m.o.reg) (by simp) (by omega) (own_nil _ _) HR.out.o.r0 (Below.refl _ _)).mono fun e w' h => h.is (by rw [<- e1]; rfl))
 have C2 : Hid (∀ {wx : World} {A : Option Addr} {c : Nat}, OwnB wz wx A l1.length c l1 -> Below wz.heap.size wz wx -> Calls Tryz.prog 62 #[.slice A l1.length c, .slice a.o.A1 m.o.q.length a.o.c1, .func (.func 42) #[] #[]] wx (GotPut wz wx l2)) := zH (fun ho hB => (putEachQ_any (W := wz) (c' := a.o.c1) (by omega) (by omega) hM.o.qv ho HR.out.o.r1 hB).mono fun e w' h => h.is e2)
 have C3 : Hid (∀ {wx : World} {A : Option Addr} {c : Nat}, OwnB wz wx A l2.length c l2 -> Below wz.heap.size wz wx -> Calls Tryz.prog 63 #[.slice A l2.length c, .slice a.o.A2 m.o.lk.length a.o.c2, .func (.func 41) #[] #[]] wx (GotPut wz wx l3)) := zH (fun ho hB => (putEachI_any (W := wz) (c' := a.o.c2) (by omega) (by omega) ho HR.out.o.r2 hB).mono fun e w' h => h.is e3)
 have C4 : Hid (∀ {wx : World} {A : Option Addr} {c : Nat}, OwnB wz wx A l3.length c l3 -> Below wz.heap.size wz wx -> Calls Tryz.prog 64 #[.slice A l3.length c, .slice a.o.A3 m.o.mp.length a.o.c3, .func (.func 65) #[] #[]] wx (GotPut wz wx l4)) := zH (fun ho hB => (putEachP_any (W := wz) (c' := a.o.c3) (by omega) (by omega) hM.o.mp.len ho HR.out.o.r3 hB).mono fun e w' h => h.is e4)
 have C5 : Hid (∀ {wx : World} {A : Option Addr} {c : Nat}, OwnB wz wx A l4.length c l4 -> Below wz.heap.size wz wx -> Calls Tryz.prog 66 #[.slice A l4.length c, .slice a.At m.t.length a.ct, .func (.func 67) #[] #[]] wx (GotPut wz wx l5)) := zH (fun ho hB => (putEachT_any (W := wz) (c' := a.ct) (by omega) (by have := hM.t8; omega) (fun m' hm' => (hM.t.each m' hm').2.1) (fun m' hm' => (hM.te m' hm').2.2) ho HR.out.t hB).mono fun e w' h => h.is e5)
 clear k1 k2 k3 k4 k5 k6 k7 k8 k9 k10 k11 e1 e2 e3 e4 e5 hl1 hl2 hl3 hl4 hEND h hM hbz hkz hwz hg
 unfold machV machC
 unfold machC at HW HF
 go_enter Tryz.func21, Tryz.ntmps21
 go_upto_region 1 with fail
 rw [HG.out, HW.out]
 obtain ⟨x0, x1, x2, x3, x4⟩ := five (HF.out wz (Below.refl _ _))
 go_wp2_with (first
  | (go_at_call 42; refine C1.out.mono ?_; rintro e w1 ⟨A1, c1, rfl, ho1, hB1, hb1⟩; obtain ⟨x0, x1, x2, x3, x4⟩ := five (HF.out w1 hB1))
  | (go_at_call 62; refine (C2.out ho1 hB1).mono ?_; rintro e w2 ⟨A2, c2, rfl, ho2, hB2, hb2⟩; obtain ⟨x0, x1, x2, x3, x4⟩ := five (HF.out w2 hB2))
  | (go_at_call 63; refine (C3.out ho2 hB2).mono ?_; rintro e w3 ⟨A3, c3, rfl, ho3, hB3, hb3⟩; obtain ⟨x0, x1, x2, x3, x4⟩ := five (HF.out w3 hB3))
  | (go_at_call 64; refine (C4.out ho3 hB3).mono ?_; rintro e w4 ⟨A4, c4, rfl, ho4, hB4, hb4⟩; obtain ⟨x0, x1, x2, x3, x4⟩ := five (HF.out w4 hB4))
  | (go_at_call 66; refine (C5.out ho4 hB4).mono ?_; rintro e w5 ⟨A5, c5, rfl, ho5, hB5, hb5⟩)
  | fail)
 go_ret
 have hb := HZ.out.trans (hB5.mono HZ.out.size)
 exact ⟨A5, c5, rfl, own_of HZ.out.size ho5, hb, hb⟩
theorem encode10 : EncodeC10 := fun hM h hB => (encode_raw hM h).mono fun en w' ⟨A', c', h1, h2, h3, h4⟩ => ⟨A', c', h1, own_of hB.size h2, hB.trans (h3.mono hB.size), h4⟩
set_option maxHeartbeats 2000000 in
set_option maxRecDepth 100000 in
theorem getEachQ_any (w : World) (b : Nat) (s : Pk.St) {most : Int} (hm0 : 0 <= most) (hm : most <= 100) (h : RdrAt w b s) {R : List (List Nat)} {s' : Pk.St} (hR : (getQ (Pk.numV s most) (Pk.numS s most)).1 = R) (hs' : (getQ (Pk.numV s most) (Pk.numS s most)).2 = s') :
 Calls Tryz.prog 48 #[.pointer (some ⟨b, 0, none⟩), .int .i64 most, .func (.func 47) #[] #[]] w fun en w' => ∃ A c, en = .returned (.slice A R.length c) /\ OwnQ w w' A R.length c R /\ RdrAt w' b s' /\ Only b w w' := by
 have hbl := h.lt
 have HBL := zH hbl
 obtain ⟨n, hn⟩ : ∃ x, Pk.numV s most = x := ⟨_, rfl⟩
 obtain ⟨s1, hs1⟩ : ∃ x, Pk.numS s most = x := ⟨_, rfl⟩
 have hn100 : n <= 100 := by have := numV_le s hm0; omega
 have HC := zH (rnum_is w b s most h n s1 hn hs1)
 rw [hn, hs1] at hR hs'
 have HG : Hid (getQ n s1 = (R, s')) := zH (by rw [<- hR, <- hs'])
 have H0 : Hid (RgSt w w b s) := zH ⟨h, only_refl b w⟩
 clear hR hs' hn hs1 h
 go_enter Tryz.func48, Tryz.ntmps48
 go_wp2_with (first
  | (go_at_call 43; refine HC.out.mono ?_; rintro en w1 ⟨rfl, hr1, hb1⟩; have HS1 := zH (H0.out.call hr1 hb1); clear hr1 hb1 HC)
  | fail)
 go_loopw [7, 11] (fun s7 s11 wr => ∃ (k : Nat) (A1 : Option Addr) (c1 : Nat) (acc : List (List Nat)) (sk : Pk.St), k <= n /\ s11 = .int .i64 (k : Int) /\ s7 = .slice A1 k c1 /\ Hid (RgSt w wr b sk) /\ Hid (OwnQ w wr A1 k c1 acc) /\ Hid (getQ n s1 = (acc ++ (getQ (n - k) sk).1, (getQ (n - k) sk).2))) (fun _ s11 _ => n - (intOf s11).toNat)
 case atStart => exact ⟨0, none, 0, [], s1, Nat.zero_le _, rfl, rfl, HS1, zH (OwnQ.nil _ _), zH (by simp)⟩
 case round =>
  clear HS1 H0
  obtain ⟨k, A1, c1, acc, sk, hk, rfl, rfl, HS, HO, HQ⟩ := hrel
  by_cases hlt : k < n
  · obtain ⟨m, hm1⟩ : ∃ m, n - k = m + 1 := ⟨n - k - 1, by omega⟩
    have hstep : getQ (m + 1) sk = (Pk.bytV sk 16 :: (getQ m (Pk.bytS sk 16)).1, (getQ m (Pk.bytS sk 16)).2) := rfl
    have hq := HQ.out
    rw [hm1, hstep] at hq
    obtain ⟨x, ex⟩ : ∃ x, Pk.bytV sk 16 = x := ⟨_, rfl⟩
    obtain ⟨t, et⟩ : ∃ x, Pk.bytS sk 16 = x := ⟨_, rfl⟩
    rw [ex, et] at hq
    have HC := zH (getVal_any wr b sk HS.out.r ex et)
    have hmk : n - (k + 1) = m := by omega
    have HQN : Hid (getQ n s1 = ((acc ++ [x]) ++ (getQ (n - (k + 1)) t).1, (getQ (n - (k + 1)) t).2)) := zH (by rw [hmk, hq]; simp)
    clear hq hstep ex et hm1 hmk HQ
    go_wp2_with (first
     | (go_at_call 47; refine HC.out.mono ?_; rintro en w1 ⟨A2, c2, rfl, ho2, hr2, hb2⟩
        have b1 : Below w1.heap.size w1 (w1.alloc (.cells #[.slice A2 x.length c2] 24)) := (Below.refl _ _).alloc lR _
        have HS2 := zH ((HS.out.call hr2 hb2).below b1)
        obtain ⟨vs, hv1, hv2⟩ := (HO.out.old hb2 (Old.some HBL.out)).below b1
        have HO2 := zH (own_below (own_of HS.out.size ho2) b1)
        have hsz : w.heap.size <= (w1.alloc (.cells #[.slice A2 x.length c2] 24)).heap.size := HS2.out.size)
     | (at_builtin
        refine wpList_append_at w.heap.size hsz cellQ (.tmp 13) (.tmp 17) rfl (by rfl) rfl hv1 rfl (Rd.oneV _ _ _) (by intro u hu; simp at hu; subst hu; rfl) (by omega) (by omega) ?_
        intro A3 c3 w3 hown3 hg3)
     | fail)
    go_roundw
    case rel =>
     refine ⟨k + 1, A3, c3, acc ++ [x], t, by omega, by go_num, rfl, zH (HS2.out.row hv1 (by decide) (by decide) hg3), zH ?_, HQN⟩
     refine ⟨vs ++ [.slice A2 x.length c2], hown3, (hv2.snoc HO2.out).grown hv1 hg3⟩
    case measure => simp only [intOf]; omega
  · have hq := HQ.out
    have hnk : n - k = 0 := by omega
    rw [hnk, show getQ 0 sk = ([], sk) from rfl, List.append_nil, HG.out] at hq
    injection hq with h1 h2
    subst h1 h2
    have hlen : R.length = k := HO.out.length
    subst hlen
    go_wp2_with fail
    go_ret
    exact ⟨A1, c1, rfl, HO.out, HS.out.r, HS.out.only⟩
set_option maxHeartbeats 2000000 in
set_option maxRecDepth 100000 in
theorem getEachI_any (w : World) (b : Nat) (s : Pk.St) {most : Int} (hm0 : 0 <= most) (hm : most <= 100) (h : RdrAt w b s) {R : List Int} {s' : Pk.St} (hR : (getI (Pk.numV s most) (Pk.numS s most)).1 = R) (hs' : (getI (Pk.numV s most) (Pk.numS s most)).2 = s') :
 Calls Tryz.prog 49 #[.pointer (some ⟨b, 0, none⟩), .int .i64 most, .func (.func 50) #[] #[]] w fun en w' => ∃ A c, en = .returned (.slice A R.length c) /\ OwnI w w' A R.length c R /\ RdrAt w' b s' /\ Only b w w' := by
 have hbl := h.lt
 have HBL := zH hbl
 obtain ⟨n, hn⟩ : ∃ x, Pk.numV s most = x := ⟨_, rfl⟩
 obtain ⟨s1, hs1⟩ : ∃ x, Pk.numS s most = x := ⟨_, rfl⟩
 have hn100 : n <= 100 := by have := numV_le s hm0; omega
 have HC := zH (rnum_is w b s most h n s1 hn hs1)
 rw [hn, hs1] at hR hs'
 have HG : Hid (getI n s1 = (R, s')) := zH (by rw [<- hR, <- hs'])
 have H0 : Hid (RgSt w w b s) := zH ⟨h, only_refl b w⟩
 clear hR hs' hn hs1 h
 go_enter Tryz.func49, Tryz.ntmps49
 go_wp2_with (first
  | (go_at_call 43; refine HC.out.mono ?_; rintro en w1 ⟨rfl, hr1, hb1⟩; have HS1 := zH (H0.out.call hr1 hb1); clear hr1 hb1 HC)
  | fail)
 go_loopw [7, 11] (fun s7 s11 wr => ∃ (k : Nat) (A1 : Option Addr) (c1 : Nat) (acc : List Int) (sk : Pk.St), k <= n /\ s11 = .int .i64 (k : Int) /\ s7 = .slice A1 k c1 /\ Hid (RgSt w wr b sk) /\ Hid (OwnI w wr A1 k c1 acc) /\ Hid (getI n s1 = (acc ++ (getI (n - k) sk).1, (getI (n - k) sk).2))) (fun _ s11 _ => n - (intOf s11).toNat)
 case atStart => exact ⟨0, none, 0, [], s1, Nat.zero_le _, rfl, rfl, HS1, zH (ownI_nil _ _), zH (by simp)⟩
 case round =>
  clear HS1 H0
  obtain ⟨k, A1, c1, acc, sk, hk, rfl, rfl, HS, HO, HQ⟩ := hrel
  by_cases hlt : k < n
  · obtain ⟨m, hm1⟩ : ∃ m, n - k = m + 1 := ⟨n - k - 1, by omega⟩
    have hstep : getI (m + 1) sk = ((Pk.numV sk 999 : Int) :: (getI m (Pk.numS sk 999)).1, (getI m (Pk.numS sk 999)).2) := rfl
    have hq := HQ.out
    rw [hm1, hstep] at hq
    obtain ⟨x, ex⟩ : ∃ x, Pk.numV sk 999 = x := ⟨_, rfl⟩
    obtain ⟨t, et⟩ : ∃ x, Pk.numS sk 999 = x := ⟨_, rfl⟩
    rw [ex, et] at hq
    have HC := zH (getWho_any wr b sk HS.out.r ex et)
    have hmk : n - (k + 1) = m := by omega
    have HQN : Hid (getI n s1 = ((acc ++ [(x : Int)]) ++ (getI (n - (k + 1)) t).1, (getI (n - (k + 1)) t).2)) := zH (by rw [hmk, hq]; simp)
    clear hq hstep ex et hm1 hmk HQ
    go_wp2_with (first
     | (go_at_call 50; refine HC.out.mono ?_; rintro en w1 ⟨rfl, hr2, hb2⟩
        have b1 : Below w1.heap.size w1 (w1.alloc (.cells #[.int .i64 (x : Int)] 3)) := (Below.refl _ _).alloc lR _
        have HS2 := zH ((HS.out.call hr2 hb2).below b1)
        have hv1 := ownsRow_below (own_old HO.out hb2 (Old.some HBL.out)) b1
        have hsz : w.heap.size <= (w1.alloc (.cells #[.int .i64 (x : Int)] 3)).heap.size := HS2.out.size)
     | (at_builtin
        refine wpList_append_at w.heap.size hsz cellI (.tmp 13) (.tmp 17) rfl (by rfl) rfl hv1 rfl (Rd.oneV _ _ _) (by intro u hu; simp at hu; subst hu; rfl) (by omega) (by omega) ?_
        intro A3 c3 w3 hown3 hg3)
     | fail)
    go_roundw
    case rel =>
     refine ⟨k + 1, A3, c3, acc ++ [(x : Int)], t, by omega, by go_num, rfl, zH (HS2.out.row hv1 (by decide) (by decide) hg3), zH ?_, HQN⟩
     unfold OwnI
     rw [iv_snocO]
     exact hown3
    case measure => simp only [intOf]; omega
  · have hq := HQ.out
    have hnk : n - k = 0 := by omega
    rw [hnk, show getI 0 sk = ([], sk) from rfl, List.append_nil, HG.out] at hq
    injection hq with h1 h2
    subst h1 h2
    have hlen : R.length = k := ownI_len HO.out
    subst hlen
    go_wp2_with fail
    go_ret
    exact ⟨A1, c1, rfl, HO.out, HS.out.r, HS.out.only⟩
set_option maxHeartbeats 2000000 in
set_option maxRecDepth 100000 in
theorem getEachP_any (w : World) (b : Nat) (s : Pk.St) {most : Int} (hm0 : 0 <= most) (hm : most <= 100) (h : RdrAt w b s) {R : List Pr} {s' : Pk.St} (hR : (getP (Pk.numV s most) (Pk.numS s most)).1 = R) (hs' : (getP (Pk.numV s most) (Pk.numS s most)).2 = s') :
 Calls Tryz.prog 51 #[.pointer (some ⟨b, 0, none⟩), .int .i64 most, .func (.func 52) #[] #[]] w fun en w' => ∃ A c, en = .returned (.slice A R.length c) /\ OwnP w w' A R.length c R /\ RdrAt w' b s' /\ Only b w w' := by
 have hbl := h.lt
 have HBL := zH hbl
 obtain ⟨n, hn⟩ : ∃ x, Pk.numV s most = x := ⟨_, rfl⟩
 obtain ⟨s1, hs1⟩ : ∃ x, Pk.numS s most = x := ⟨_, rfl⟩
 have hn100 : n <= 100 := by have := numV_le s hm0; omega
 have HC := zH (rnum_is w b s most h n s1 hn hs1)
 rw [hn, hs1] at hR hs'
 have HG : Hid (getP n s1 = (R, s')) := zH (by rw [<- hR, <- hs'])
 have H0 : Hid (RgSt w w b s) := zH ⟨h, only_refl b w⟩
 clear hR hs' hn hs1 h
 go_enter Tryz.func51, Tryz.ntmps51
 go_wp2_with (first
  | (go_at_call 43; refine HC.out.mono ?_; rintro en w1 ⟨rfl, hr1, hb1⟩; have HS1 := zH (H0.out.call hr1 hb1); clear hr1 hb1 HC)
  | fail)
 go_loopw [7, 11] (fun s7 s11 wr => ∃ (k : Nat) (A1 : Option Addr) (c1 : Nat) (acc : List Pr) (sk : Pk.St), k <= n /\ s11 = .int .i64 (k : Int) /\ s7 = .slice A1 k c1 /\ Hid (RgSt w wr b sk) /\ Hid (OwnP w wr A1 k c1 acc) /\ Hid (getP n s1 = (acc ++ (getP (n - k) sk).1, (getP (n - k) sk).2))) (fun _ s11 _ => n - (intOf s11).toNat)
 case atStart => exact ⟨0, none, 0, [], s1, Nat.zero_le _, rfl, rfl, HS1, zH (OwnP.nil _ _), zH (by simp)⟩
 case round =>
  clear HS1 H0
  obtain ⟨k, A1, c1, acc, sk, hk, rfl, rfl, HS, HO, HQ⟩ := hrel
  by_cases hlt : k < n
  · obtain ⟨m, hm1⟩ : ∃ m, n - k = m + 1 := ⟨n - k - 1, by omega⟩
    have hstep : getP (m + 1) sk = ((getP1 sk).1 :: (getP m (getP1 sk).2).1, (getP m (getP1 sk).2).2) := rfl
    have hq := HQ.out
    rw [hm1, hstep] at hq
    obtain ⟨x, ex⟩ : ∃ x, (getP1 sk).1 = x := ⟨_, rfl⟩
    obtain ⟨t, et⟩ : ∃ x, (getP1 sk).2 = x := ⟨_, rfl⟩
    rw [ex, et] at hq
    have HC := zH (getPair_any wr b sk HS.out.r)
    rw [ex, et] at HC
    have hmk : n - (k + 1) = m := by omega
    have HQN : Hid (getP n s1 = ((acc ++ [x]) ++ (getP (n - (k + 1)) t).1, (getP (n - (k + 1)) t).2)) := zH (by rw [hmk, hq]; simp)
    clear hq hstep ex et hm1 hmk HQ
    go_wp2_with (first
     | (go_at_call 52; refine HC.out.mono ?_; rintro en w1 ⟨A2, c2, A4, c4, rfl, ho2, ho4, hr2, hb2⟩
        have b1 : Below w1.heap.size w1 (w1.alloc (.cells #[.slice A2 x.1.length c2, .slice A4 x.2.length c4] 81)) := (Below.refl _ _).alloc lR _
        have HS2 := zH ((HS.out.call hr2 hb2).below b1)
        obtain ⟨vs, hv1, hv2⟩ := (HO.out.old hb2 (Old.some HBL.out)).below b1
        have HO2 := zH (own_below (own_of HS.out.size ho2) b1)
        have HO4 := zH (own_below (own_of HS.out.size ho4) b1)
        have hsz : w.heap.size <= (w1.alloc (.cells #[.slice A2 x.1.length c2, .slice A4 x.2.length c4] 81)).heap.size := HS2.out.size)
     | (at_builtin
        refine wpList_append_atS w.heap.size hsz cellP (.tmp 13) (.tmp 17) rfl (by rfl) rfl hv1 rfl (Rd.twoAt _ _ _ _ rfl) (by intro u hu; simp at hu; rcases hu with rfl | rfl <;> rfl) (by omega) (by omega) ?_
        intro A3 c3 w3 hown3 hg3)
     | fail)
    go_roundw
    case rel =>
     refine ⟨k + 1, A3, c3, acc ++ [x], t, by omega, by go_num, rfl, zH (HS2.out.row hv1 (by decide) (by decide) hg3), zH ?_, HQN⟩
     refine ⟨vs ++ [.slice A2 x.1.length c2, .slice A4 x.2.length c4], hown3, ?_⟩
     rw [flat_append]
     exact (hv2.two HO2.out HO4.out).grownP hv1 hg3
    case measure => simp only [intOf]; omega
  · have hq := HQ.out
    have hnk : n - k = 0 := by omega
    rw [hnk, show getP 0 sk = ([], sk) from rfl, List.append_nil, HG.out] at hq
    injection hq with h1 h2
    subst h1 h2
    have hlen : R.length = k := HO.out.length
    subst hlen
    go_wp2_with fail
    go_ret
    exact ⟨A1, c1, rfl, HO.out, HS.out.r, HS.out.only⟩
set_option maxHeartbeats 2000000 in
set_option maxRecDepth 100000 in
theorem getEachT_any (w : World) (b : Nat) (s : Pk.St) {most : Int} (hm0 : 0 <= most) (hm : most <= 100) (h : RdrAt w b s) {R : List Ls} {s' : Pk.St} (hR : (getT (Pk.numV s most) (Pk.numS s most)).1 = R) (hs' : (getT (Pk.numV s most) (Pk.numS s most)).2 = s') :
 Calls Tryz.prog 53 #[.pointer (some ⟨b, 0, none⟩), .int .i64 most, .func (.func 54) #[] #[]] w fun en w' => ∃ A c, en = .returned (.slice A R.length c) /\ OwnL w w' A R.length c R /\ RdrAt w' b s' /\ Only b w w' := by
 have hbl := h.lt
 have HBL := zH hbl
 obtain ⟨n, hn⟩ : ∃ x, Pk.numV s most = x := ⟨_, rfl⟩
 obtain ⟨s1, hs1⟩ : ∃ x, Pk.numS s most = x := ⟨_, rfl⟩
 have hn100 : n <= 100 := by have := numV_le s hm0; omega
 have HC := zH (rnum_is w b s most h n s1 hn hs1)
 rw [hn, hs1] at hR hs'
 have HG : Hid (getT n s1 = (R, s')) := zH (by rw [<- hR, <- hs'])
 have H0 : Hid (RgSt w w b s) := zH ⟨h, only_refl b w⟩
 clear hR hs' hn hs1 h
 go_enter Tryz.func53, Tryz.ntmps53
 go_wp2_with (first
  | (go_at_call 43; refine HC.out.mono ?_; rintro en w1 ⟨rfl, hr1, hb1⟩; have HS1 := zH (H0.out.call hr1 hb1); clear hr1 hb1 HC)
  | fail)
 go_loopw [7, 11] (fun s7 s11 wr => ∃ (k : Nat) (A1 : Option Addr) (c1 : Nat) (acc : List Ls) (sk : Pk.St), k <= n /\ s11 = .int .i64 (k : Int) /\ s7 = .slice A1 k c1 /\ Hid (RgSt w wr b sk) /\ Hid (OwnL w wr A1 k c1 acc) /\ Hid (getT n s1 = (acc ++ (getT (n - k) sk).1, (getT (n - k) sk).2))) (fun _ s11 _ => n - (intOf s11).toNat)
 case atStart => exact ⟨0, none, 0, [], s1, Nat.zero_le _, rfl, rfl, HS1, zH (OwnL.nil _ _), zH (by simp)⟩
 case round =>
  clear HS1 H0
  obtain ⟨k, A1, c1, acc, sk, hk, rfl, rfl, HS, HO, HQ⟩ := hrel
  by_cases hlt : k < n
  · obtain ⟨m, hm1⟩ : ∃ m, n - k = m + 1 := ⟨n - k - 1, by omega⟩
    have hstep : getT (m + 1) sk = ((getT1 sk).1 :: (getT m (getT1 sk).2).1, (getT m (getT1 sk).2).2) := rfl
    have hq := HQ.out
    rw [hm1, hstep] at hq
    obtain ⟨x, ex⟩ : ∃ x, (getT1 sk).1 = x := ⟨_, rfl⟩
    obtain ⟨t, et⟩ : ∃ x, (getT1 sk).2 = x := ⟨_, rfl⟩
    rw [ex, et] at hq
    have HC := zH (getLast_any wr b sk HS.out.r)
    rw [ex, et] at HC
    have hmk : n - (k + 1) = m := by omega
    have HQN : Hid (getT n s1 = ((acc ++ [x]) ++ (getT (n - (k + 1)) t).1, (getT (n - (k + 1)) t).2)) := zH (by rw [hmk, hq]; simp)
    clear hq hstep ex et hm1 hmk HQ
    go_wp2_with (first
     | (go_at_call 54; refine HC.out.mono ?_; rintro en w1 ⟨A2, c2, rfl, ho2, hr2, hb2⟩
        have b1 : Below w1.heap.size w1 (w1.alloc (.cells #[.int .i64 x.s, .int .i64 x.q, .int .i64 x.e, .slice A2 x.v.length c2, .int .i64 x.n] 71)) := (Below.refl _ _).alloc lR _
        have HS2 := zH ((HS.out.call hr2 hb2).below b1)
        obtain ⟨vs, hv1, hv2⟩ := (HO.out.old hb2 (Old.some HBL.out)).below b1
        have HO2 := zH (own_below (own_of HS.out.size ho2) b1)
        have hsz : w.heap.size <= (w1.alloc (.cells #[.int .i64 x.s, .int .i64 x.q, .int .i64 x.e, .slice A2 x.v.length c2, .int .i64 x.n] 71)).heap.size := HS2.out.size)
     | (at_builtin
        refine wpList_append_atS w.heap.size hsz cellL (.tmp 13) (.tmp 17) rfl (by rfl) rfl hv1 rfl (Rd.lastAt _ A2 c2 x _ rfl) (lastC_one _ _ _) (by omega) (by omega) ?_
        intro A3 c3 w3 hown3 hg3)
     | fail)
    go_roundw
    case rel =>
     refine ⟨k + 1, A3, c3, acc ++ [x], t, by omega, by go_num, rfl, zH (HS2.out.row hv1 (by decide) (by decide) hg3), zH ?_, HQN⟩
     refine ⟨vs ++ lastC A2 c2 x, hown3, (hv2.snoc HO2.out).grown (by decide) hv1 hg3⟩
    case measure => simp only [intOf]; omega
  · have hq := HQ.out
    have hnk : n - k = 0 := by omega
    rw [hnk, show getT 0 sk = ([], sk) from rfl, List.append_nil, HG.out] at hq
    injection hq with h1 h2
    subst h1 h2
    have hlen : R.length = k := HO.out.length
    subst hlen
    go_wp2_with fail
    go_ret
    exact ⟨A1, c1, rfl, HO.out, HS.out.r, HS.out.only⟩
theorem cmpB_neg {l m : List Nat} (hl : ∀ x ∈ l, x < 256) (hm : ∀ x ∈ m, x < 256) : (cmpB l m < 0) ↔ Mp.ltB l m = true := by
 unfold cmpB
 induction l generalizing m with
 | nil => cases m <;> simp [Lib.compareBytes, Mp.ltB]
 | cons a l ih =>
   cases m with
   | nil => simp [Lib.compareBytes, Mp.ltB]
   | cons b m =>
     have ha := hl a (by simp)
     have hb := hm b (by simp)
     have ih' := ih (m := m) (fun x hx => hl x (by simp [hx])) (fun x hx => hm x (by simp [hx]))
     have lt1 : ∀ a b : Nat, a < 256 -> b < 256 -> ((UInt8.ofNat a < UInt8.ofNat b) ↔ a < b) := fun a b ha hb => by
      rw [UInt8.lt_iff_toNat_lt]; simp; omega
     simp only [List.map_cons, Lib.compareBytes, Mp.ltB, Bool.or_eq_true, decide_eq_true_eq, Bool.and_eq_true]
     by_cases h1 : a < b
     · rw [if_pos ((lt1 a b ha hb).2 h1)]
       exact ⟨fun _ => .inl h1, fun _ => by omega⟩
     · rw [if_neg (fun h => h1 ((lt1 a b ha hb).1 h))]
       by_cases h2 : b < a
       · rw [if_pos ((lt1 b a hb ha).2 h2)]
         constructor
         · intro h; omega
         · rintro (h | ⟨h, _⟩) <;> omega
       · rw [if_neg (fun h => h2 ((lt1 b a hb ha).1 h))]
         have : a = b := by omega
         rw [ih']
         exact ⟨fun h => .inr ⟨this, h⟩, fun h => h.elim (fun h => absurd h h1) (·.2)⟩
theorem chainB_adj {α : Type} (lt : α -> α -> Bool) (l : List α) : chainB lt l = true ↔ ∀ (j : Nat) (a b : α), l[j]? = some a -> l[j + 1]? = some b -> lt a b = true := by
 induction l with
 | nil => simp [chainB]
 | cons a l ih =>
   cases l with
   | nil => simp [chainB]
   | cons b r =>
     simp only [chainB, Bool.and_eq_true]
     rw [ih]
     constructor
     · rintro ⟨h1, h2⟩ j x y hx hy
       cases j with
       | zero => simp at hx hy; subst hx hy; exact h1
       | succ j => simp only [List.getElem?_cons_succ] at hx hy; exact h2 j x y hx hy
     · intro h
       exact ⟨h 0 a b rfl rfl, fun j x y hx hy => h (j + 1) x y (by simpa using hx) (by simpa using hy)⟩
theorem nodup_snoc {l : List Int} {z : Int} : (l ++ [z]).Nodup ↔ l.Nodup /\ z ∉ l := by
 unfold List.Nodup
 rw [List.pairwise_append]
 constructor
 · rintro ⟨h1, _, h3⟩; exact ⟨h1, fun h => h3 z h z (by simp) rfl⟩
 · rintro ⟨h1, h2⟩; exact ⟨h1, List.pairwise_singleton _ _, fun a ha b hb => by simp at hb; subst hb; rintro rfl; exact h2 ha⟩
set_option maxRecDepth 100000 in
theorem isOnce_any (w : World) {A : Option Addr} {n c B : Nat} {zs : List Int} (h : Rd w B A n (iv zs)) (hn : n <= 1000) (hc : n <= c) :
 Calls Tryz.prog 56 #[.slice A n c] w fun e w' => e = .returned (.bool (decide zs.Nodup)) /\ w = w' := by
 have hl : zs.length = n := by have := h.1; rwa [iv_length] at this
 have HL := zH hl
 have H := zH h
 obtain ⟨i0, hi0, _, _, _⟩ := info_parts cellI.info
 clear h hl
 go_enter Tryz.func56, Tryz.ntmps56
 go_wp2
 go_loopw [3, 4, 7] (fun s3 s4 s7 wr => ∃ k : Nat, k <= n /\ s7 = .int .i64 k /\ Hid ((zs.take k).Nodup) /\ w = wr) (fun _ _ s7 _ => n - (intOf s7).toNat)
 case atStart => exact ⟨0, Nat.zero_le _, rfl, zH (by simp), rfl⟩
 case round =>
  obtain ⟨k, hk, rfl, HS, rfl⟩ := hrel
  by_cases hlt : k < n
  · obtain ⟨z, hz⟩ : ∃ z, zs[k]? = some z := ⟨_, List.getElem?_eq_getElem (by have := HL.out; omega)⟩
    have hcell : ∃ b o, A = some ⟨b, o, none⟩ /\ w.cell? ⟨b, o + k, none⟩ = some (.int .i64 z) := by
     obtain ⟨b, o, e, _⟩ := H.out.int_at hlt
     subst e
     exact ⟨b, o, rfl, H.out.int_cell hlt hz⟩
    obtain ⟨b, o, rfl, hc1⟩ := hcell
    have hsl := fun w => run_slice_to (P := Tryz.prog) Tryz.underlying22 hi0 (some ⟨b, o, none⟩) n c k (by omega) w
    have HZ := zH hz
    have HC : Hid (Calls Tryz.prog 126 #[.slice (some ⟨b, o, none⟩) k c, .int .i64 z] w fun e w' => e = .returned (.bool (decide (z ∈ zs.take k))) /\ w = w') :=
     zH (contains_any w z (B := B) (by rw [iv_take]; exact H.out.take hk) (by unfold maxLen; omega))
    clear hz
    by_cases he : z ∈ zs.take k
    · rw [decide_eq_true he] at HC
      have HNO : Hid (decide zs.Nodup = false) := zH (decide_eq_false (by
       intro hnd
       have h2 : (zs.take (k + 1)).Nodup := List.Pairwise.sublist (List.take_sublist _ _) hnd
       rw [List.take_add_one, HZ.out] at h2
       exact (nodup_snoc.1 h2).2 he))
      clear he
      go_wp2_with (first
       | (go_at_call 126; refine HC.out.mono ?_; rintro e w2 ⟨rfl, rfl⟩)
       | fail)
      go_ret
      exact ⟨ret_bool HNO.out.symm, rfl⟩
    · rw [decide_eq_false he] at HC
      have HN : Hid ((zs.take (k + 1)).Nodup) := zH (by
       rw [List.take_add_one, HZ.out]
       exact nodup_snoc.2 ⟨HS.out, he⟩)
      clear he
      go_wp2_with (first
       | (go_at_call 126; refine HC.out.mono ?_; rintro e w2 ⟨rfl, rfl⟩)
       | fail)
      go_roundw
      case rel => exact ⟨k + 1, by omega, by go_num, HN, trivial⟩
      case measure => simp only [intOf]; omega
  · obtain rfl : k = n := by omega
    have HY : Hid (decide zs.Nodup = true) := zH (decide_eq_true (by have := HS.out; rwa [List.take_of_length_le (by have := HL.out; omega)] at this))
    go_wp2
    go_ret
    exact ⟨ret_bool HY.out.symm, rfl⟩
theorem byKey_any (w : World) {A1 A2 A3 A4 : Option Addr} {n1 c1 n2 c2 n3 c3 n4 c4 B B' : Nat} {k k' : List Nat} (h : Rd w B A1 n1 (bv k)) (h' : Rd w B' A3 n3 (bv k')) :
 Calls Tryz.prog 58 #[.agg #[.slice A1 n1 c1, .slice A2 n2 c2], .agg #[.slice A3 n3 c3, .slice A4 n4 c4]] w fun e w' => e = .returned (.int .i64 (cmpB k k')) /\ Below w.heap.size w w' := by
 have b0 : Below w.heap.size w ((w.alloc (.cells #[.slice A1 n1 c1, .slice A2 n2 c2] 81)).alloc (.cells #[.slice A3 n3 c3, .slice A4 n4 c4] 81)) := ((Below.refl _ _).alloc lR _).alloc (by simp) _
 have H := zH (h.fit.below b0)
 have H' := zH (h'.fit.below b0)
 have HB := zH b0
 have HK1 := zH ((Blk.new w 81 #[.slice A1 n1 c1, .slice A2 n2 c2]).alloc (.cells #[.slice A3 n3 c3, .slice A4 n4 c4] 81))
 have HK2 := zH (Blk.new (w.alloc (.cells #[.slice A1 n1 c1, .slice A2 n2 c2] 81)) 81 #[.slice A3 n3 c3, .slice A4 n4 c4])
 rw [World.size_alloc] at HK2
 clear h h' b0
 go_enter Tryz.func58, Tryz.ntmps58
 go_upto_region 1 with fail
 generalize (w.alloc (.cells #[.slice A1 n1 c1, .slice A2 n2 c2] 81)).alloc (.cells #[.slice A3 n3 c3, .slice A4 n4 c4] 81) = wa at H H' HB HK1 HK2 |-
 have x0 := HK1.out.cell 0
 have y0 := HK2.out.cell 0
 go_wp2_with (first
  | (go_at_call 127; refine (compare_any _ _ _ _ _ _ _ _ _ _ _ H.out H'.out).mono ?_; rintro e w2 ⟨rfl, rfl⟩)
  | fail)
 go_ret
 exact ⟨rfl, HB.out⟩
set_option maxRecDepth 100000 in
theorem cmpI_any (w : World) (x y : Int) : Calls Tryz.prog 152 #[.int .i64 x, .int .i64 y] w fun e w' => (∃ z : Int, e = .returned (.int .i64 z) /\ (z < 0 ↔ x < y)) /\ w = w' := by
 have HNN : ∀ (w : World) (x : Int), Calls Tryz.prog 158 #[.int .i64 x] w fun e w' => e = .returned (.bool false) /\ w = w' := fun w x => by
  go_enter Tryz.func158, Tryz.ntmps158
  go_wp2_with fail
  go_ret
  exact ⟨rfl, rfl⟩
 by_cases h1 : x < y
 · go_enter Tryz.func152, Tryz.ntmps152
   go_wp2_with (first
    | (go_at_call 158; refine (HNN _ _).mono ?_; rintro e w1 ⟨rfl, rfl⟩)
    | fail)
   go_ret
   exact ⟨⟨-1, rfl, by omega⟩, rfl⟩
 · by_cases h2 : y < x
   · go_enter Tryz.func152, Tryz.ntmps152
     go_wp2_with (first
      | (go_at_call 158; refine (HNN _ _).mono ?_; rintro e w1 ⟨rfl, rfl⟩)
      | fail)
     go_ret
     exact ⟨⟨1, rfl, by omega⟩, rfl⟩
   · go_enter Tryz.func152, Tryz.ntmps152
     go_wp2_with (first
      | (go_at_call 158; refine (HNN _ _).mono ?_; rintro e w1 ⟨rfl, rfl⟩)
      | fail)
     go_ret
     exact ⟨⟨0, rfl, by omega⟩, rfl⟩
theorem bySess_any (w : World) {A A' : Option Addr} {c c' : Nat} (a b : Ls) :
 Calls Tryz.prog 129 #[.agg #[.int .i64 a.s, .int .i64 a.q, .int .i64 a.e, .slice A a.v.length c, .int .i64 a.n], .agg #[.int .i64 b.s, .int .i64 b.q, .int .i64 b.e, .slice A' b.v.length c', .int .i64 b.n]] w fun e w' => (∃ z : Int, e = .returned (.int .i64 z) /\ (z < 0 ↔ a.s < b.s)) /\ Below w.heap.size w w' := by
 have b0 : Below w.heap.size w ((w.alloc (.cells #[.int .i64 a.s, .int .i64 a.q, .int .i64 a.e, .slice A a.v.length c, .int .i64 a.n] 71)).alloc (.cells #[.int .i64 b.s, .int .i64 b.q, .int .i64 b.e, .slice A' b.v.length c', .int .i64 b.n] 71)) := ((Below.refl _ _).alloc lR _).alloc (by simp) _
 have HB := zH b0
 have HK1 := zH ((Blk.new w 71 #[.int .i64 a.s, .int .i64 a.q, .int .i64 a.e, .slice A a.v.length c, .int .i64 a.n]).alloc (.cells #[.int .i64 b.s, .int .i64 b.q, .int .i64 b.e, .slice A' b.v.length c', .int .i64 b.n] 71))
 have HK2 := zH (Blk.new (w.alloc (.cells #[.int .i64 a.s, .int .i64 a.q, .int .i64 a.e, .slice A a.v.length c, .int .i64 a.n] 71)) 71 #[.int .i64 b.s, .int .i64 b.q, .int .i64 b.e, .slice A' b.v.length c', .int .i64 b.n])
 rw [World.size_alloc] at HK2
 clear b0
 go_enter Tryz.func129, Tryz.ntmps129
 go_upto_region 1 with fail
 generalize (w.alloc (.cells #[.int .i64 a.s, .int .i64 a.q, .int .i64 a.e, .slice A a.v.length c, .int .i64 a.n] 71)).alloc (.cells #[.int .i64 b.s, .int .i64 b.q, .int .i64 b.e, .slice A' b.v.length c', .int .i64 b.n] 71) = wa at HB HK1 HK2 |-
 have x0 := HK1.out.cell 0
 have y0 := HK2.out.cell 0
 go_wp2_with (first
  | (go_at_call 152; refine (cmpI_any _ _ _).mono ?_; rintro e w2 ⟨⟨z, rfl, hz⟩, rfl⟩; have HZ := zH hz; clear hz)
  | fail)
 go_ret
 exact ⟨⟨z, rfl, HZ.out⟩, HB.out⟩
set_option maxHeartbeats 4000000 in
set_option maxRecDepth 100000 in
theorem isRisingP_any (w : World) {A : Option Addr} {n c B : Nat} {xs : List Pr} (hb : ∀ p ∈ xs, ∀ x ∈ p.1, x < 256) (h : RdP w B A n xs) (hn : n <= 1000) :
 Calls Tryz.prog 57 #[.slice A n c, .func (.func 58) #[] #[]] w fun e w' => e = .returned (.bool (chainB (fun p q : Pr => Mp.ltB p.1 q.1) xs)) /\ Below w.heap.size w w' := by
 have hl := h.length
 have HL := zH hl
 have H := zH h.fit
 have HBY := zH hb
 clear h hl hb
 go_enter Tryz.func57, Tryz.ntmps57
 go_wp2
 go_loopw [5] (fun s5 wr => ∃ j : Nat, j <= n /\ s5 = .int .i64 ((j : Int) + 1) /\ Hid (∀ (i : Nat) (a b : Pr), i < j -> xs[i]? = some a -> xs[i + 1]? = some b -> (fun p q : Pr => Mp.ltB p.1 q.1) a b = true) /\ Hid (Below w.heap.size w wr)) (fun s5 _ => n + 1 - (intOf s5).toNat)
 case atStart => exact ⟨0, Nat.zero_le _, rfl, zH (fun i a b hi => absurd hi (by omega)), zH (Below.refl _ _)⟩
 case round =>
  obtain ⟨j, hj, rfl, HS, HB⟩ := hrel
  by_cases hlt : j + 1 < n
  · have hi1 : (j : Int) + 1 < (n : Int) := by omega
    have hi2 : IntKind.i64.wrap ((j : Int) + 1 - 1) = (j : Int) := by rw [show (j : Int) + 1 - 1 = (j : Int) by omega]; exact IntWalk.i64_in _ (by omega)
    have hi3 : IntKind.i64.wrap ((j : Int) + 1 + 1) = (j : Int) + 1 + 1 := IntWalk.i64_in _ (by omega)
    have hi4 : (j : Int) < (n : Int) := by omega
    have hi5 : IntKind.i64.wrap (j : Int) = (j : Int) := IntWalk.i64_in _ (by omega)
    have hi6 : ¬ (j : Int) + 1 < 0 := by omega
    obtain ⟨b, o, p, A1, c1, A2, c2, rfl, hp, u0, u1, hrp, _⟩ := H.out.at (k := j) (by omega)
    obtain ⟨b', o', q, D1, d1, D2, d2, e, hq, v0, v1, hrq, _⟩ := H.out.at (k := j + 1) (by omega)
    injection e with e
    injection e with e1 e2
    subst e1 e2
    have HC : Hid (∀ wx, Below w.heap.size w wx -> (wx.cell? ⟨b, o + j * 2, none⟩ = some (.slice A1 p.1.length c1) /\ wx.cell? ⟨b, o + j * 2 + 1, none⟩ = some (.slice A2 p.2.length c2)) /\ wx.cell? ⟨b, o + (j + 1) * 2, none⟩ = some (.slice D1 q.1.length d1) /\ wx.cell? ⟨b, o + (j + 1) * 2 + 1, none⟩ = some (.slice D2 q.2.length d2)) :=
     zH (fun wx hb => ⟨⟨(hb.cell (World.block_lt_of_cell? _ _ u0)).trans u0, (hb.cell (World.block_lt_of_cell? _ _ u1)).trans u1⟩, (hb.cell (World.block_lt_of_cell? _ _ v0)).trans v0, (hb.cell (World.block_lt_of_cell? _ _ v1)).trans v1⟩)
    have HRP := zH hrp
    have HRQ := zH hrq
    have HBP := zH (And.intro (HBY.out p (List.mem_of_getElem? hp)) (HBY.out q (List.mem_of_getElem? hq)))
    have HP := zH (And.intro hp hq)
    clear u0 u1 v0 v1 hrp hrq hp hq
    go_upto_region 4 with fail
    have hS0 : Below w.heap.size w wr.drew := HB.out.trans ((Below.refl _ _).drew.mono HB.out.size)
    refine wp_region_held_drew (S := fun w' => Below w.heap.size w w') (by kernel_rfl) hS0 (fun _ => ?_)
    have hS := zH hS0
    clear hS0
    generalize wr.drew = wd at hS |-
    refine tkL (i := 0) (v := .func (.func 58) #[] #[]) rfl (fun w _ => by go_simp) hS.out ?_
    refine tkL (i := 1) (v := .slice (some ⟨b, o, none⟩) n c) rfl (fun w _ => by go_simp) hS.out ?_
    refine tkL (i := 2) (v := .int .i64 ((j : Int) + 1)) rfl (fun w _ => by go_simp) hS.out ?_
    refine tkL (i := 3) (v := .int .i64 (j : Int)) rfl (fun w _ => by go_simp) hS.out ?_
    refine tkL (i := 6) (v := .slice (some ⟨b, o, none⟩) n c) rfl (fun w _ => by go_simp) hS.out ?_
    refine tkL (i := 7) (v := .int .i64 ((j : Int) + 1)) rfl (fun w _ => by go_simp) hS.out ?_
    refine tkL (i := 4) (v := .pointer (some ⟨b, o + j * 2, none⟩)) rfl (fun w _ => by go_simp) hS.out ?_
    refine tkL (i := 8) (v := .pointer (some ⟨b, o + (j + 1) * 2, none⟩)) rfl (fun w _ => by go_simp) hS.out ?_
    refine tkL (i := 5) (v := .agg #[.slice A1 p.1.length c1, .slice A2 p.2.length c2]) rfl (fun w h => by obtain ⟨⟨q0, q1⟩, q2, q3⟩ := HC.out w h; go_simp) hS.out ?_
    refine tkL (i := 9) (v := .agg #[.slice D1 q.1.length d1, .slice D2 q.2.length d2]) rfl (fun w h => by obtain ⟨⟨q0, q1⟩, q2, q3⟩ := HC.out w h; go_simp) hS.out ?_
    refine rdH (rs := [10]) ?_
    refine AllReadyH.cons rfl (fun K hK => ?_) AllReadyH.nil
    go_simp
    refine (byKey_any _ (HRP.out.below hS.out) (HRQ.out.below hS.out)).mono ?_
    rintro e w2 ⟨rfl, hb2⟩
    have hS := zH (hS.out.trans (hb2.mono hS.out.size))
    clear hb2
    go_simp
    refine hK.out _ _ hS.out (fun _ => ?_)
    clear hK K
    obtain ⟨z, hz⟩ : ∃ z, cmpB p.1 q.1 = z := ⟨_, rfl⟩
    have HZ := zH (cmpB_neg HBP.out.1 HBP.out.2)
    rw [hz] at HZ |-
    clear hz
    by_cases hzz : z < 0
    · have hz0 : ¬ (0 : Int) <= z := by omega
      have HT := zH (HZ.out.1 hzz)
      clear hzz
      refine tkL (i := 11) (v := .bool false) rfl (fun w _ => by go_simp) hS.out ?_
      refine wpAnyH_done (by kernel_rfl) ?_ _
      go_wp2_with fail
      go_roundw
      case rel =>
       refine ⟨j + 1, by omega, by go_num, zH (fun i a b hi ha hb => ?_), hS⟩
       rcases Nat.lt_or_ge i j with h1 | h1
       · exact HS.out i a b h1 ha hb
       · obtain rfl : i = j := by omega
         obtain ⟨g1, g2⟩ := HP.out
         rw [ha] at g1
         rw [hb] at g2
         injection g1 with g1
         injection g2 with g2
         subst g1 g2
         exact HT.out
      case measure => simp only [intOf]; omega
    · have hz0 : (0 : Int) <= z := by omega
      have HT : Hid (¬ Mp.ltB p.1 q.1 = true) := zH (fun h => hzz (HZ.out.2 h))
      clear hzz
      refine tkL (i := 11) (v := .bool true) rfl (fun w _ => by go_simp) hS.out ?_
      refine wpAnyH_done (by kernel_rfl) ?_ _
      have HF : Hid (chainB (fun p q : Pr => Mp.ltB p.1 q.1) xs = false) := zH (by
       rw [Bool.eq_false_iff]
       intro h
       exact HT.out ((chainB_adj _ _).1 h j p q HP.out.1 HP.out.2))
      go_wp2_with fail
      go_ret
      exact ⟨ret_bool HF.out.symm, hS.out⟩
  · have hi1 : ¬ (j : Int) + 1 < (n : Int) := by omega
    have HY : Hid (chainB (fun p q : Pr => Mp.ltB p.1 q.1) xs = true) := zH ((chainB_adj _ _).2 fun i a b ha hb => HS.out i a b (by have := (List.getElem?_eq_some_iff.1 hb).1; have := HL.out; omega) ha hb)
    go_wp2_with fail
    go_ret
    exact ⟨ret_bool HY.out.symm, HB.out⟩
set_option maxHeartbeats 4000000 in
set_option maxRecDepth 100000 in
theorem isRisingT_any (w : World) {A : Option Addr} {n c B : Nat} {xs : List Ls} (h : RdL w B A n xs) (hn : n <= 1000) :
 Calls Tryz.prog 128 #[.slice A n c, .func (.func 129) #[] #[]] w fun e w' => e = .returned (.bool (chainB (fun a b : Ls => decide (a.s < b.s)) xs)) /\ Below w.heap.size w w' := by
 have hl := h.length
 have HL := zH hl
 have H := zH h.fit
 clear h hl
 go_enter Tryz.func128, Tryz.ntmps128
 go_wp2
 go_loopw [5] (fun s5 wr => ∃ j : Nat, j <= n /\ s5 = .int .i64 ((j : Int) + 1) /\ Hid (∀ (i : Nat) (a b : Ls), i < j -> xs[i]? = some a -> xs[i + 1]? = some b -> (fun a b : Ls => decide (a.s < b.s)) a b = true) /\ Hid (Below w.heap.size w wr)) (fun s5 _ => n + 1 - (intOf s5).toNat)
 case atStart => exact ⟨0, Nat.zero_le _, rfl, zH (fun i a b hi => absurd hi (by omega)), zH (Below.refl _ _)⟩
 case round =>
  obtain ⟨j, hj, rfl, HS, HB⟩ := hrel
  by_cases hlt : j + 1 < n
  · have hi1 : (j : Int) + 1 < (n : Int) := by omega
    have hi2 : IntKind.i64.wrap ((j : Int) + 1 - 1) = (j : Int) := by rw [show (j : Int) + 1 - 1 = (j : Int) by omega]; exact IntWalk.i64_in _ (by omega)
    have hi3 : IntKind.i64.wrap ((j : Int) + 1 + 1) = (j : Int) + 1 + 1 := IntWalk.i64_in _ (by omega)
    have hi4 : (j : Int) < (n : Int) := by omega
    have hi5 : IntKind.i64.wrap (j : Int) = (j : Int) := IntWalk.i64_in _ (by omega)
    have hi6 : ¬ (j : Int) + 1 < 0 := by omega
    obtain ⟨b, o, p, A1, c1, rfl, hp, u0, u1, u2, u3, u4, hrp⟩ := H.out.at (k := j) (by omega)
    obtain ⟨b', o', q, D1, d1, e, hq, v0, v1, v2, v3, v4, hrq⟩ := H.out.at (k := j + 1) (by omega)
    injection e with e
    injection e with e1 e2
    subst e1 e2
    have HC : Hid (∀ wx, Below w.heap.size w wx -> (wx.cell? ⟨b, o + j * 5, none⟩ = some (.int .i64 p.s) /\ wx.cell? ⟨b, o + j * 5 + 1, none⟩ = some (.int .i64 p.q) /\ wx.cell? ⟨b, o + j * 5 + 2, none⟩ = some (.int .i64 p.e) /\ wx.cell? ⟨b, o + j * 5 + 3, none⟩ = some (.slice A1 p.v.length c1) /\ wx.cell? ⟨b, o + j * 5 + 4, none⟩ = some (.int .i64 p.n)) /\ wx.cell? ⟨b, o + (j + 1) * 5, none⟩ = some (.int .i64 q.s) /\ wx.cell? ⟨b, o + (j + 1) * 5 + 1, none⟩ = some (.int .i64 q.q) /\ wx.cell? ⟨b, o + (j + 1) * 5 + 2, none⟩ = some (.int .i64 q.e) /\ wx.cell? ⟨b, o + (j + 1) * 5 + 3, none⟩ = some (.slice D1 q.v.length d1) /\ wx.cell? ⟨b, o + (j + 1) * 5 + 4, none⟩ = some (.int .i64 q.n)) :=
     zH (fun wx hb => ⟨⟨(hb.cell (World.block_lt_of_cell? _ _ u0)).trans u0, (hb.cell (World.block_lt_of_cell? _ _ u1)).trans u1, (hb.cell (World.block_lt_of_cell? _ _ u2)).trans u2, (hb.cell (World.block_lt_of_cell? _ _ u3)).trans u3, (hb.cell (World.block_lt_of_cell? _ _ u4)).trans u4⟩, (hb.cell (World.block_lt_of_cell? _ _ v0)).trans v0, (hb.cell (World.block_lt_of_cell? _ _ v1)).trans v1, (hb.cell (World.block_lt_of_cell? _ _ v2)).trans v2, (hb.cell (World.block_lt_of_cell? _ _ v3)).trans v3, (hb.cell (World.block_lt_of_cell? _ _ v4)).trans v4⟩)
    have HP := zH (And.intro hp hq)
    clear u0 u1 u2 u3 u4 v0 v1 v2 v3 v4 hrp hrq hp hq
    go_upto_region 4 with fail
    have hS0 : Below w.heap.size w wr.drew := HB.out.trans ((Below.refl _ _).drew.mono HB.out.size)
    refine wp_region_held_drew (S := fun w' => Below w.heap.size w w') (by kernel_rfl) hS0 (fun _ => ?_)
    have hS := zH hS0
    clear hS0
    generalize wr.drew = wd at hS |-
    refine tkL (i := 0) (v := .func (.func 129) #[] #[]) rfl (fun w _ => by go_simp) hS.out ?_
    refine tkL (i := 1) (v := .slice (some ⟨b, o, none⟩) n c) rfl (fun w _ => by go_simp) hS.out ?_
    refine tkL (i := 2) (v := .int .i64 ((j : Int) + 1)) rfl (fun w _ => by go_simp) hS.out ?_
    refine tkL (i := 3) (v := .int .i64 (j : Int)) rfl (fun w _ => by go_simp) hS.out ?_
    refine tkL (i := 6) (v := .slice (some ⟨b, o, none⟩) n c) rfl (fun w _ => by go_simp) hS.out ?_
    refine tkL (i := 7) (v := .int .i64 ((j : Int) + 1)) rfl (fun w _ => by go_simp) hS.out ?_
    refine tkL (i := 4) (v := .pointer (some ⟨b, o + j * 5, none⟩)) rfl (fun w _ => by go_simp) hS.out ?_
    refine tkL (i := 8) (v := .pointer (some ⟨b, o + (j + 1) * 5, none⟩)) rfl (fun w _ => by go_simp) hS.out ?_
    refine tkL (i := 5) (v := .agg #[.int .i64 p.s, .int .i64 p.q, .int .i64 p.e, .slice A1 p.v.length c1, .int .i64 p.n]) rfl (fun w h => by obtain ⟨⟨q0, q1, q2, q3, q4⟩, q5, q6, q7, q8, q9⟩ := HC.out w h; go_simp) hS.out ?_
    refine tkL (i := 9) (v := .agg #[.int .i64 q.s, .int .i64 q.q, .int .i64 q.e, .slice D1 q.v.length d1, .int .i64 q.n]) rfl (fun w h => by obtain ⟨⟨q0, q1, q2, q3, q4⟩, q5, q6, q7, q8, q9⟩ := HC.out w h; go_simp) hS.out ?_
    refine rdH (rs := [10]) ?_
    refine AllReadyH.cons rfl (fun K hK => ?_) AllReadyH.nil
    go_simp
    refine (bySess_any _ p q).mono ?_
    rintro e w2 ⟨⟨z, rfl, hz⟩, hb2⟩
    have HZ := zH hz
    clear hz
    have hS := zH (hS.out.trans (hb2.mono hS.out.size))
    clear hb2
    go_simp
    refine hK.out _ _ hS.out (fun _ => ?_)
    clear hK K
    by_cases hzz : z < 0
    · have hz0 : ¬ (0 : Int) <= z := by omega
      have HT := zH (HZ.out.1 hzz)
      clear hzz
      refine tkL (i := 11) (v := .bool false) rfl (fun w _ => by go_simp) hS.out ?_
      refine wpAnyH_done (by kernel_rfl) ?_ _
      go_wp2_with fail
      go_roundw
      case rel =>
       refine ⟨j + 1, by omega, by go_num, zH (fun i a b hi ha hb => ?_), hS⟩
       rcases Nat.lt_or_ge i j with h1 | h1
       · exact HS.out i a b h1 ha hb
       · obtain rfl : i = j := by omega
         obtain ⟨g1, g2⟩ := HP.out
         rw [ha] at g1
         rw [hb] at g2
         injection g1 with g1
         injection g2 with g2
         subst g1 g2
         exact decide_eq_true HT.out
      case measure => simp only [intOf]; omega
    · have hz0 : (0 : Int) <= z := by omega
      have HT : Hid (¬ p.s < q.s) := zH (fun h => hzz (HZ.out.2 h))
      clear hzz
      refine tkL (i := 11) (v := .bool true) rfl (fun w _ => by go_simp) hS.out ?_
      refine wpAnyH_done (by kernel_rfl) ?_ _
      have HF : Hid (chainB (fun a b : Ls => decide (a.s < b.s)) xs = false) := zH (by
       rw [Bool.eq_false_iff]
       intro h
       exact HT.out (of_decide_eq_true ((chainB_adj _ _).1 h j p q HP.out.1 HP.out.2)))
      go_wp2_with fail
      go_ret
      exact ⟨ret_bool HF.out.symm, hS.out⟩
  · have hi1 : ¬ (j : Int) + 1 < (n : Int) := by omega
    have HY : Hid (chainB (fun a b : Ls => decide (a.s < b.s)) xs = true) := zH ((chainB_adj _ _).2 fun i a b ha hb => HS.out i a b (by have := (List.getElem?_eq_some_iff.1 hb).1; have := HL.out; omega) ha hb)
    go_wp2_with fail
    go_ret
    exact ⟨ret_bool HY.out.symm, HB.out⟩
set_option maxRecDepth 100000 in
theorem badL_any (w : World) {A : Option Addr} {c : Nat} (l : Ls) :
 Calls Tryz.prog 131 #[.agg #[.int .i64 l.s, .int .i64 l.q, .int .i64 l.e, .slice A l.v.length c, .int .i64 l.n]] w fun e w' => e = .returned (.bool (decide (l.s < 1 \/ l.q < 1))) /\ Below w.heap.size w w' := by
 have b0 : Below w.heap.size w (w.alloc (.cells #[.int .i64 l.s, .int .i64 l.q, .int .i64 l.e, .slice A l.v.length c, .int .i64 l.n] 71)) := (Below.refl _ _).alloc lR _
 have HB := zH b0
 have HK := zH (Blk.new w 71 #[.int .i64 l.s, .int .i64 l.q, .int .i64 l.e, .slice A l.v.length c, .int .i64 l.n])
 clear b0
 by_cases h1 : l.s < 1
 · rw [decide_eq_true (Or.inl h1)]
   go_enter Tryz.func131, Tryz.ntmps131
   go_upto_region 1 with fail
   generalize w.alloc (.cells #[.int .i64 l.s, .int .i64 l.q, .int .i64 l.e, .slice A l.v.length c, .int .i64 l.n] 71) = wa at HB HK |-
   obtain ⟨x0, x1, _, _, _⟩ := five HK.out
   go_wp2_with fail
   go_ret
   exact ⟨rfl, HB.out⟩
 · by_cases h2 : l.q < 1
   · rw [decide_eq_true (Or.inr h2)]
     go_enter Tryz.func131, Tryz.ntmps131
     go_upto_region 1 with fail
     generalize w.alloc (.cells #[.int .i64 l.s, .int .i64 l.q, .int .i64 l.e, .slice A l.v.length c, .int .i64 l.n] 71) = wa at HB HK |-
     obtain ⟨x0, x1, _, _, _⟩ := five HK.out
     go_wp2_with fail
     go_ret
     exact ⟨rfl, HB.out⟩
   · rw [decide_eq_false (by omega)]
     go_enter Tryz.func131, Tryz.ntmps131
     go_upto_region 1 with fail
     generalize w.alloc (.cells #[.int .i64 l.s, .int .i64 l.q, .int .i64 l.e, .slice A l.v.length c, .int .i64 l.n] 71) = wa at HB HK |-
     obtain ⟨x0, x1, _, _, _⟩ := five HK.out
     go_wp2_with fail
     go_ret
     exact ⟨rfl, HB.out⟩
set_option maxHeartbeats 1000000 in
theorem indexFuncT_any (w : World) {n c B : Nat} {A : Option Addr} {ls : List Ls} (hn : n <= 100000) (h : RdL w B A n ls) :
 Calls Tryz.prog 72 #[.slice A n c, .func (.func 131) #[] #[]] w fun e w' => (∃ z : Int, e = .returned (.int .i64 z) /\ (0 <= z ↔ ∃ l ∈ ls, l.s < 1 \/ l.q < 1)) /\ Below w.heap.size w w' := by
 obtain rfl := h.length
 have H := zH h.fit
 clear h
 go_enter Tryz.func72, Tryz.ntmps72
 go_wp2_with fail
 go_loopw [5, 8] (fun s5 s8 wr => ∃ j : Nat, j <= ls.length /\ s8 = .int .i64 j /\ Hid (∀ (i : Nat) (m : Ls), i < j -> ls[i]? = some m -> ¬ (m.s < 1 \/ m.q < 1)) /\ Hid (Below w.heap.size w wr)) (fun _ s8 _ => ls.length - (intOf s8).toNat)
 case atStart => exact ⟨0, Nat.zero_le _, rfl, zH (fun i m hi => absurd hi (by omega)), zH (Below.refl _ _)⟩
 case round =>
  obtain ⟨j, hj, rfl, HS, HB0⟩ := hrel
  by_cases hlt : j < ls.length
  · obtain ⟨b, o, l, A1, c1, rfl, hl, y0, y1, y2, y3, y4, hrd⟩ := ((H.out.below HB0.out).fit).at hlt
    have HP := zH hl
    clear hl hrd
    by_cases he : l.s < 1 \/ l.q < 1
    · have HE := zH he
      have HD := zH (decide_eq_true he)
      clear he
      go_wp2_with (first
       | (go_at_call 131; refine (badL_any _ _).mono ?_; rw [HD.out]; rintro e w2 ⟨rfl, hb2⟩)
       | fail)
      go_ret
      exact ⟨⟨(j : Int), rfl, ⟨fun _ => ⟨l, List.mem_of_getElem? HP.out, HE.out⟩, fun _ => by omega⟩⟩, HB0.out.trans (hb2.mono HB0.out.size)⟩
    · have HE := zH he
      have HD := zH (decide_eq_false he)
      clear he
      go_wp2_with (first
       | (go_at_call 131; refine (badL_any _ _).mono ?_; rw [HD.out]; rintro e w2 ⟨rfl, hb2⟩)
       | fail)
      go_roundw
      case rel =>
       refine ⟨j + 1, by omega, by go_num, zH (fun i m hi hm => ?_), zH (HB0.out.trans (hb2.mono HB0.out.size))⟩
       rcases Nat.lt_or_ge i j with h1 | h1
       · exact HS.out i m h1 hm
       · obtain rfl : i = j := by omega
         rw [HP.out] at hm
         injection hm with hm
         subst hm
         exact HE.out
      case measure => simp [intOf]; omega
  · obtain rfl : j = ls.length := by omega
    go_wp2_with fail
    go_ret
    refine ⟨⟨-1, rfl, ⟨fun h => absurd h (by omega), ?_⟩⟩, HB0.out⟩
    rintro ⟨l, hl, hbad⟩
    obtain ⟨i, hi, e⟩ := List.getElem_of_mem hl
    exact absurd hbad (HS.out i l hi (by rw [List.getElem?_eq_getElem hi, e]))
theorem containsFuncT_any (w : World) {n c B : Nat} {A : Option Addr} {ls : List Ls} (hn : n <= 100000) (h : RdL w B A n ls) :
 Calls Tryz.prog 130 #[.slice A n c, .func (.func 131) #[] #[]] w fun e w' => e = .returned (.bool (decide (∃ l ∈ ls, l.s < 1 \/ l.q < 1))) /\ Below w.heap.size w w' := by
 have HC := zH (indexFuncT_any w (c := c) hn h)
 clear h
 obtain ⟨D, hD⟩ : ∃ D : Bool, decide (∃ l ∈ ls, l.s < 1 \/ l.q < 1) = D := ⟨_, rfl⟩
 have HD : Hid (D = true ↔ ∃ l ∈ ls, l.s < 1 \/ l.q < 1) := zH (by rw [<- hD]; exact decide_eq_true_iff)
 rw [hD]
 clear hD
 go_enter Tryz.func130, Tryz.ntmps130
 go_wp2_with (first
  | (go_at_call 72; refine HC.out.mono ?_; rintro e w2 ⟨⟨z, rfl, hz⟩, hb2⟩; have HZ := zH hz; have HB := zH hb2; clear hz hb2 HC)
  | fail)
 go_ret
 refine ⟨ret_bool ?_, HB.out⟩
 rw [Bool.eq_iff_iff]
 rw [HD.out, <- HZ.out]
 simp
theorem okT_of {ls : List Ls} (hb : ∀ l ∈ ls, l.s <= 1073741824 /\ l.q <= 1073741824) : okT ls = (chainB (fun a b : Ls => decide (a.s < b.s)) ls && !decide (∃ l ∈ ls, l.s < 1 \/ l.q < 1)) := by
 unfold okT
 rw [Bool.and_comm]
 congr 1
 rw [Bool.eq_iff_iff]
 simp only [List.all_eq_true, decide_eq_true_eq, Bool.not_eq_true', decide_eq_false_iff_not, not_exists, not_and]
 constructor
 · intro h l hl hbad
   have := h l hl
   unfold Tb.named at this
   omega
 · intro h l hl
   have h1 := h l hl
   have h2 := hb l hl
   unfold Tb.named
   omega
theorem isTable_any (w : World) {n c B : Nat} {A : Option Addr} {ls : List Ls} (hb : ∀ l ∈ ls, l.s <= 1073741824 /\ l.q <= 1073741824) (hn : n <= 1000) (h : RdL w B A n ls) :
 Calls Tryz.prog 59 #[.slice A n c] w fun e w' => e = .returned (.bool (okT ls)) /\ Below w.heap.size w w' := by
 rw [okT_of hb]
 have H := zH h.fit
 have HR := zH (isRisingT_any w (c := c) h hn)
 have HC : Hid (∀ wx, Below w.heap.size w wx -> Calls Tryz.prog 130 #[.slice A n c, .func (.func 131) #[] #[]] wx fun e w' => e = .returned (.bool (decide (∃ l ∈ ls, l.s < 1 \/ l.q < 1))) /\ Below wx.heap.size wx w') :=
  zH (fun wx hb => containsFuncT_any wx (by omega) (h.fit.below hb))
 clear h hb
 obtain ⟨D, hD⟩ : ∃ D : Bool, decide (∃ l ∈ ls, l.s < 1 \/ l.q < 1) = D := ⟨_, rfl⟩
 obtain ⟨C, hC⟩ : ∃ C : Bool, chainB (fun a b : Ls => decide (a.s < b.s)) ls = C := ⟨_, rfl⟩
 rw [hD] at HC |-
 rw [hC] at HR |-
 clear hD hC
 cases C with
 | false =>
   go_enter Tryz.func59, Tryz.ntmps59
   go_wp2_with (first
    | (go_at_call 128; refine HR.out.mono ?_; rintro e w2 ⟨rfl, hb2⟩)
    | fail)
   go_ret
   exact ⟨rfl, hb2⟩
 | true =>
   go_enter Tryz.func59, Tryz.ntmps59
   go_wp2_with (first
    | (go_at_call 128; refine HR.out.mono ?_; rintro e w2 ⟨rfl, hb2⟩)
    | (go_at_call 130; refine (HC.out _ hb2).mono ?_; rintro e w3 ⟨rfl, hb3⟩)
    | fail)
   go_ret
   exact ⟨rfl, hb2.trans (hb3.mono hb2.size)⟩
end Go.Proofs.YtlgpglhbbkikpaaGreat
