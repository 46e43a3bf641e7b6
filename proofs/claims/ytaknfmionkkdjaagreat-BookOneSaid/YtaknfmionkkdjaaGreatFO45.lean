/- SessCode MachStep -/
import Derived.Test.YtaknfmionkkdjaaGreatFO26
import Derived.Test.YtaknfmionkkdjaaGreatFO40
import Derived.Test.YtaknfmionkkdjaaGreatFO41
import Derived.Test.YtaknfmionkkdjaaGreatFO44
namespace Go.Proofs.YtaknfmionkkdjaaGreat
open Go.RowKit
set_option linter.unusedVariables false
set_option maxHeartbeats 4000000 in
set_option maxRecDepth 100000 in
theorem put9_raw {w : World} {ls : List Ls} {A A' : Option Addr} {n c c' B B' : Nat} (l : Ls) (hn : n ≤ 1000) (hL : LimLs ls) (hR : Tb.Rises ls) (hl1 : Lim 0 l.v.length) (h : RdL w B A n ls) (h' : Rd w B' A' l.v.length (bv l.v)) :
    Calls Tryz.prog 67 #[.slice A n c, .int .i64 l.s, .int .i64 l.q, .agg #[.int .i64 l.e, .slice A' l.v.length c', .int .i64 l.n]] w (GotL w w (Tb.put ls l)) := by
  obtain rfl := h.length
  have b0 : Below w.heap.size w (w.alloc (.cells #[.int .i64 l.e, .slice A' l.v.length c', .int .i64 l.n] 47)) := (Below.refl _ _).alloc (Nat.le_refl _) _
  have H := Lib.hid (h.fit.below b0)
  have H' := Lib.hid (h'.fit.below b0)
  have HK := Lib.hid (Blk.new w 47 #[.int .i64 l.e, .slice A' l.v.length c', .int .i64 l.n])
  have HL := Lib.hid hL
  have HR := Lib.hid hR
  have hDl := Tb.less_len ls l.s
  obtain ⟨D, hD⟩ : ∃ D, Tb.less ls l.s = D := ⟨_, rfl⟩
  rw [hD] at hDl
  have HD := Lib.hid hD
  have hn5 : ls.length ≤ 100000 := by omega
  have hDn : D.length ≤ 100000 := by omega
  clear h h' hL hR hD
  go_enter Tryz.func67, Tryz.ntmps67
  go_upto_region 3 with (first
    | (go_at_call 108; refine (without9_any (W := w) l.s hn5 HL.out H.out b0).mono ?_; rw [HD.out]; rintro e w1 ⟨g, rfl, ho1, hB1, hb1⟩; have HK1 := Lib.hid (HK.out.below hb1); obtain ⟨x0, x1, x2, f0, f1, f2⟩ := three HK1.out)
    | (go_at_call 90; refine (copied9_any (W := w) _ _ hl1 (H'.out.fit.below hb1) hB1).mono ?_; rintro e w2 ⟨A4, c4, rfl, ho2, hB2, hb2⟩; unfold resV)
    | fail)
  have HDR : Hid (Tb.Rises ls) := HR
  obtain ⟨wz, hwz⟩ : ∃ wz, w2.alloc (.cells #[.int .i64 l.s, .int .i64 l.q, .int .i64 l.e, .slice A4 l.v.length c4, .int .i64 l.n] 57) = wz := ⟨_, rfl⟩
  have hbz : Below w2.heap.size w2 wz := by rw [← hwz]; exact (Below.refl _ _).alloc (Nat.le_refl _) _
  have hkz : Blk wz w2.heap.size 57 #[.int .i64 l.s, .int .i64 l.q, .int .i64 l.e, .slice A4 l.v.length c4, .int .i64 l.n] := by rw [← hwz]; exact Blk.new _ _ _
  have HOZ := Lib.hid ((ho1.below hb2).below hbz)
  have HVZ := Lib.hid (own_below ho2 hbz)
  have HBZ := Lib.hid (hB2.trans (hbz.mono hB2.size))
  have HC : Hid (∀ wx, Below wz.heap.size wz wx → wx.cell? ⟨w2.heap.size, 0, none⟩ = some (.int .i64 l.s) ∧ wx.cell? ⟨w2.heap.size, 1, none⟩ = some (.int .i64 l.q) ∧ wx.cell? ⟨w2.heap.size, 2, none⟩ = some (.int .i64 l.e) ∧ wx.cell? ⟨w2.heap.size, 3, none⟩ = some (.slice A4 l.v.length c4) ∧ wx.cell? ⟨w2.heap.size, 4, none⟩ = some (.int .i64 l.n)) :=
    Lib.hid (fun wx hb => five5 (hkz.below hb))
  have hg : g < wz.heap.size := by
    obtain ⟨q, q1, _⟩ := HOZ.out
    obtain ⟨_, q2, _⟩ := own_cur q1
    exact q2.lt
  have HG := Lib.hid hg
  obtain ⟨z0, z1, z2, z3, z4⟩ := HC.out wz.drew (Below.refl _ _).drew
  rw [hwz]
  have hD1 : D.length < ls.length + 1 := by omega
  clear hwz hbz hkz hg ho1 hB1 hb1 ho2 hB2 hb2 b0 H H' HK HK1 HL x0 x1 x2 f0 f1 f2
  go_region_law (first
    | (rw [if_pos (by kernel_rfl)]; go_simp; go_at_call 110; refine (place9_any _ (s := l.s) hDn (HOZ.out.below (Below.refl _ _).drew).rd).mono ?_; rintro e w4 ⟨⟨i, rfl, hi, hlo, hhi⟩, hb4⟩
       have hb5 := (Below.refl wz.heap.size wz).drew.trans hb4
       have ho4 := HOZ.out.below hb5
       have hv4 := own_below HVZ.out hb5
       have hB4 := HBZ.out.trans (hb5.mono HBZ.out.size)
       have b6 : Below w4.heap.size w4 (w4.alloc (.cells #[.int .i64 l.s, .int .i64 l.q, .int .i64 l.e, .slice A4 l.v.length c4, .int .i64 l.n] 57)) := (Below.refl _ _).alloc (Nat.le_refl _) _
       obtain ⟨z0, z1, z2, z3, z4⟩ := HC.out w4 hb5
       go_simp)
    | (rw [if_pos (by kernel_rfl)]; go_simp; go_at_call 110; refine (place9_any _ (s := l.s) hDn (HOZ.out.below ((Below.refl _ _).drew.alloc (Nat.le_refl _) (.cells #[.int .i64 l.s, .int .i64 l.q, .int .i64 l.e, .slice A4 l.v.length c4, .int .i64 l.n] 57))).rd).mono ?_; rintro e w4 ⟨⟨i, rfl, hi, hlo, hhi⟩, hb4⟩
       have hb5 := ((Below.refl wz.heap.size wz).drew.alloc (Nat.le_refl _) (.cells #[.int .i64 l.s, .int .i64 l.q, .int .i64 l.e, .slice A4 l.v.length c4, .int .i64 l.n] 57)).trans (hb4.mono (by simp))
       have ho4 := HOZ.out.below hb5
       have hv4 := own_below HVZ.out hb5
       have hB4 := HBZ.out.trans (hb5.mono HBZ.out.size)
       have hk4 := (Blk.new wz.drew 57 #[.int .i64 l.s, .int .i64 l.q, .int .i64 l.e, .slice A4 l.v.length c4, .int .i64 l.n]).below hb4
       have hne : wz.drew.heap.size ≠ g := by have := HG.out; simp; omega
       obtain ⟨z0, z1, z2, z3, z4⟩ := HC.out w4 hb5
       go_simp)
    | (rw [if_pos (by kernel_rfl)]; go_simp; go_at_call 109; refine (insertL_any (W := w) hDn hi hD1 (by have := HG.out; have := hb5.size; omega) (ho4.below b6) (Blk.new w4 57 #[.int .i64 l.s, .int .i64 l.q, .int .i64 l.e, .slice A4 l.v.length c4, .int .i64 l.n]) (own_below hv4 b6) (hB4.trans (b6.mono hB4.size))).mono ?_
       rintro e w6 ⟨rfl, ho6, hB6⟩
       go_simp)
    | (rw [if_pos (by kernel_rfl)]; go_simp; go_at_call 109; refine (insertL_any (W := w) hDn hi hD1 hne ho4 hk4 hv4 hB4).mono ?_
       rintro e w6 ⟨rfl, ho6, hB6⟩
       go_simp))
  all_goals go_wp2_with fail
  all_goals go_ret
  all_goals
    have HAT : Tb.At D l.s i := by rw [← HD.out]; exact Tb.less_at (by rw [HD.out]; exact hi) (by rw [HD.out]; intro j m h1 h2; have := hlo j m h1 h2; omega) (by rw [HD.out]; exact hhi)
    have HP := Tb.put_less (l := l) (i := i) HR.out (by rw [HD.out]; exact HAT)
    rw [HD.out] at HP
    rw [← HP] at ho6
    have hl6 := ho6.length
    exact ⟨some ⟨g, 0, none⟩, ls.length + 1, by rw [hl6]; rfl, by rw [hl6]; exact ho6, hB6, hB6⟩
theorem put9 : PutC9 := fun {W w ls A A' n c c' B B'} l hok hnm hv hb hc h h' hB =>
  (put9_raw l (by have := h.length; have := hok.len; omega) hok.lim hok.rises (by unfold Lim; omega) h h').mono fun e w' h => GotL.of hB h
end Go.Proofs.YtaknfmionkkdjaaGreat

namespace Go.Proofs.YtaknfmionkkdjaaGreat
open Go.RowKit
set_option linter.unusedVariables false
set_option maxHeartbeats 4000000 in
set_option maxRecDepth 100000 in
theorem step_raw {w : World} {a : MA} {ca : CA} {m : Mc} {e : En} {B B' : Nat} (hM : m.Ok) (hc : e.c.Fits) (h : RdM w B a m) (h' : RdC w B' ca e.c) :
    Calls Tryz.prog 53 #[machV a m, entV ca e] w (GotM w w (m.step e)) := by
  obtain ⟨⟨A0, c0, A1, c1, A2, c2, A3, c3⟩, At, ct⟩ := a
  obtain ⟨Ak, ck, Av, cv, Ao, co⟩ := ca
  have HV := Lib.hid (VarsM.start (e := e) h h')
  have HM := Lib.hid hM
  have HC := Lib.hid hc
  have hct : m.t.length ≤ ct := h.lt
  clear h h' hM hc
  unfold machV entV
  simp only [machC, entC] at HV ⊢
  obtain ⟨K, hK⟩ : ∃ K, Tb.look m.t e.s e.q = K := ⟨_, rfl⟩
  have HLK := Lib.hid (fun (W w : World) (B : Nat) (h : RdL w B At m.t.length m.t) (hB : Below W.heap.size W w) => look9 (W := W) (c := ct) e.s e.q HM.out.t hct h hB)
  rw [hK] at HLK
  by_cases hk : K.k = 0
  · have hkb : (K.k != 0) = false := by simpa using hk
    obtain ⟨r, hr⟩ : ∃ r, m.o.apply e.c = r := ⟨_, rfl⟩
    have HST : Hid (m.step e = ⟨⟨r.s, Tb.put m.t ⟨e.s, e.q, r.e, r.v, r.n⟩⟩, r.e, r.v, r.n⟩) := Lib.hid (by unfold Mc.step; rw [hK, if_pos hk, hr])
    have HRB : Hid (∀ x ∈ r.v, x < 256) := Lib.hid (by rw [← hr]; exact Ob.apply_vb HM.out.o)
    have HNM : Hid (Tb.named e.s e.q) := Lib.hid (by
      unfold Tb.look at hK
      split at hK
      · assumption
      · rw [← hK] at hk; simp at hk)
    have HRV : Hid (r.v.length ≤ 16) := Lib.hid (by rw [← hr]; exact (Ob.apply_fits (c := e.c) HM.out.o HM.out.lk).v)
    have HAP := Lib.hid (fun (W w : World) (a : OA) (ca : CA) (B B' : Nat) (h : RdO w B a m.o) (h' : RdC w B' ca e.c) (hB : Below W.heap.size W w) => apply8 (W := W) HM.out.o HC.out h h' hB)
    rw [hr] at HAP
    clear hK hk hr
    go_enter Tryz.func53, Tryz.ntmps53
    go_upto_region 1 with fail
    generalize ((((w.alloc (.cells #[.slice A0 m.o.reg.length c0, .slice A1 m.o.q.length c1, .slice A2 m.o.lk.length c2, .slice A3 m.o.mp.length c3, .slice At m.t.length ct] 33)).alloc (.cells #[.int .i64 e.s, .int .i64 e.q, .int .i64 e.c.kind, .int .i64 e.c.who, .slice Ak e.c.key.length ck, .slice Av e.c.val.length cv, .slice Ao e.c.old.length co] 40)).alloc (.cells #[.slice none 0 0, .slice none 0 0, .slice none 0 0, .slice none 0 0, .slice none 0 0] 33)).alloc (.cells #[.int .i64 0, .slice none 0 0, .int .i64 0] 47)) = wa at HV ⊢
    obtain ⟨⟨x0, x1, x2, x3, x4⟩, ⟨y0, y1, y2, y3, y4, y5, y6⟩, _⟩ := HV.out.cells
    go_upto_region 5 with (first
      | (go_at_call 65; refine (HLK.out w _ _ HV.out.rm.t HV.out.bel).mono ?_; rintro en w1 ⟨A5, c5, rfl, ho1, hB1, hb1⟩; unfold resV; have HG1 := Lib.hid (HV.out.below hb1).v3.lt; have hb1' := hb1.alloc hb1.size (.cells #[.int .i64 K.e, .slice A5 K.v.length c5, .int .i64 K.n] 47); have HV1 := Lib.hid (HV.out.below hb1'); have HK1 := Lib.hid (Blk.new w1 47 #[.int .i64 K.e, .slice A5 K.v.length c5, .int .i64 K.n]); obtain ⟨⟨x0, x1, x2, x3, x4⟩, ⟨y0, y1, y2, y3, y4, y5, y6⟩, _⟩ := HV1.out.cells)
      | (go_at_call 66; refine (HAP.out w _ ⟨A0, c0, A1, c1, A2, c2, A3, c3⟩ ⟨Ak, ck, Av, cv, Ao, co⟩ _ _ HV1.out.rm.o HV1.out.rc HV1.out.bel).mono ?_; rintro en w2 ⟨a2, A6, c6, rfl, ho2, hv2, hB2, hb2⟩; unfold resV objV objC; have hb2' := hb2.alloc hb2.size (.cells #[.slice a2.A0 r.s.reg.length a2.c0, .slice a2.A1 r.s.q.length a2.c1, .slice a2.A2 r.s.lk.length a2.c2, .slice a2.A3 r.s.mp.length a2.c3] 30); have HG2 := Lib.hid (HK1.out.below hb2).lt; have HV2 := Lib.hid (HV1.out.below hb2'); have HK2 := Lib.hid (HK1.out.below hb2'); have HQ2 := Lib.hid (Blk.new w2 30 #[.slice a2.A0 r.s.reg.length a2.c0, .slice a2.A1 r.s.q.length a2.c1, .slice a2.A2 r.s.lk.length a2.c2, .slice a2.A3 r.s.mp.length a2.c3]); have HO2 := Lib.hid (ho2.below ((Below.refl _ _).alloc (Nat.le_refl _) (.cells #[.slice a2.A0 r.s.reg.length a2.c0, .slice a2.A1 r.s.q.length a2.c1, .slice a2.A2 r.s.lk.length a2.c2, .slice a2.A3 r.s.mp.length a2.c3] 30))); have HR2 := Lib.hid (own_below hv2 ((Below.refl _ _).alloc (Nat.le_refl _) (.cells #[.slice a2.A0 r.s.reg.length a2.c0, .slice a2.A1 r.s.q.length a2.c1, .slice a2.A2 r.s.lk.length a2.c2, .slice a2.A3 r.s.mp.length a2.c3] 30))); obtain ⟨k0, k1, k2, f0, f1, f2⟩ := three HK2.out; clear hb2' hb2 ho2 hv2 hB2)
      | fail)
    have hg1 := HG1.out
    have hg2 := HG2.out
    obtain ⟨p1, p2, p3⟩ := put3 HK2.out (.int .i64 r.e) (.slice A6 r.v.length c6) (.int .i64 r.n)
    have HV6 := Lib.hid (((HV2.out.set (Nat.le_refl _) hg1 (i := 0) (u := .int .i64 r.e)).set (Nat.le_refl _) hg1 (i := 1) (u := .slice A6 r.v.length c6)).set (Nat.le_refl _) hg1 (i := 2) (u := .int .i64 r.n))
    have HQ6 := Lib.hid (((HQ2.out.set_other (b := w1.heap.size) (i := 0) (u := .int .i64 r.e) (by omega)).set_other (b := w1.heap.size) (i := 1) (u := .slice A6 r.v.length c6) (by omega)).set_other (b := w1.heap.size) (i := 2) (u := .int .i64 r.n) (by omega))
    have HK6 := Lib.hid p1
    have HR6 := Lib.hid (p3 _ _ _ _ _ _ HR2.out (by decide))
    have HO6 := Lib.hid (((HO2.out.set_t HK2.out (i := 0) (u := .int .i64 r.e) (by decide) (by decide) (by decide) (by decide)).set_t (HK2.out.set_ _ _) (i := 1) (u := .slice A6 r.v.length c6) (by decide) (by decide) (by decide) (by decide)).set_t ((HK2.out.set_ _ _).set_ _ _) (i := 2) (u := .int .i64 r.n) (by decide) (by decide) (by decide) (by decide))
    clear p1 p2 p3 HV2 HQ2 HK2 HO2 HR2 HG1 HG2 HV1 HK1 HV x0 x1 x2 x3 x4 y0 y1 y2 y3 y4 y5 y6 k0 k1 k2 f0 f1 f2 HAP HLK
    generalize ((((w2.alloc (.cells #[.slice a2.A0 r.s.reg.length a2.c0, .slice a2.A1 r.s.q.length a2.c1, .slice a2.A2 r.s.lk.length a2.c2, .slice a2.A3 r.s.mp.length a2.c3] 30)).setCell ⟨w1.heap.size, 0, none⟩ (.int .i64 r.e)).setCell ⟨w1.heap.size, 1, none⟩ (.slice A6 r.v.length c6)).setCell ⟨w1.heap.size, 2, none⟩ (.int .i64 r.n)) = wx at HV6 HQ6 HK6 HR6 HO6 ⊢
    have HP := Lib.hid (fun (W w : World) (B B' : Nat) (h : RdL w B At m.t.length m.t) (h' : Rd w B' A6 r.v.length (bv r.v)) (hB : Below W.heap.size W w) => put9 (W := W) (l := ⟨e.s, e.q, r.e, r.v, r.n⟩) (c := ct) (c' := c6) HM.out.t HNM.out HRV.out HRB.out hct h h' hB)
    have hbd : Below wx.heap.size wx wx.drew := (Below.refl _ _).drew
    have HV7 := Lib.hid (HV6.out.below hbd)
    have HR7 := Lib.hid (own_below HR6.out hbd)
    have HO7 := Lib.hid (HO6.out.below hbd)
    have HS7 : Hid (SM w.heap.size w1.heap.size w2.heap.size #[.slice A0 m.o.reg.length c0, .slice A1 m.o.q.length c1, .slice A2 m.o.lk.length c2, .slice A3 m.o.mp.length c3, .slice At m.t.length ct] #[.int .i64 e.s, .int .i64 e.q, .int .i64 e.c.kind, .int .i64 e.c.who, .slice Ak e.c.key.length ck, .slice Av e.c.val.length cv, .slice Ao e.c.old.length co] #[.int .i64 r.e, .slice A6 r.v.length c6, .int .i64 r.n] #[.slice a2.A0 r.s.reg.length a2.c0, .slice a2.A1 r.s.q.length a2.c1, .slice a2.A2 r.s.lk.length a2.c2, .slice a2.A3 r.s.mp.length a2.c3] wx.drew) := Lib.hid ⟨HV7.out.v0, HV7.out.v1, HK6.out.below hbd, HQ6.out.below hbd⟩
    refine wp_region_held_drew (S := SM w.heap.size w1.heap.size w2.heap.size #[.slice A0 m.o.reg.length c0, .slice A1 m.o.q.length c1, .slice A2 m.o.lk.length c2, .slice A3 m.o.mp.length c3, .slice At m.t.length ct] #[.int .i64 e.s, .int .i64 e.q, .int .i64 e.c.kind, .int .i64 e.c.who, .slice Ak e.c.key.length ck, .slice Av e.c.val.length cv, .slice Ao e.c.old.length co] #[.int .i64 r.e, .slice A6 r.v.length c6, .int .i64 r.n] #[.slice a2.A0 r.s.reg.length a2.c0, .slice a2.A1 r.s.q.length a2.c1, .slice a2.A2 r.s.lk.length a2.c2, .slice a2.A3 r.s.mp.length a2.c3]) (by kernel_rfl) HS7.out (fun _ => ?_)
    clear hbd HV6 HR6 HO6 HK6 HQ6
    generalize wx.drew = wd at HV7 HR7 HO7 HS7 ⊢
    refine wpAnyH_take (i := 1) (v := .pointer (some ⟨w.heap.size, 4, none⟩)) rfl (by kernel_rfl) (by kernel_rfl) (by kernel_rfl) (fun _ _ _ h => h) (Or.inl ⟨by kernel_rfl, fun w _ => by go_simp⟩) HS7.out ?_
    refine wpAnyH_take (i := 3) (v := .pointer (some ⟨w.heap.size + 1, 0, none⟩)) rfl (by kernel_rfl) (by kernel_rfl) (by kernel_rfl) (fun _ _ _ h => h) (Or.inl ⟨by kernel_rfl, fun w _ => by go_simp⟩) HS7.out ?_
    refine wpAnyH_take (i := 5) (v := .pointer (some ⟨w.heap.size + 1, 1, none⟩)) rfl (by kernel_rfl) (by kernel_rfl) (by kernel_rfl) (fun _ _ _ h => h) (Or.inl ⟨by kernel_rfl, fun w _ => by go_simp⟩) HS7.out ?_
    refine wpAnyH_take (i := 0) (v := .agg #[.slice a2.A0 r.s.reg.length a2.c0, .slice a2.A1 r.s.q.length a2.c1, .slice a2.A2 r.s.lk.length a2.c2, .slice a2.A3 r.s.mp.length a2.c3]) rfl (by kernel_rfl) (by kernel_rfl) (by kernel_rfl) (fun _ _ _ h => h) (Or.inl ⟨by kernel_rfl, fun w h => by obtain ⟨q0, q1, q2, q3, _⟩ := four h.2.2.2; go_simp⟩) HS7.out ?_
    refine wpAnyH_take (i := 2) (v := .slice At m.t.length ct) rfl (by kernel_rfl) (by kernel_rfl) (by kernel_rfl) (fun _ _ _ h => h) (Or.inl ⟨by kernel_rfl, fun w h => by obtain ⟨q0, q1, q2, q3, q4⟩ := five h.1; go_simp⟩) HS7.out ?_
    refine wpAnyH_take (i := 4) (v := .int .i64 e.s) rfl (by kernel_rfl) (by kernel_rfl) (by kernel_rfl) (fun _ _ _ h => h) (Or.inl ⟨by kernel_rfl, fun w h => by obtain ⟨q0, q1, q2, q3, q4, q5, q6⟩ := seven h.2.1; go_simp⟩) HS7.out ?_
    refine wpAnyH_take (i := 6) (v := .int .i64 e.q) rfl (by kernel_rfl) (by kernel_rfl) (by kernel_rfl) (fun _ _ _ h => h) (Or.inl ⟨by kernel_rfl, fun w h => by obtain ⟨q0, q1, q2, q3, q4, q5, q6⟩ := seven h.2.1; go_simp⟩) HS7.out ?_
    refine wpAnyH_take (i := 7) (v := .agg #[.int .i64 r.e, .slice A6 r.v.length c6, .int .i64 r.n]) rfl (by kernel_rfl) (by kernel_rfl) (by kernel_rfl) (fun _ _ _ h => h) (Or.inl ⟨by kernel_rfl, fun w h => by obtain ⟨q0, q1, q2, _, _, _⟩ := three h.2.2.1; go_simp⟩) HS7.out ?_
    refine wpAnyH_take (i := 10) (v := .agg #[.int .i64 r.e, .slice A6 r.v.length c6, .int .i64 r.n]) rfl (by kernel_rfl) (by kernel_rfl) (by kernel_rfl) (fun _ _ _ h => h) (Or.inl ⟨by kernel_rfl, fun w h => by obtain ⟨q0, q1, q2, _, _, _⟩ := three h.2.2.1; go_simp⟩) HS7.out ?_
    refine wpAnyH_ready (rs := [8]) (by kernel_rfl) (by simp) ?_
    refine AllReadyH.cons rfl (fun K hK => ?_) AllReadyH.nil
    go_simp
    refine (HP.out w _ _ _ HV7.out.rm.t (Rd.own_ HR7.out) HV7.out.bel).mono ?_
    rintro en w3 ⟨A7, c7, rfl, ho7, hB7, hb7⟩
    have HK8 := Lib.hid (HS7.out.2.2.1.below hb7)
    have HV8 := Lib.hid (HV7.out.below hb7)
    have HR8 := Lib.hid (own_below HR7.out hb7)
    have HO8 := Lib.hid (HO7.out.below hb7)
    have HS8 := Lib.hid (HS7.out.below hb7)
    clear HV7 HR7 HO7 HS7
    go_simp
    refine hK.out _ _ HS8.out (fun _ => ?_)
    clear hK K
    refine wpAnyH_take (i := 9) (v := .agg #[.slice a2.A0 r.s.reg.length a2.c0, .slice a2.A1 r.s.q.length a2.c1, .slice a2.A2 r.s.lk.length a2.c2, .slice a2.A3 r.s.mp.length a2.c3, .slice A7 (Tb.put m.t ⟨e.s, e.q, r.e, r.v, r.n⟩).length c7]) rfl (by kernel_rfl) (by kernel_rfl) (by kernel_rfl) (fun _ _ _ h => h) (Or.inl ⟨by kernel_rfl, fun w _ => by go_simp⟩) HS8.out ?_
    have l1 := HK8.out.lt
    have HS9 := Lib.hid (HS8.out.set5 (k := w.heap.size + 1 + 1) (u0 := .slice a2.A0 r.s.reg.length a2.c0) (u1 := .slice a2.A1 r.s.q.length a2.c1) (u2 := .slice a2.A2 r.s.lk.length a2.c2) (u3 := .slice a2.A3 r.s.mp.length a2.c3) (u4 := .slice A7 (Tb.put m.t ⟨e.s, e.q, r.e, r.v, r.n⟩).length c7) (by omega) (by omega) (by omega) (by omega))
    obtain ⟨_, _, _, _, k5⟩ := put5 HV8.out.v2 (.slice a2.A0 r.s.reg.length a2.c0) (.slice a2.A1 r.s.q.length a2.c1) (.slice a2.A2 r.s.lk.length a2.c2) (.slice a2.A3 r.s.mp.length a2.c3) (.slice A7 (Tb.put m.t ⟨e.s, e.q, r.e, r.v, r.n⟩).length c7)
    have l0 := k5 (w.heap.size + 1 + 1 + 1) _ _ (by omega) HV8.out.v3
    have HS10 := Lib.hid (HS9.out.set3 (k := w.heap.size + 1 + 1 + 1) (u0 := .int .i64 r.e) (u1 := .slice A6 r.v.length c6) (u2 := .int .i64 r.n) (by omega) (by omega) (by omega) (by omega))
    obtain ⟨e1, e2, e3⟩ := HV8.out.end_ (Nat.le_refl _) (r := ⟨⟨r.s, Tb.put m.t ⟨e.s, e.q, r.e, r.v, r.n⟩⟩, r.e, r.v, r.n⟩) (a' := ⟨a2, A7, c7⟩) ⟨HO8.out, ho7⟩ HR8.out (.slice a2.A0 r.s.reg.length a2.c0) (.slice a2.A1 r.s.q.length a2.c1) (.slice a2.A2 r.s.lk.length a2.c2) (.slice a2.A3 r.s.mp.length a2.c3) (.slice A7 (Tb.put m.t ⟨e.s, e.q, r.e, r.v, r.n⟩).length c7) (.int .i64 r.e) (.slice A6 r.v.length c6) (.int .i64 r.n) rfl rfl rfl
    have HE := Lib.hid (And.intro e1 (And.intro e2 e3))
    obtain ⟨_, _, ⟨z0, z1, z2, z3, z4⟩, ⟨u0, u1, u2⟩, ⟨q0, q1, q2, q3, q4⟩, ⟨r0, r1, r2⟩⟩ := HV8.out.cells
    obtain ⟨p0, p1, p2, d0, d1, d2⟩ := three l0
    clear k5 l0 e1 e2 e3 r0 r1 r2 u0 u1 u2
    refine wpAnyH_ready (rs := [11]) (by kernel_rfl) (by simp) ?_
    refine AllReadyH.cons rfl (fun K hK => ?_) AllReadyH.nil
    go_simp
    refine hK.out _ _ HS9.out (fun _ => ?_)
    clear hK K
    clear z0 z1 z2 z3 z4 q0 q1 q2 q3 q4
    generalize (((((w3.setCell ⟨w.heap.size + 1 + 1, 0, none⟩ (.slice a2.A0 r.s.reg.length a2.c0)).setCell ⟨w.heap.size + 1 + 1, 1, none⟩ (.slice a2.A1 r.s.q.length a2.c1)).setCell ⟨w.heap.size + 1 + 1, 2, none⟩ (.slice a2.A2 r.s.lk.length a2.c2)).setCell ⟨w.heap.size + 1 + 1, 3, none⟩ (.slice a2.A3 r.s.mp.length a2.c3)).setCell ⟨w.heap.size + 1 + 1, 4, none⟩ (.slice A7 (Tb.put m.t ⟨e.s, e.q, r.e, r.v, r.n⟩).length c7)) = w9 at HE HS9 HS10 p0 p1 p2 d0 d1 d2 ⊢
    refine wpAnyH_ready (rs := [12]) (by kernel_rfl) (by simp) ?_
    refine AllReadyH.cons rfl (fun K hK => ?_) AllReadyH.nil
    go_simp
    refine hK.out _ _ HS10.out (fun _ => ?_)
    clear hK K
    refine wpAnyH_done (by kernel_rfl) ?_ _
    go_wp2_with fail
    refine bodyPost_ret (results_cells2 rfl _ _ _ _ _ _ _ _ _ _ rfl rfl HE.out.1 HE.out.2.1 Tryz.underlying33 rfl (by kernel_rfl) Tryz.underlying47 rfl (by kernel_rfl)) rfl ?_
    rw [HST.out]
    exact HE.out.2.2
  · have hkb : (K.k != 0) = true := by simpa using hk
    have HST : Hid (m.step e = ⟨m, K.e, K.v, K.n⟩) := Lib.hid (by unfold Mc.step; rw [hK, if_neg hk])
    clear hK hk
    go_enter Tryz.func53, Tryz.ntmps53
    go_upto_region 1 with fail
    generalize ((((w.alloc (.cells #[.slice A0 m.o.reg.length c0, .slice A1 m.o.q.length c1, .slice A2 m.o.lk.length c2, .slice A3 m.o.mp.length c3, .slice At m.t.length ct] 33)).alloc (.cells #[.int .i64 e.s, .int .i64 e.q, .int .i64 e.c.kind, .int .i64 e.c.who, .slice Ak e.c.key.length ck, .slice Av e.c.val.length cv, .slice Ao e.c.old.length co] 40)).alloc (.cells #[.slice none 0 0, .slice none 0 0, .slice none 0 0, .slice none 0 0, .slice none 0 0] 33)).alloc (.cells #[.int .i64 0, .slice none 0 0, .int .i64 0] 47)) = wa at HV ⊢
    obtain ⟨⟨x0, x1, x2, x3, x4⟩, ⟨y0, y1, y2, y3, y4, y5, y6⟩, _⟩ := HV.out.cells
    go_upto_region 3 with (first
      | (go_at_call 65; refine (HLK.out w _ _ HV.out.rm.t HV.out.bel).mono ?_; rintro en w1 ⟨A5, c5, rfl, ho1, hB1, hb1⟩; unfold resV; have HG1 := Lib.hid (HV.out.below hb1).v3.lt; have hb1' := hb1.alloc hb1.size (.cells #[.int .i64 K.e, .slice A5 K.v.length c5, .int .i64 K.n] 47); have HV1 := Lib.hid (HV.out.below hb1'); have HK1 := Lib.hid (Blk.new w1 47 #[.int .i64 K.e, .slice A5 K.v.length c5, .int .i64 K.n]); have HO1 := Lib.hid (own_below ho1 ((Below.refl _ _).alloc (Nat.le_refl _) (.cells #[.int .i64 K.e, .slice A5 K.v.length c5, .int .i64 K.n] 47))); obtain ⟨⟨x0, x1, x2, x3, x4⟩, ⟨y0, y1, y2, y3, y4, y5, y6⟩, _⟩ := HV1.out.cells)
      | fail)
    have hg1 := HG1.out
    clear HV x0 x1 x2 x3 x4 y0 y1 y2 y3 y4 y5 y6 HLK ho1 hB1 hb1 hb1'
    generalize w1.alloc (.cells #[.int .i64 K.e, .slice A5 K.v.length c5, .int .i64 K.n] 47) = wx at HV1 HK1 HO1 ⊢
    have hbd : Below wx.heap.size wx wx.drew := (Below.refl _ _).drew
    have HV7 := Lib.hid (HV1.out.below hbd)
    have HR7 := Lib.hid (own_below HO1.out hbd)
    have HS7 : Hid (Blk wx.drew w.heap.size 33 #[.slice A0 m.o.reg.length c0, .slice A1 m.o.q.length c1, .slice A2 m.o.lk.length c2, .slice A3 m.o.mp.length c3, .slice At m.t.length ct] ∧ Blk wx.drew w1.heap.size 47 #[.int .i64 K.e, .slice A5 K.v.length c5, .int .i64 K.n]) := Lib.hid ⟨HV7.out.v0, HK1.out.below hbd⟩
    refine wp_region_held_drew (S := fun w' => Blk w' w.heap.size 33 #[.slice A0 m.o.reg.length c0, .slice A1 m.o.q.length c1, .slice A2 m.o.lk.length c2, .slice A3 m.o.mp.length c3, .slice At m.t.length ct] ∧ Blk w' w1.heap.size 47 #[.int .i64 K.e, .slice A5 K.v.length c5, .int .i64 K.n]) (by kernel_rfl) HS7.out (fun _ => ?_)
    clear hbd HV1 HK1 HO1
    generalize wx.drew = wd at HV7 HR7 HS7 ⊢
    refine wpAnyH_take (i := 0) (v := .agg #[.slice A0 m.o.reg.length c0, .slice A1 m.o.q.length c1, .slice A2 m.o.lk.length c2, .slice A3 m.o.mp.length c3, .slice At m.t.length ct]) rfl (by kernel_rfl) (by kernel_rfl) (by kernel_rfl) (fun _ _ _ h => h) (Or.inl ⟨by kernel_rfl, fun w h => by obtain ⟨q0, q1, q2, q3, q4⟩ := five h.1; go_simp⟩) HS7.out ?_
    refine wpAnyH_take (i := 2) (v := .agg #[.int .i64 K.e, .slice A5 K.v.length c5, .int .i64 K.n]) rfl (by kernel_rfl) (by kernel_rfl) (by kernel_rfl) (fun _ _ _ h => h) (Or.inl ⟨by kernel_rfl, fun w h => by obtain ⟨q0, q1, q2, _, _, _⟩ := three h.2; go_simp⟩) HS7.out ?_
    refine wpAnyH_ready (rs := [1]) (by kernel_rfl) (by simp) ?_
    refine AllReadyH.cons rfl (fun K hK => ?_) AllReadyH.nil
    go_simp
    refine (machineA_any (W := w) (a := ⟨⟨A0, c0, A1, c1, A2, c2, A3, c3⟩, At, ct⟩) HM.out HV7.out.rm HV7.out.bel).mono ?_
    rintro en w3 ⟨⟨⟨B0, d0, B1, d1, B2, d2, B3, d3⟩, Bt, dt⟩, rfl, ho7, hB7, hb7⟩
    unfold machV machC
    have HV8 := Lib.hid (HV7.out.below hb7)
    have HR8 := Lib.hid (own_below HR7.out hb7)
    have HS8 := Lib.hid (And.intro (HS7.out.1.below hb7) (HS7.out.2.below hb7))
    clear HV7 HR7 HS7
    go_simp
    refine hK.out _ _ HS8.out (fun _ => ?_)
    clear hK K
    have l1 := HS8.out.2.lt
    obtain ⟨_, _, _, _, k5⟩ := put5 HV8.out.v2 (.slice B0 m.o.reg.length d0) (.slice B1 m.o.q.length d1) (.slice B2 m.o.lk.length d2) (.slice B3 m.o.mp.length d3) (.slice Bt m.t.length dt)
    have HS9 := Lib.hid (And.intro (k5 _ _ _ (by omega) HS8.out.1) (k5 _ _ _ (by omega) HS8.out.2))
    have l0 := k5 (w.heap.size + 1 + 1 + 1) _ _ (by omega) HV8.out.v3
    have HS10 := Lib.hid (And.intro (((HS9.out.1.set_other (i := 0) (u := .int .i64 K.e) (b := w.heap.size + 1 + 1 + 1) (by omega)).set_other (i := 1) (u := .slice A5 K.v.length c5) (b := w.heap.size + 1 + 1 + 1) (by omega)).set_other (i := 2) (u := .int .i64 K.n) (b := w.heap.size + 1 + 1 + 1) (by omega)) (((HS9.out.2.set_other (i := 0) (u := .int .i64 K.e) (b := w.heap.size + 1 + 1 + 1) (by omega)).set_other (i := 1) (u := .slice A5 K.v.length c5) (b := w.heap.size + 1 + 1 + 1) (by omega)).set_other (i := 2) (u := .int .i64 K.n) (b := w.heap.size + 1 + 1 + 1) (by omega)))
    obtain ⟨e1, e2, e3⟩ := HV8.out.end_ (Nat.le_refl _) (r := ⟨m, K.e, K.v, K.n⟩) (a' := ⟨⟨B0, d0, B1, d1, B2, d2, B3, d3⟩, Bt, dt⟩) ho7 HR8.out (.slice B0 m.o.reg.length d0) (.slice B1 m.o.q.length d1) (.slice B2 m.o.lk.length d2) (.slice B3 m.o.mp.length d3) (.slice Bt m.t.length dt) (.int .i64 K.e) (.slice A5 K.v.length c5) (.int .i64 K.n) rfl rfl rfl
    have HE := Lib.hid (And.intro e1 (And.intro e2 e3))
    obtain ⟨_, _, ⟨z0, z1, z2, z3, z4⟩, ⟨u0, u1, u2⟩, ⟨q0, q1, q2, q3, q4⟩, ⟨r0, r1, r2⟩⟩ := HV8.out.cells
    obtain ⟨p0, p1, p2, d0', d1', d2'⟩ := three l0
    clear k5 l0 e1 e2 e3 r0 r1 r2 u0 u1 u2
    refine wpAnyH_ready (rs := [3]) (by kernel_rfl) (by simp) ?_
    refine AllReadyH.cons rfl (fun K hK => ?_) AllReadyH.nil
    go_simp
    refine hK.out _ _ HS9.out (fun _ => ?_)
    clear hK K
    clear z0 z1 z2 z3 z4 q0 q1 q2 q3 q4
    generalize (((((w3.setCell ⟨w.heap.size + 1 + 1, 0, none⟩ (.slice B0 m.o.reg.length d0)).setCell ⟨w.heap.size + 1 + 1, 1, none⟩ (.slice B1 m.o.q.length d1)).setCell ⟨w.heap.size + 1 + 1, 2, none⟩ (.slice B2 m.o.lk.length d2)).setCell ⟨w.heap.size + 1 + 1, 3, none⟩ (.slice B3 m.o.mp.length d3)).setCell ⟨w.heap.size + 1 + 1, 4, none⟩ (.slice Bt m.t.length dt)) = w9 at HE HS10 p0 p1 p2 d0' d1' d2' ⊢
    refine wpAnyH_ready (rs := [4]) (by kernel_rfl) (by simp) ?_
    refine AllReadyH.cons rfl (fun K hK => ?_) AllReadyH.nil
    go_simp
    refine hK.out _ _ HS10.out (fun _ => ?_)
    clear hK K
    refine wpAnyH_done (by kernel_rfl) ?_ _
    go_wp2_with fail
    refine bodyPost_ret (results_cells2 rfl _ _ _ _ _ _ _ _ _ _ rfl rfl HE.out.1 HE.out.2.1 Tryz.underlying33 rfl (by kernel_rfl) Tryz.underlying47 rfl (by kernel_rfl)) rfl ?_
    rw [HST.out]
    exact HE.out.2.2
theorem step10 : StepC10 := fun hM hc h h' hB => (step_raw hM hc h h').mono fun e w' h => GotM.of hB h
end Go.Proofs.YtaknfmionkkdjaaGreat

