/- The code's Put; the three contracts. -/
import Derived.Test.YtcmjpjhaaookfaaSessCode2
import Derived.Test.YtcmjpjhaaookfaaSessCode3
namespace Go.Proofs.Ytcmjpjhaaookfaa
open Go.RowKit
set_option linter.unusedVariables false
set_option maxHeartbeats 4000000 in
set_option maxRecDepth 100000 in
theorem put9_raw {w : World} {ls : List Ls} {A A' : Option Addr} {n c c' B B' : Nat} (l : Ls) (hn : n ≤ 1000) (hL : LimLs ls) (hR : Tb.Rises ls) (hl1 : Lim 0 l.v.length) (h : RdL w B A n ls) (h' : Rd w B' A' l.v.length (bv l.v)) :
    Calls Try.prog 25 #[.slice A n c, .int .i64 l.s, .int .i64 l.q, .agg #[.int .i64 l.e, .slice A' l.v.length c', .int .i64 l.n]] w (GotL w w (Tb.put ls l)) := by
  obtain rfl := h.length
  have b0 : Below w.heap.size w (w.alloc (.cells #[.int .i64 l.e, .slice A' l.v.length c', .int .i64 l.n] 34)) := (Below.refl _ _).alloc (Nat.le_refl _) _
  have H := Lib.hid (h.fit.below b0)
  have H' := Lib.hid (h'.fit.below b0)
  have HK := Lib.hid (Blk.new w 34 #[.int .i64 l.e, .slice A' l.v.length c', .int .i64 l.n])
  have HL := Lib.hid hL
  have HR := Lib.hid hR
  have hDl := Tb.less_len ls l.s
  obtain ⟨D, hD⟩ : ∃ D, Tb.less ls l.s = D := ⟨_, rfl⟩
  rw [hD] at hDl
  have HD := Lib.hid hD
  have hn5 : ls.length ≤ 100000 := by omega
  have hDn : D.length ≤ 100000 := by omega
  clear h h' hL hR hD
  go_enter Try.func25, Try.ntmps25
  go_upto_region 3 with (first
    | (go_at_call 73; refine (without9_any (W := w) l.s hn5 HL.out H.out b0).mono ?_; rw [HD.out]; rintro e w1 ⟨g, rfl, ho1, hB1, hb1⟩; have HK1 := Lib.hid (HK.out.below hb1); obtain ⟨x0, x1, x2, f0, f1, f2⟩ := three HK1.out)
    | (go_at_call 72; refine (copied9_any (W := w) _ _ hl1 (H'.out.fit.below hb1) hB1).mono ?_; rintro e w2 ⟨A4, c4, rfl, ho2, hB2, hb2⟩; unfold resV)
    | fail)
  have HDR : Hid (Tb.Rises ls) := HR
  obtain ⟨wz, hwz⟩ : ∃ wz, w2.alloc (.cells #[.int .i64 l.s, .int .i64 l.q, .int .i64 l.e, .slice A4 l.v.length c4, .int .i64 l.n] 57) = wz := ⟨_, rfl⟩
  have hbz : Below w2.heap.size w2 wz := by rw [← hwz]; exact (Below.refl _ _).alloc (Nat.le_refl _) _
  have hkz : Blk wz w2.heap.size 57 #[.int .i64 l.s, .int .i64 l.q, .int .i64 l.e, .slice A4 l.v.length c4, .int .i64 l.n] := by rw [← hwz]; exact Blk.new _ _ _
  have HOZ := Lib.hid ((ho1.below hb2).below hbz)
  have HVZ := Lib.hid (own_below ho2 hbz)
  have HBZ := Lib.hid (hB2.trans (hbz.mono hB2.size))
  have HC : Hid (∀ wx, Below wz.heap.size wz wx → wx.cell? ⟨w2.heap.size, 0, none⟩ = some (.int .i64 l.s) ∧ wx.cell? ⟨w2.heap.size, 1, none⟩ = some (.int .i64 l.q) ∧ wx.cell? ⟨w2.heap.size, 2, none⟩ = some (.int .i64 l.e) ∧ wx.cell? ⟨w2.heap.size, 3, none⟩ = some (.slice A4 l.v.length c4) ∧ wx.cell? ⟨w2.heap.size, 4, none⟩ = some (.int .i64 l.n)) :=
    Lib.hid (fun wx hb => five5 (hkz.below hb))
  have hg : g < wz.heap.size := by
    obtain ⟨q, q1, _⟩ := HOZ.out
    obtain ⟨_, q2, _⟩ := own_cur q1
    exact q2.lt
  have HG := Lib.hid hg
  obtain ⟨z0, z1, z2, z3, z4⟩ := HC.out wz.drew (Below.refl _ _).drew
  rw [hwz]
  have hD1 : D.length < ls.length + 1 := by omega
  clear hwz hbz hkz hg ho1 hB1 hb1 ho2 hB2 hb2 b0 H H' HK HK1 HL x0 x1 x2 f0 f1 f2
  go_region_law (first
    | (rw [if_pos (by kernel_rfl)]; go_simp; go_at_call 75; refine (place9_any _ (s := l.s) hDn (HOZ.out.below (Below.refl _ _).drew).rd).mono ?_; rintro e w4 ⟨⟨i, rfl, hi, hlo, hhi⟩, hb4⟩
       have hb5 := (Below.refl wz.heap.size wz).drew.trans hb4
       have ho4 := HOZ.out.below hb5
       have hv4 := own_below HVZ.out hb5
       have hB4 := HBZ.out.trans (hb5.mono HBZ.out.size)
       have b6 : Below w4.heap.size w4 (w4.alloc (.cells #[.int .i64 l.s, .int .i64 l.q, .int .i64 l.e, .slice A4 l.v.length c4, .int .i64 l.n] 57)) := (Below.refl _ _).alloc (Nat.le_refl _) _
       obtain ⟨z0, z1, z2, z3, z4⟩ := HC.out w4 hb5
       go_simp)
    | (rw [if_pos (by kernel_rfl)]; go_simp; go_at_call 75; refine (place9_any _ (s := l.s) hDn (HOZ.out.below ((Below.refl _ _).drew.alloc (Nat.le_refl _) (.cells #[.int .i64 l.s, .int .i64 l.q, .int .i64 l.e, .slice A4 l.v.length c4, .int .i64 l.n] 57))).rd).mono ?_; rintro e w4 ⟨⟨i, rfl, hi, hlo, hhi⟩, hb4⟩
       have hb5 := ((Below.refl wz.heap.size wz).drew.alloc (Nat.le_refl _) (.cells #[.int .i64 l.s, .int .i64 l.q, .int .i64 l.e, .slice A4 l.v.length c4, .int .i64 l.n] 57)).trans (hb4.mono (by simp))
       have ho4 := HOZ.out.below hb5
       have hv4 := own_below HVZ.out hb5
       have hB4 := HBZ.out.trans (hb5.mono HBZ.out.size)
       have hk4 := (Blk.new wz.drew 57 #[.int .i64 l.s, .int .i64 l.q, .int .i64 l.e, .slice A4 l.v.length c4, .int .i64 l.n]).below hb4
       have hne : wz.drew.heap.size ≠ g := by have := HG.out; simp; omega
       obtain ⟨z0, z1, z2, z3, z4⟩ := HC.out w4 hb5
       go_simp)
    | (rw [if_pos (by kernel_rfl)]; go_simp; go_at_call 74; refine (insertL_any (W := w) hDn hi hD1 (by have := HG.out; have := hb5.size; omega) (ho4.below b6) (Blk.new w4 57 #[.int .i64 l.s, .int .i64 l.q, .int .i64 l.e, .slice A4 l.v.length c4, .int .i64 l.n]) (own_below hv4 b6) (hB4.trans (b6.mono hB4.size))).mono ?_
       rintro e w6 ⟨rfl, ho6, hB6⟩
       go_simp)
    | (rw [if_pos (by kernel_rfl)]; go_simp; go_at_call 74; refine (insertL_any (W := w) hDn hi hD1 hne ho4 hk4 hv4 hB4).mono ?_
       rintro e w6 ⟨rfl, ho6, hB6⟩
       go_simp))
  all_goals go_wp2_with fail
  all_goals go_ret
  all_goals
    have HAT : Tb.At D l.s i := by rw [← HD.out]; exact Tb.less_at (by rw [HD.out]; exact hi) (by rw [HD.out]; intro j m h1 h2; have := hlo j m h1 h2; omega) (by rw [HD.out]; exact hhi)
    have HP := Tb.put_less (l := l) (i := i) HR.out (by rw [HD.out]; exact HAT)
    rw [HD.out] at HP
    rw [← HP] at ho6
    have hl6 := ho6.length
    exact ⟨some ⟨g, 0, none⟩, ls.length + 1, by rw [hl6]; rfl, by rw [hl6]; exact ho6, hB6, hB6⟩
theorem put9 : PutC9 := fun {W w ls A A' n c c' B B'} l hok hnm hv hb hc h h' hB =>
  (put9_raw l (by have := h.length; have := hok.len; omega) hok.lim hok.rises (by unfold Lim; omega) h h').mono fun e w' h => GotL.of hB h
end Go.Proofs.Ytcmjpjhaaookfaa
