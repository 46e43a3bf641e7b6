/- EqualKit RegsWalks -/
import Derived.Test.YtaknfmionkkdjaaFM01
import Derived.Test.YtaknfmionkkdjaaFM02
import Derived.Test.YtaknfmionkkdjaaFM14
import Derived.Deep.DrawnRows
import Derived.Deep.QuietTactic
import Derived.Deep.RegionHeld3
namespace Go.Proofs.Ytaknfmionkkdjaa
open Go.RowKit
set_option linter.unusedVariables false
/-- two rows of bytes alike -/
theorem equal_any (w : World) (A A' : Option Addr) (n c n' c' B B' : Nat) (l l' : List Nat) (hl : ∀ x ∈ l, x < 256) (hl' : ∀ x ∈ l', x < 256) (h : Rd w B A n (bv l)) (h' : Rd w B' A' n' (bv l')) :
    Calls Try.prog 80 #[.slice A n c, .slice A' n' c'] w fun e w' => e = .returned (.bool (decide (l = l'))) ∧ w' = w := by
  have k1 := str_of (c := c) h
  have k2 := str_of (c := c') h'
  have k3 := strL_eq hl hl'
  clear h h'
  go_enter Try.func80, Try.ntmps80
  go_wp2
  go_ret
  exact ⟨by first | exact ret_bool k3 | rfl | (rw [← k3]; rfl), rfl⟩
end Go.Proofs.Ytaknfmionkkdjaa

namespace Go.Proofs.Ytaknfmionkkdjaa
open Go.RowKit
set_option linter.unusedVariables false

theorem read_any {W w : World} {l : List Nat} {A : Option Addr} {n c B : Nat} (hn : Lim 0 n) (hr : Rd w B A n (bv l)) (hB : Below W.heap.size W w) :
    Calls Try.prog 64 #[.slice A n c] w (GotR W w 0 l 0) := by
  have H := Lib.hid hr.fit
  clear hr
  go_enter Try.func64, Try.ntmps64
  go_wp2_with (go_at_call 49; refine (clone_any (W := W) hn (H.out.alloc (Nat.le_refl _) _) (hB.alloc hB.size _)).mono ?_; rintro e w1 ⟨A1, c1, rfl, hown1, hB1, hb1⟩; have HK := Lib.hid ((Blk.new w 65 zeroR).below hb1); obtain ⟨x0, x1, x2, f0, f1, f2⟩ := three HK.out)
  obtain ⟨k1, k2, k3⟩ := put3 HK.out (.int .i64 0) (.slice A1 l.length c1) (.int .i64 0)
  refine bodyPost_ret (results_cell_row rfl _ _ _ _ _ _ _ rfl k1 Try.underlying65 rfl (by kernel_rfl)) rfl ?_
  exact ⟨A1, c1, rfl, k3 _ _ _ _ _ _ hown1 (by decide), k2 W hB.size hB1, k2 w (Nat.le_refl _) (((Below.refl _ _).alloc (Nat.le_refl _) _).trans (hb1.mono (by simp)))⟩
theorem write_any {W w : World} {s v : List Nat} {A A' : Option Addr} {n c n' c' B B' : Nat} (hn : Lim 0 n) (hn' : Lim 0 n') (hr : Rd w B A n (bv s)) (hr' : Rd w B' A' n' (bv v)) (hB : Below W.heap.size W w) :
    Calls Try.prog 65 #[.slice A n c, .slice A' n' c'] w (GotSR W w (if v.length ≤ 16 then v else s) (if v.length ≤ 16 then 0 else 1) [] 0) := by
  have HL := Lib.hid hr'.length
  have H := Lib.hid hr.fit
  have H' := Lib.hid hr'.fit
  by_cases hle : n' ≤ 16
  · rw [if_pos (by have := HL.out; omega), if_pos (by have := HL.out; omega)]
    clear hr hr'
    go_enter Try.func65, Try.ntmps65
    go_wp2_with (go_at_call 49; refine (clone_any (W := W) hn' (H'.out.alloc (Nat.le_refl _) _) (hB.alloc hB.size _)).mono ?_; rintro e w1 ⟨A1, c1, rfl, hown1, hB1, hb1⟩; have HK := Lib.hid ((Blk.new w 65 zeroR).below hb1); obtain ⟨x0, x1, x2, f0, f1, f2⟩ := three HK.out)
    obtain ⟨k1, k2, k3⟩ := put3 HK.out (.int .i64 0) (.slice none 0 0) (.int .i64 0)
    refine bodyPost_ret (results_tmp_cell_row rfl _ _ _ _ _ _ rfl k1 Try.underlying65 rfl (by kernel_rfl)) rfl ?_
    exact ⟨A1, c1, none, 0, rfl, k3 _ _ _ _ _ _ hown1 (by decide), own_nil _ _, k2 W hB.size hB1, k2 w (Nat.le_refl _) (((Below.refl _ _).alloc (Nat.le_refl _) _).trans (hb1.mono (by simp)))⟩
  · rw [if_neg (by have := HL.out; omega), if_neg (by have := HL.out; omega)]
    clear hr hr'
    go_enter Try.func65, Try.ntmps65
    go_wp2_with (go_at_call 49; refine (clone_any (W := W) hn (H.out.alloc (Nat.le_refl _) _) (hB.alloc hB.size _)).mono ?_; rintro e w1 ⟨A1, c1, rfl, hown1, hB1, hb1⟩; have HK := Lib.hid ((Blk.new w 65 zeroR).below hb1); obtain ⟨x0, x1, x2, f0, f1, f2⟩ := three HK.out)
    obtain ⟨k1, k2, k3⟩ := put3 HK.out (.int .i64 1) (.slice none 0 0) (.int .i64 0)
    refine bodyPost_ret (results_tmp_cell_row rfl _ _ _ _ _ _ rfl k1 Try.underlying65 rfl (by kernel_rfl)) rfl ?_
    exact ⟨A1, c1, none, 0, rfl, k3 _ _ _ _ _ _ hown1 (by decide), own_nil _ _, k2 W hB.size hB1, k2 w (Nat.le_refl _) (((Below.refl _ _).alloc (Nat.le_refl _) _).trans (hb1.mono (by simp)))⟩
set_option maxRecDepth 100000 in
theorem cas_long {W w : World} {s v : List Nat} {A A' A2 : Option Addr} {n c n' c' n2 c2 B B' : Nat} (hn : Lim 0 n) (hn' : Lim 0 n') (hr : Rd w B A n (bv s)) (hr' : Rd w B' A' n' (bv v)) (hB : Below W.heap.size W w) (hlt : 16 < v.length) :
    Calls Try.prog 66 #[.slice A n c, .slice A2 n2 c2, .slice A' n' c'] w (GotSR W w s 1 [] 0) := by
  have H := Lib.hid hr.fit
  have H' := Lib.hid hr'.fit
  clear hr hr'
  go_enter Try.func66, Try.ntmps66
  go_wp2_with (go_at_call 65; refine (write_any (W := W) hn hn' (H.out.alloc (Nat.le_refl _) _) (H'.out.alloc (Nat.le_refl _) _) (hB.alloc hB.size _)).mono ?_; rw [if_neg (by omega), if_neg (by omega)]; rintro e w1 ⟨A1, c1, A3, c3, rfl, hown1, hown2, hB1, hb1⟩; unfold resV; have HK := Lib.hid ((Blk.new w 65 zeroR).below hb1); obtain ⟨x0, x1, x2, f0, f1, f2⟩ := three HK.out)
  have HK' := Lib.hid (HK.out.alloc (.cells #[.int .i64 1, .slice A3 0 c3, .int .i64 0] 65))
  obtain ⟨y0, y1, y2, h0, h1, h2⟩ := three HK'.out
  have hbw : Below w.heap.size w w1 := ((Below.refl _ _).alloc (Nat.le_refl _) _).trans (hb1.mono (by simp))
  go_region
  go_wp2
  obtain ⟨k1, k2, k3⟩ := put3 HK'.out (.int .i64 1) (.slice A3 0 c3) (.int .i64 0)
  refine bodyPost_ret (results_tmp_cell_row rfl _ _ _ _ _ _ rfl k1.drew Try.underlying65 rfl (by kernel_rfl)) rfl ?_
  exact ⟨A1, c1, A3, c3, rfl, k3 _ _ _ _ _ _ (own_below hown1 ((Below.refl _ _).alloc (Nat.le_refl _) _)) (by decide), k3 _ _ _ _ _ _ (own_below hown2 ((Below.refl _ _).alloc (Nat.le_refl _) _)) (by decide), (k2 W hB.size (hB1.alloc hB1.size _)).drew, (k2 w (Nat.le_refl _) (hbw.alloc hbw.size _)).drew⟩
set_option maxRecDepth 100000 in
theorem cas_same {W w : World} {s v : List Nat} {A A' A2 : Option Addr} {n c n' c' n2 c2 B B' B2 : Nat} (hn : Lim 0 n) (hn' : Lim 0 n') (hs : ∀ x ∈ s, x < 256) (hr : Rd w B A n (bv s)) (hr' : Rd w B' A' n' (bv v)) (hr2 : Rd w B2 A2 n2 (bv s)) (hB : Below W.heap.size W w) (hle : v.length ≤ 16) :
    Calls Try.prog 66 #[.slice A n c, .slice A2 n2 c2, .slice A' n' c'] w (GotSR W w v 0 [] 0) := by
  have H := Lib.hid hr.fit
  have H' := Lib.hid hr'.fit
  have H2 := Lib.hid hr2.fit
  have HS := Lib.hid hs
  clear hr hr' hr2 hs
  go_enter Try.func66, Try.ntmps66
  go_wp2_with (first
    | (go_at_call 65; refine (write_any (W := W) hn hn' (H.out.alloc (Nat.le_refl _) _) (H'.out.alloc (Nat.le_refl _) _) (hB.alloc hB.size _)).mono ?_; rw [if_pos (by omega), if_pos (by omega)]; rintro e w1 ⟨A1, c1, A3, c3, rfl, hown1, hown2, hB1, hb1⟩; unfold resV; have HK := Lib.hid ((Blk.new w 65 zeroR).below hb1); obtain ⟨x0, x1, x2, f0, f1, f2⟩ := three HK.out
       have hbw : Below w.heap.size w w1 := ((Below.refl _ _).alloc (Nat.le_refl _) _).trans (hb1.mono (by simp)))
    | (go_at_call 80; refine (equal_any _ _ _ _ _ _ _ _ _ _ _ HS.out HS.out ((H.out.below hbw).alloc hbw.size _) ((H2.out.below hbw).alloc hbw.size _)).mono ?_; rw [decide_eq_true (show s = s from rfl)]; rintro e w2 ⟨rfl, rfl⟩))
  have HK' := Lib.hid (HK.out.alloc (.cells #[.int .i64 0, .slice A3 0 c3, .int .i64 0] 65))
  obtain ⟨y0, y1, y2, h0, h1, h2⟩ := three HK'.out
  go_region
  go_wp2
  obtain ⟨k1, k2, k3⟩ := put3 HK'.out (.int .i64 0) (.slice A3 0 c3) (.int .i64 0)
  refine bodyPost_ret (results_tmp_cell_row rfl _ _ _ _ _ _ rfl k1.drew Try.underlying65 rfl (by kernel_rfl)) rfl ?_
  exact ⟨A1, c1, A3, c3, rfl, k3 _ _ _ _ _ _ (own_below hown1 ((Below.refl _ _).alloc (Nat.le_refl _) _)) (by decide), k3 _ _ _ _ _ _ (own_below hown2 ((Below.refl _ _).alloc (Nat.le_refl _) _)) (by decide), (k2 W hB.size (hB1.alloc hB1.size _)).drew, (k2 w (Nat.le_refl _) (hbw.alloc hbw.size _)).drew⟩
set_option maxRecDepth 100000 in
theorem cas_other {W w : World} {s v old : List Nat} {A A' A2 : Option Addr} {n c n' c' n2 c2 B B' B2 : Nat} (hn : Lim 0 n) (hn' : Lim 0 n') (hs : ∀ x ∈ s, x < 256) (ho : ∀ x ∈ old, x < 256) (hr : Rd w B A n (bv s)) (hr' : Rd w B' A' n' (bv v)) (hr2 : Rd w B2 A2 n2 (bv old)) (hB : Below W.heap.size W w) (hle : v.length ≤ 16) (hne : s ≠ old) :
    Calls Try.prog 66 #[.slice A n c, .slice A2 n2 c2, .slice A' n' c'] w (GotSR W w s 2 s 0) := by
  have H := Lib.hid hr.fit
  have H' := Lib.hid hr'.fit
  have H2 := Lib.hid hr2.fit
  have HS := Lib.hid hs
  have HO := Lib.hid ho
  have HN := Lib.hid (decide_eq_false hne)
  clear hr hr' hr2 hs ho hne
  go_enter Try.func66, Try.ntmps66
  go_wp2_with (first
    | (go_at_call 65; refine (write_any (W := W) hn hn' (H.out.alloc (Nat.le_refl _) _) (H'.out.alloc (Nat.le_refl _) _) (hB.alloc hB.size _)).mono ?_; rw [if_pos (by omega), if_pos (by omega)]; rintro e w1 ⟨A1, c1, A3, c3, rfl, hown1, hown2, hB1, hb1⟩; unfold resV; have HK := Lib.hid ((Blk.new w 65 zeroR).below hb1); obtain ⟨x0, x1, x2, f0, f1, f2⟩ := three HK.out
       have hbw : Below w.heap.size w w1 := ((Below.refl _ _).alloc (Nat.le_refl _) _).trans (hb1.mono (by simp)))
    | (go_at_call 80; refine (equal_any _ _ _ _ _ _ _ _ _ _ _ HS.out HO.out ((H.out.below hbw).alloc hbw.size _) ((H2.out.below hbw).alloc hbw.size _)).mono ?_; rw [HN.out]; rintro e w2 ⟨rfl, rfl⟩)
    | (go_at_call 64; refine (read_any (W := W) hn ((H.out.below hbw).alloc hbw.size _) (hB1.alloc hB1.size _)).mono ?_; rintro e w2 ⟨A4, c4, rfl, hown4, hB2, hb2⟩; unfold resV; have HL := Lib.hid ((Blk.new w1 65 _).below hb2); have HK2 := Lib.hid ((HK.out.alloc _).below hb2); obtain ⟨y0, y1, y2, h0, h1, h2⟩ := three HL.out))
  obtain ⟨k1, k2, k3⟩ := put3 HL.out (.int .i64 0) (.slice A4 s.length c4) (.int .i64 0)
  have HL3 := Lib.hid (k1.set_ 0 (.int .i64 2))
  have ho3 := own_set_t (i := 0) (u := .int .i64 2) (k3 _ _ _ _ _ _ hown4 (by decide)) k1 (by decide)
  have hne : w.heap.size ≠ w1.heap.size := by have := HK.out.lt; omega
  have HK3 := Lib.hid ((((HK2.out.set_other (i := 0) (u := .int .i64 0) hne).set_other (i := 1) (u := .slice A4 s.length c4) hne).set_other (i := 2) (u := .int .i64 0) hne).set_other (i := 0) (u := .int .i64 2) hne)
  have hB3 := (k2 W hB1.size hB2).setCell (p := ⟨w1.heap.size, 0, none⟩) hB1.size (.int .i64 2)
  have hb3 := (k2 w hbw.size ((hbw.alloc hbw.size _).trans (hb2.mono (by have := hbw.size; simp; omega)))).setCell (p := ⟨w1.heap.size, 0, none⟩) hbw.size (.int .i64 2)
  clear k1 k2 k3 x0 x1 x2 f0 f1 f2 y0 y1 y2 h0 h1 h2 HK2 HL hown4 hb2
  generalize hw3 : ((((w2.setCell ⟨w1.heap.size, 0, none⟩ (.int .i64 0)).setCell ⟨w1.heap.size, 1, none⟩ (.slice A4 s.length c4)).setCell ⟨w1.heap.size, 2, none⟩ (.int .i64 0)).setCell ⟨w1.heap.size, 0, none⟩ (.int .i64 2)) = w3 at *
  obtain ⟨x0, x1, x2, f0, f1, f2⟩ := three HL3.out
  clear hw3
  go_region_with (go_at_call 49; refine (clone_any (W := W) hn (H.out.below hb3).drew hB3.drew).mono ?_; rintro e w4 ⟨A5, c5, rfl, hown5, hB5, hb5⟩; have HK5 := Lib.hid (HK3.out.drew.below hb5); have HL5 := Lib.hid (HL3.out.drew.below hb5); obtain ⟨y0, y1, y2, h0, h1, h2⟩ := three HL5.out; obtain ⟨u0, u1, u2, g0, g1, g2⟩ := three HK5.out)
  all_goals go_wp2
  all_goals
    obtain ⟨k1, k2, k3⟩ := put3 HK5.out (.int .i64 2) (.slice A4 s.length c4) (.int .i64 0)
    refine bodyPost_ret (results_tmp_cell_row rfl _ _ _ _ _ _ rfl k1 Try.underlying65 rfl (by kernel_rfl)) rfl ?_
    exact ⟨A5, c5, A4, c4, rfl, k3 _ _ _ _ _ _ hown5 (by decide), k3 _ _ _ _ _ _ (ownsRow_below (w := w3.drew) ho3 hb5) (by decide), k2 W hB.size hB5, k2 w (Nat.le_refl _) (hb3.drew.trans (hb5.mono hb3.size))⟩
theorem cas_any {W w : World} {s v old : List Nat} {A A' A2 : Option Addr} {n c n' c' n2 c2 B B' B2 : Nat} (hn : Lim 0 n) (hn' : Lim 0 n') (hs : ∀ x ∈ s, x < 256) (ho : ∀ x ∈ old, x < 256) (hr : Rd w B A n (bv s)) (hr' : Rd w B' A' n' (bv v)) (hr2 : Rd w B2 A2 n2 (bv old)) (hB : Below W.heap.size W w) :
    Calls Try.prog 66 #[.slice A n c, .slice A2 n2 c2, .slice A' n' c'] w (GotSR W w (casS s old v) (casE s old v) (casV s old v) 0) := by
  unfold casS casE casV
  by_cases hlt : 16 < v.length
  · rw [if_pos hlt, if_pos hlt, if_pos hlt]; exact cas_long hn hn' hr hr' hB hlt
  · rw [if_neg hlt, if_neg hlt, if_neg hlt]
    by_cases he : s = old
    · subst he
      rw [if_pos rfl, if_pos rfl, if_pos rfl]; exact cas_same hn hn' hs hr hr' hr2 hB (by omega)
    · rw [if_neg he, if_neg he, if_neg he]; exact cas_other hn hn' hs ho hr hr' hr2 hB (by omega) he
end Go.Proofs.Ytaknfmionkkdjaa

