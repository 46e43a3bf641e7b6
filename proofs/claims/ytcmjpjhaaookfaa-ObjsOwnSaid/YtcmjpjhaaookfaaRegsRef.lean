/- The contracts of the document's own answer for a register. -/
import Derived.Test.YtcmjpjhaaookfaaResKit
import Derived.Test.YtcmjpjhaaookfaaRegsMath
import Derived.Deep.RegionHeld3
import Derived.Deep.DrawnRows
import Derived.Deep.QuietTactic
import Derived.Test.YtcmjpjhaaookfaaRef4Kit
import Derived.Test.YtcmjpjhaaookfaaOwnrefKit
namespace Go.Proofs.Ytcmjpjhaaookfaa
open Go.RowKit
set_option linter.unusedVariables false

theorem refRead_any {W w : World} {l : List Nat} {A : Option Addr} {n c B : Nat} (hn : Lim 0 n) (hr : Rd w B A n (bv l)) (hB : Below W.heap.size W w) :
    Calls Try.prog 50 #[.slice A n c] w (GotR W w 0 l 0) := by
  have H := Lib.hid hr.fit
  clear hr
  go_enter Try.func50, Try.ntmps50
  go_wp2_with (go_at_call 46; refine (ownref_any (W := W) hn (H.out.alloc (Nat.le_refl _) _) (hB.alloc hB.size _)).mono ?_; rintro e w1 ⟨A1, c1, rfl, hown1, hB1, hb1⟩; have HK := Lib.hid ((Blk.new w 34 zeroR).below hb1); obtain ⟨x0, x1, x2, f0, f1, f2⟩ := three HK.out)
  obtain ⟨k1, k2, k3⟩ := put3 HK.out (.int .i64 0) (.slice A1 l.length c1) (.int .i64 0)
  refine bodyPost_ret (results_cell_row rfl _ _ _ _ _ _ _ rfl k1 Try.underlying34 rfl (by kernel_rfl)) rfl ?_
  exact ⟨A1, c1, rfl, k3 _ _ _ _ _ _ hown1 (by decide), k2 W hB.size hB1, k2 w (Nat.le_refl _) (((Below.refl _ _).alloc (Nat.le_refl _) _).trans (hb1.mono (by simp)))⟩
theorem refWrite_any {W w : World} {s v : List Nat} {A A' : Option Addr} {n c n' c' B B' : Nat} (hn : Lim 0 n) (hn' : Lim 0 n') (hr : Rd w B A n (bv s)) (hr' : Rd w B' A' n' (bv v)) (hB : Below W.heap.size W w) :
    Calls Try.prog 51 #[.slice A n c, .slice A' n' c'] w (GotSR W w (if v.length ≤ 16 then v else s) (if v.length ≤ 16 then 0 else 1) [] 0) := by
  have HL := Lib.hid hr'.length
  have H := Lib.hid hr.fit
  have H' := Lib.hid hr'.fit
  by_cases hle : n' ≤ 16
  · rw [if_pos (by have := HL.out; omega), if_pos (by have := HL.out; omega)]
    clear hr hr'
    go_enter Try.func51, Try.ntmps51
    go_wp2_with (go_at_call 46; refine (ownref_any (W := W) hn' (H'.out.alloc (Nat.le_refl _) _) (hB.alloc hB.size _)).mono ?_; rintro e w1 ⟨A1, c1, rfl, hown1, hB1, hb1⟩; have HK := Lib.hid ((Blk.new w 34 zeroR).below hb1); obtain ⟨x0, x1, x2, f0, f1, f2⟩ := three HK.out)
    obtain ⟨k1, k2, k3⟩ := put3 HK.out (.int .i64 0) (.slice none 0 0) (.int .i64 0)
    refine bodyPost_ret (results_tmp_cell_row rfl _ _ _ _ _ _ rfl k1 Try.underlying34 rfl (by kernel_rfl)) rfl ?_
    exact ⟨A1, c1, none, 0, rfl, k3 _ _ _ _ _ _ hown1 (by decide), own_nil _ _, k2 W hB.size hB1, k2 w (Nat.le_refl _) (((Below.refl _ _).alloc (Nat.le_refl _) _).trans (hb1.mono (by simp)))⟩
  · rw [if_neg (by have := HL.out; omega), if_neg (by have := HL.out; omega)]
    clear hr hr'
    go_enter Try.func51, Try.ntmps51
    go_wp2_with (first
      | (go_at_call 46; refine (ownref_any (W := W) hn (H.out.alloc (Nat.le_refl _) _) (hB.alloc hB.size _)).mono ?_; rintro e w1 ⟨A1, c1, rfl, hown1, hB1, hb1⟩)
      | (go_at_call 49; refine (bad_any w1 1).mono ?_; rintro e w2 ⟨rfl, hb2⟩; unfold resV; have HK := Lib.hid (((Blk.new w 34 zeroR).below hb1).below hb2); obtain ⟨x0, x1, x2, f0, f1, f2⟩ := three HK.out))
    obtain ⟨k1, k2, k3⟩ := put3 HK.out (.int .i64 1) (.slice none 0 0) (.int .i64 0)
    have hbw : Below w.heap.size w w1 := ((Below.refl _ _).alloc (Nat.le_refl _) _).trans (hb1.mono (by simp))
    refine bodyPost_ret (results_tmp_cell_row rfl _ _ _ _ _ _ rfl k1 Try.underlying34 rfl (by kernel_rfl)) rfl ?_
    exact ⟨A1, c1, none, 0, rfl, k3 _ _ _ _ _ _ (own_below hown1 hb2) (by decide), own_nil _ _, k2 W hB.size (hB1.trans (hb2.mono hB1.size)), k2 w (Nat.le_refl _) (hbw.trans (hb2.mono hbw.size))⟩
set_option maxRecDepth 100000 in
theorem refCas_any {W w : World} {s v old : List Nat} {A A' A2 : Option Addr} {n c n' c' n2 c2 B B' B2 : Nat} (hn : Lim 0 n) (hn' : Lim 0 n') (hs : ∀ x ∈ s, x < 256) (ho : ∀ x ∈ old, x < 256) (hr : Rd w B A n (bv s)) (hr' : Rd w B' A' n' (bv v)) (hr2 : Rd w B2 A2 n2 (bv old)) (hB : Below W.heap.size W w) :
    Calls Try.prog 52 #[.slice A n c, .slice A2 n2 c2, .slice A' n' c'] w (GotSR W w (casS s old v) (casE s old v) (casV s old v) 0) := by
  unfold casS casE casV
  have HL := Lib.hid hr'.length
  have H := Lib.hid hr.fit
  have H' := Lib.hid hr'.fit
  have H2 := Lib.hid hr2.fit
  have q1 := Lib.hid (fun (w' : World) (hb : Below w.heap.size w w') => str_of (c := c) (hr.fit.below hb))
  have q2 := Lib.hid (fun (w' : World) (hb : Below w.heap.size w w') => str_of (c := c2) (hr2.fit.below hb))
  have q3 := strL_eq hs ho
  clear hs ho
  by_cases hlt : 16 < n'
  · have hvl : 16 < v.length := by have := HL.out; omega
    rw [if_pos hvl, if_pos hvl, if_pos hvl]
    clear hr hr' hr2 hvl q1 q2 q3
    go_enter Try.func52, Try.ntmps52
    go_wp2_with (first
      | (go_at_call 46; refine (ownref_any (W := W) hn (H.out.alloc (Nat.le_refl _) _) (hB.alloc hB.size _)).mono ?_; rintro e w1 ⟨A1, c1, rfl, hown1, hB1, hb1⟩)
      | (go_at_call 49; refine (bad_any w1 1).mono ?_; rintro e w2 ⟨rfl, hb2⟩; unfold resV; have HK := Lib.hid (((Blk.new w 34 zeroR).below hb1).below hb2); obtain ⟨x0, x1, x2, f0, f1, f2⟩ := three HK.out))
    obtain ⟨k1, k2, k3⟩ := put3 HK.out (.int .i64 1) (.slice none 0 0) (.int .i64 0)
    have hbw : Below w.heap.size w w1 := ((Below.refl _ _).alloc (Nat.le_refl _) _).trans (hb1.mono (by simp))
    refine bodyPost_ret (results_tmp_cell_row rfl _ _ _ _ _ _ rfl k1 Try.underlying34 rfl (by kernel_rfl)) rfl ?_
    exact ⟨A1, c1, none, 0, rfl, k3 _ _ _ _ _ _ (own_below hown1 hb2) (by decide), own_nil _ _, k2 W hB.size (hB1.trans (hb2.mono hB1.size)), k2 w (Nat.le_refl _) (hbw.trans (hb2.mono hbw.size))⟩
  · have hvl : ¬ 16 < v.length := by have := HL.out; omega
    rw [if_neg hvl, if_neg hvl, if_neg hvl]
    clear hvl
    have b0 : Below w.heap.size w (w.alloc (.cells zeroR 34)) := (Below.refl _ _).alloc (Nat.le_refl _) _
    have c1 := q1.out _ b0
    have c2 := q2.out _ b0
    clear hr hr' hr2 q1 q2
    by_cases he : s = old
    · rw [if_pos he, if_pos he, if_pos he]
      rw [decide_eq_true he] at q3
      clear he
      go_enter Try.func52, Try.ntmps52
      go_wp2_with (go_at_call 46; refine (ownref_any (W := W) hn' (H'.out.alloc (Nat.le_refl _) _) (hB.alloc hB.size _)).mono ?_; rintro e w1 ⟨A1, c1, rfl, hown1, hB1, hb1⟩; have HK := Lib.hid ((Blk.new w 34 zeroR).below hb1); obtain ⟨x0, x1, x2, f0, f1, f2⟩ := three HK.out)
      obtain ⟨k1, k2, k3⟩ := put3 HK.out (.int .i64 0) (.slice none 0 0) (.int .i64 0)
      refine bodyPost_ret (results_tmp_cell_row rfl _ _ _ _ _ _ rfl k1 Try.underlying34 rfl (by kernel_rfl)) rfl ?_
      exact ⟨A1, c1, none, 0, rfl, k3 _ _ _ _ _ _ hown1 (by decide), own_nil _ _, k2 W hB.size hB1, k2 w (Nat.le_refl _) (((Below.refl _ _).alloc (Nat.le_refl _) _).trans (hb1.mono (by simp)))⟩
    · rw [if_neg he, if_neg he, if_neg he]
      rw [decide_eq_false he] at q3
      clear he
      go_enter Try.func52, Try.ntmps52
      go_wp2_with (first
        | (go_at_call 46; refine (ownref_any (W := W) hn (H.out.alloc (Nat.le_refl _) _) (hB.alloc hB.size _)).mono ?_; rintro e w1 ⟨A1, c1, rfl, hown1, hB1, hb1⟩; have hbw : Below w.heap.size w w1 := ((Below.refl _ _).alloc (Nat.le_refl _) _).trans (hb1.mono (by simp)))
        | (go_at_call 46; refine (ownref_any (W := W) hn (H.out.below hbw) hB1).mono ?_; rintro e w2 ⟨A3, c3, rfl, hown3, hB3, hb3⟩; have HK := Lib.hid (((Blk.new w 34 zeroR).below hb1).below hb3); obtain ⟨x0, x1, x2, f0, f1, f2⟩ := three HK.out))
      obtain ⟨k1, k2, k3⟩ := put3 HK.out (.int .i64 2) (.slice A3 s.length c3) (.int .i64 0)
      refine bodyPost_ret (results_tmp_cell_row rfl _ _ _ _ _ _ rfl k1 Try.underlying34 rfl (by kernel_rfl)) rfl ?_
      exact ⟨A1, _, A3, c3, rfl, k3 _ _ _ _ _ _ (own_below hown1 hb3) (by decide), k3 _ _ _ _ _ _ hown3 (by decide), k2 W hB.size hB3, k2 w (Nat.le_refl _) (hbw.trans (hb3.mono hbw.size))⟩
end Go.Proofs.Ytcmjpjhaaookfaa
