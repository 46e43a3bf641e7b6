/- RegsRef SameRows -/
import Derived.Test.YtaknfmionkkdjaaGreatFO01
import Derived.Test.YtaknfmionkkdjaaGreatFO02
import Derived.Test.YtaknfmionkkdjaaGreatFO04
import Derived.Test.YtaknfmionkkdjaaGreatFO05
import Derived.Deep.DrawnRows
import Derived.Deep.QuietTactic
import Derived.Deep.RegionHeld3
import Derived.BigQuiet
import Derived.Deep.DeepCutAuto
import Derived.Deep.RegionWith
import Derived.WalkSmall
namespace Go.Proofs.YtaknfmionkkdjaaGreat
open Go.RowKit
set_option linter.unusedVariables false

theorem refRead_any {W w : World} {l : List Nat} {A : Option Addr} {n c B : Nat} (hn : Lim 0 n) (hr : Rd w B A n (bv l)) (hB : Below W.heap.size W w) :
    Calls Tryz.prog 75 #[.slice A n c] w (GotR W w 0 l 0) := by
  have H := Lib.hid hr.fit
  clear hr
  go_enter Tryz.func75, Tryz.ntmps75
  go_wp2_with (go_at_call 72; refine (ownref_any (W := W) hn (H.out.alloc (Nat.le_refl _) _) (hB.alloc hB.size _)).mono ?_; rintro e w1 ⟨A1, c1, rfl, hown1, hB1, hb1⟩; have HK := Lib.hid ((Blk.new w 47 zeroR).below hb1); obtain ⟨x0, x1, x2, f0, f1, f2⟩ := three HK.out)
  obtain ⟨k1, k2, k3⟩ := put3 HK.out (.int .i64 0) (.slice A1 l.length c1) (.int .i64 0)
  refine bodyPost_ret (results_cell_row rfl _ _ _ _ _ _ _ rfl k1 Tryz.underlying47 rfl (by kernel_rfl)) rfl ?_
  exact ⟨A1, c1, rfl, k3 _ _ _ _ _ _ hown1 (by decide), k2 W hB.size hB1, k2 w (Nat.le_refl _) (((Below.refl _ _).alloc (Nat.le_refl _) _).trans (hb1.mono (by simp)))⟩
theorem refWrite_any {W w : World} {s v : List Nat} {A A' : Option Addr} {n c n' c' B B' : Nat} (hn : Lim 0 n) (hn' : Lim 0 n') (hr : Rd w B A n (bv s)) (hr' : Rd w B' A' n' (bv v)) (hB : Below W.heap.size W w) :
    Calls Tryz.prog 76 #[.slice A n c, .slice A' n' c'] w (GotSR W w (if v.length ≤ 16 then v else s) (if v.length ≤ 16 then 0 else 1) [] 0) := by
  have HL := Lib.hid hr'.length
  have H := Lib.hid hr.fit
  have H' := Lib.hid hr'.fit
  by_cases hle : n' ≤ 16
  · rw [if_pos (by have := HL.out; omega), if_pos (by have := HL.out; omega)]
    clear hr hr'
    go_enter Tryz.func76, Tryz.ntmps76
    go_wp2_with (go_at_call 72; refine (ownref_any (W := W) hn' (H'.out.alloc (Nat.le_refl _) _) (hB.alloc hB.size _)).mono ?_; rintro e w1 ⟨A1, c1, rfl, hown1, hB1, hb1⟩; have HK := Lib.hid ((Blk.new w 47 zeroR).below hb1); obtain ⟨x0, x1, x2, f0, f1, f2⟩ := three HK.out)
    obtain ⟨k1, k2, k3⟩ := put3 HK.out (.int .i64 0) (.slice none 0 0) (.int .i64 0)
    refine bodyPost_ret (results_tmp_cell_row rfl _ _ _ _ _ _ rfl k1 Tryz.underlying47 rfl (by kernel_rfl)) rfl ?_
    exact ⟨A1, c1, none, 0, rfl, k3 _ _ _ _ _ _ hown1 (by decide), own_nil _ _, k2 W hB.size hB1, k2 w (Nat.le_refl _) (((Below.refl _ _).alloc (Nat.le_refl _) _).trans (hb1.mono (by simp)))⟩
  · rw [if_neg (by have := HL.out; omega), if_neg (by have := HL.out; omega)]
    clear hr hr'
    go_enter Tryz.func76, Tryz.ntmps76
    go_wp2_with (first
      | (go_at_call 72; refine (ownref_any (W := W) hn (H.out.alloc (Nat.le_refl _) _) (hB.alloc hB.size _)).mono ?_; rintro e w1 ⟨A1, c1, rfl, hown1, hB1, hb1⟩)
      | (go_at_call 69; refine (bad_any w1 1).mono ?_; rintro e w2 ⟨rfl, hb2⟩; unfold resV; have HK := Lib.hid (((Blk.new w 47 zeroR).below hb1).below hb2); obtain ⟨x0, x1, x2, f0, f1, f2⟩ := three HK.out))
    obtain ⟨k1, k2, k3⟩ := put3 HK.out (.int .i64 1) (.slice none 0 0) (.int .i64 0)
    have hbw : Below w.heap.size w w1 := ((Below.refl _ _).alloc (Nat.le_refl _) _).trans (hb1.mono (by simp))
    refine bodyPost_ret (results_tmp_cell_row rfl _ _ _ _ _ _ rfl k1 Tryz.underlying47 rfl (by kernel_rfl)) rfl ?_
    exact ⟨A1, c1, none, 0, rfl, k3 _ _ _ _ _ _ (own_below hown1 hb2) (by decide), own_nil _ _, k2 W hB.size (hB1.trans (hb2.mono hB1.size)), k2 w (Nat.le_refl _) (hbw.trans (hb2.mono hbw.size))⟩
set_option maxRecDepth 100000 in
theorem refCas_any {W w : World} {s v old : List Nat} {A A' A2 : Option Addr} {n c n' c' n2 c2 B B' B2 : Nat} (hn : Lim 0 n) (hn' : Lim 0 n') (hs : ∀ x ∈ s, x < 256) (ho : ∀ x ∈ old, x < 256) (hr : Rd w B A n (bv s)) (hr' : Rd w B' A' n' (bv v)) (hr2 : Rd w B2 A2 n2 (bv old)) (hB : Below W.heap.size W w) :
    Calls Tryz.prog 77 #[.slice A n c, .slice A2 n2 c2, .slice A' n' c'] w (GotSR W w (casS s old v) (casE s old v) (casV s old v) 0) := by
  unfold casS casE casV
  have HL := Lib.hid hr'.length
  have H := Lib.hid hr.fit
  have H' := Lib.hid hr'.fit
  have H2 := Lib.hid hr2.fit
  have q1 := Lib.hid (fun (w' : World) (hb : Below w.heap.size w w') => str_of (c := c) (hr.fit.below hb))
  have q2 := Lib.hid (fun (w' : World) (hb : Below w.heap.size w w') => str_of (c := c2) (hr2.fit.below hb))
  have q3 := strL_eq hs ho
  clear hs ho
  by_cases hlt : 16 < n'
  · have hvl : 16 < v.length := by have := HL.out; omega
    rw [if_pos hvl, if_pos hvl, if_pos hvl]
    clear hr hr' hr2 hvl q1 q2 q3
    go_enter Tryz.func77, Tryz.ntmps77
    go_wp2_with (first
      | (go_at_call 72; refine (ownref_any (W := W) hn (H.out.alloc (Nat.le_refl _) _) (hB.alloc hB.size _)).mono ?_; rintro e w1 ⟨A1, c1, rfl, hown1, hB1, hb1⟩)
      | (go_at_call 69; refine (bad_any w1 1).mono ?_; rintro e w2 ⟨rfl, hb2⟩; unfold resV; have HK := Lib.hid (((Blk.new w 47 zeroR).below hb1).below hb2); obtain ⟨x0, x1, x2, f0, f1, f2⟩ := three HK.out))
    obtain ⟨k1, k2, k3⟩ := put3 HK.out (.int .i64 1) (.slice none 0 0) (.int .i64 0)
    have hbw : Below w.heap.size w w1 := ((Below.refl _ _).alloc (Nat.le_refl _) _).trans (hb1.mono (by simp))
    refine bodyPost_ret (results_tmp_cell_row rfl _ _ _ _ _ _ rfl k1 Tryz.underlying47 rfl (by kernel_rfl)) rfl ?_
    exact ⟨A1, c1, none, 0, rfl, k3 _ _ _ _ _ _ (own_below hown1 hb2) (by decide), own_nil _ _, k2 W hB.size (hB1.trans (hb2.mono hB1.size)), k2 w (Nat.le_refl _) (hbw.trans (hb2.mono hbw.size))⟩
  · have hvl : ¬ 16 < v.length := by have := HL.out; omega
    rw [if_neg hvl, if_neg hvl, if_neg hvl]
    clear hvl
    have b0 : Below w.heap.size w (w.alloc (.cells zeroR 47)) := (Below.refl _ _).alloc (Nat.le_refl _) _
    have c1 := q1.out _ b0
    have c2 := q2.out _ b0
    clear hr hr' hr2 q1 q2
    by_cases he : s = old
    · rw [if_pos he, if_pos he, if_pos he]
      rw [decide_eq_true he] at q3
      clear he
      go_enter Tryz.func77, Tryz.ntmps77
      go_wp2_with (go_at_call 72; refine (ownref_any (W := W) hn' (H'.out.alloc (Nat.le_refl _) _) (hB.alloc hB.size _)).mono ?_; rintro e w1 ⟨A1, c1, rfl, hown1, hB1, hb1⟩; have HK := Lib.hid ((Blk.new w 47 zeroR).below hb1); obtain ⟨x0, x1, x2, f0, f1, f2⟩ := three HK.out)
      obtain ⟨k1, k2, k3⟩ := put3 HK.out (.int .i64 0) (.slice none 0 0) (.int .i64 0)
      refine bodyPost_ret (results_tmp_cell_row rfl _ _ _ _ _ _ rfl k1 Tryz.underlying47 rfl (by kernel_rfl)) rfl ?_
      exact ⟨A1, c1, none, 0, rfl, k3 _ _ _ _ _ _ hown1 (by decide), own_nil _ _, k2 W hB.size hB1, k2 w (Nat.le_refl _) (((Below.refl _ _).alloc (Nat.le_refl _) _).trans (hb1.mono (by simp)))⟩
    · rw [if_neg he, if_neg he, if_neg he]
      rw [decide_eq_false he] at q3
      clear he
      go_enter Tryz.func77, Tryz.ntmps77
      go_wp2_with (first
        | (go_at_call 72; refine (ownref_any (W := W) hn (H.out.alloc (Nat.le_refl _) _) (hB.alloc hB.size _)).mono ?_; rintro e w1 ⟨A1, c1, rfl, hown1, hB1, hb1⟩; have hbw : Below w.heap.size w w1 := ((Below.refl _ _).alloc (Nat.le_refl _) _).trans (hb1.mono (by simp)))
        | (go_at_call 72; refine (ownref_any (W := W) hn (H.out.below hbw) hB1).mono ?_; rintro e w2 ⟨A3, c3, rfl, hown3, hB3, hb3⟩; have HK := Lib.hid (((Blk.new w 47 zeroR).below hb1).below hb3); obtain ⟨x0, x1, x2, f0, f1, f2⟩ := three HK.out))
      obtain ⟨k1, k2, k3⟩ := put3 HK.out (.int .i64 2) (.slice A3 s.length c3) (.int .i64 0)
      refine bodyPost_ret (results_tmp_cell_row rfl _ _ _ _ _ _ rfl k1 Tryz.underlying47 rfl (by kernel_rfl)) rfl ?_
      exact ⟨A1, _, A3, c3, rfl, k3 _ _ _ _ _ _ (own_below hown1 hb3) (by decide), k3 _ _ _ _ _ _ hown3 (by decide), k2 W hB.size hB3, k2 w (Nat.le_refl _) (hbw.trans (hb3.mono hbw.size))⟩
end Go.Proofs.YtaknfmionkkdjaaGreat

namespace Go.Proofs.YtaknfmionkkdjaaGreat
open Go.RowKit
set_option linter.unusedVariables false
set_option maxRecDepth 100000 in
set_option maxHeartbeats 1000000 in
theorem sameRows_any (w : World) {A A' : Option Addr} {n c n' c' B B' : Nat} {qs qs' : List (List Nat)} (hb : BytesL qs) (hb' : BytesL qs') (h : RdQ w B A n qs) (h' : RdQ w B' A' n' qs') (hn : n ≤ maxLen) (hn' : n' ≤ maxLen) :
    Calls Tryz.prog 59 #[.slice A n c, .slice A' n' c'] w fun e w' => e = .returned (.bool (decide (qs = qs'))) ∧ ∃ k, w' = w.drewN k := by
  have hl : qs.length = n := h.length
  have hl' : qs'.length = n' := h'.length
  unfold maxLen at hn hn'
  by_cases hne : n = n'
  · subst hne
    have HN : Hid (n ≤ 9223372036854775807) := Lib.hid (by omega)
    have HL := Lib.hid hl
    have HL' := Lib.hid hl'
    have H := Lib.hid h
    have H' := Lib.hid h'
    have HBY := Lib.hid hb
    have HBY' := Lib.hid hb'
    clear h h' hl hl' hn hn' hb hb'
    go_enter Tryz.func59, Tryz.ntmps59
    go_wp2
    go_loopw [5] (fun i wr => ∃ k : Nat, k ≤ n ∧ i = .int .i64 k ∧ (∀ j, j < k → qs[j]? = qs'[j]?) ∧ ∃ m, wr = w.drewN m) (fun i _ => n - (intOf i).toNat)
    case atStart => exact ⟨0, Nat.zero_le _, rfl, fun j hj => absurd hj (by omega), 0, rfl⟩
    case round =>
      obtain ⟨k, hk, rfl, hs, m, hm⟩ := hrel
      have hkm : (k : Int) ≤ 9223372036854775806 ∨ k = n := by have := HN.out; omega
      by_cases hlt : k < n
      · have hW : Below w.heap.size w wr := by rw [hm]; exact (Below.refl w.heap.size w).trans ⟨rfl, rfl, rfl, Nat.le_refl _, fun _ _ => rfl⟩
        obtain ⟨b, o, l, A1, c1, rfl, hz, hc, hr1⟩ := (H.out.fit.below hW).at hlt
        obtain ⟨b', o', l', A2, c2, rfl, hz', hc', hr2⟩ := (H'.out.fit.below hW).at hlt
        have q1 := fun i => str_of (c := c1) (hr1.drewN i)
        have q2 := fun i => str_of (c := c2) (hr2.drewN i)
        have q3 := strL_eq (HBY.out l (List.mem_of_getElem? hz)) (HBY'.out l' (List.mem_of_getElem? hz'))
        have hv : IntKind.i64.wrap ((k : Int) + 1) = (k : Int) + 1 := IntWalk.i64_in _ (by have := HN.out; omega)
        have HS := Lib.hid hs
        have HZ := Lib.hid hz
        have HZ' := Lib.hid hz'
        have HM := Lib.hid hm
        clear hs hz hz' hm hkm hr1 hr2 hW
        by_cases he : l = l'
        · subst he
          rw [decide_eq_true rfl] at q3
          go_wp2
          go_quiet (fail)
          go_wp2
          go_roundw
          case rel =>
            refine ⟨k + 1, by omega, by go_num, fun j hj => ?_, m + nq, by rw [HM.out, World.drewN_drewN]⟩
            rcases Nat.lt_or_ge j k with h1 | h1
            · exact HS.out j h1
            · obtain rfl : j = k := by omega
              rw [HZ.out, HZ'.out]
          case measure => simp [intOf]; omega
        · rw [decide_eq_false he] at q3
          have HE := Lib.hid (show decide (qs = qs') = false by
            rw [decide_eq_false_iff_not]
            rintro rfl
            have h1 := HZ.out
            rw [HZ'.out] at h1
            injection h1 with h1
            exact he h1.symm)
          clear he
          go_wp2
          go_quiet (fail)
          go_wp2
          go_ret
          exact ⟨ret_bool HE.out.symm, m + nq, by rw [HM.out, World.drewN_drewN]⟩
      · have hkn : k = n := by omega
        have HE := Lib.hid (show decide (qs = qs') = true by
          rw [decide_eq_true_iff]
          apply List.ext_getElem?
          intro j
          rcases Nat.lt_or_ge j n with h1 | h1
          · exact hs j (by omega)
          · rw [List.getElem?_eq_none (by have := HL.out; omega), List.getElem?_eq_none (by have := HL'.out; omega)])
        have HM := Lib.hid hm
        clear hs hkn hm hkm
        go_wp2
        go_ret
        exact ⟨ret_bool HE.out.symm, m, HM.out⟩
  · have HE := Lib.hid (show decide (qs = qs') = false by
      rw [decide_eq_false_iff_not]; rintro rfl; omega)
    have hd : ((n : Int) == (n' : Int)) = false := by simp; omega
    have hd2 : ((n : Int) != (n' : Int)) = true := by simp; omega
    clear h h' hl hl' hn hn' hne
    go_enter Tryz.func59, Tryz.ntmps59
    go_wp2
    go_ret
    exact ⟨ret_bool HE.out.symm, 0, rfl⟩
theorem sameRows_below (w : World) {A A' : Option Addr} {n c n' c' B B' : Nat} {qs qs' : List (List Nat)} (hb : BytesL qs) (hb' : BytesL qs') (h : RdQ w B A n qs) (h' : RdQ w B' A' n' qs') (hn : n ≤ maxLen) (hn' : n' ≤ maxLen) :
    Calls Tryz.prog 59 #[.slice A n c, .slice A' n' c'] w fun e w' => e = .returned (.bool (decide (qs = qs'))) ∧ Below w.heap.size w w' :=
  (sameRows_any w hb hb' h h' hn hn').mono fun e w' h => ⟨h.1, by obtain ⟨k, hk⟩ := h.2; rw [hk]; exact ⟨rfl, rfl, rfl, Nat.le_refl _, fun _ _ => rfl⟩⟩
end Go.Proofs.YtaknfmionkkdjaaGreat

