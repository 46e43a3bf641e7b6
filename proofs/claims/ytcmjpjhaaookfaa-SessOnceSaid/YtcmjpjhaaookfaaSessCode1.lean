/- The code of a table, the small calls: is a number, refused, the first look, the closure, the two searches, a result of one's own. -/
import Derived.Test.YtcmjpjhaaookfaaSessCodeM
import Derived.Test.YtcmjpjhaaookfaaCloneKit
namespace Go.Proofs.Ytcmjpjhaaookfaa
open Go.RowKit
set_option linter.unusedVariables false
/-- the variable of the answer, wherever it lies, is written: what the call tells then -/
theorem lookDoneAt {w w2 : World} {A1 : Option Addr} {b c1 : Nat} {l : List Nat} {e N k : Int} {en : Ending} (HK : Blk w2 b 34 zeroR) (hs : w.heap.size ≤ b) (hB : Below w.heap.size w w2) (ho : OwnB w w2 A1 l.length c1 l)
    (he : en = .returned (.tuple #[.agg #[.int .i64 e, .slice A1 l.length c1, .int .i64 N], .int .i64 k])) :
    GotRK w w e l N k en (((w2.setCell ⟨b, 0, none⟩ (.int .i64 e)).setCell ⟨b, 1, none⟩ (.slice A1 l.length c1)).setCell ⟨b, 2, none⟩ (.int .i64 N)) := by
  obtain ⟨k1, k2, k3⟩ := put3 HK (.int .i64 e) (.slice A1 l.length c1) (.int .i64 N)
  have h2 := k2 w hs hB
  exact ⟨A1, c1, he, k3 _ _ _ _ _ _ ho (by decide), h2, h2⟩
set_option maxRecDepth 100000 in
theorem isNumber_any (w : World) (n : Int) :
    Calls Try.prog 67 #[.int .i64 n] w fun e w' => e = .returned (.bool (decide (1 ≤ n ∧ n ≤ 1073741824))) ∧ w = w' := by
  by_cases h1 : 1 ≤ n
  · by_cases h2 : n ≤ 1073741824
    · rw [decide_eq_true ⟨h1, h2⟩]
      go_enter Try.func67, Try.ntmps67
      go_wp2_with fail
      go_ret
      exact ⟨rfl, rfl⟩
    · rw [decide_eq_false (by omega)]
      go_enter Try.func67, Try.ntmps67
      go_wp2_with fail
      go_ret
      exact ⟨rfl, rfl⟩
  · rw [decide_eq_false (by omega)]
    go_enter Try.func67, Try.ntmps67
    go_wp2_with fail
    go_ret
    exact ⟨rfl, rfl⟩
set_option maxRecDepth 100000 in
theorem refused_raw (w : World) (e : Int) :
    Calls Try.prog 68 #[.int .i64 e] w (GotRK w w e [] 0 2) := by
  have HB := Lib.hid (show Below w.heap.size w (w.alloc (.cells zeroR 34)) from (Below.refl _ _).alloc (Nat.le_refl _) _)
  have HK := Lib.hid (Blk.new w 34 zeroR)
  go_enter Try.func68, Try.ntmps68
  go_upto_region 1 with fail
  generalize w.alloc (.cells #[.int .i64 0, .slice none 0 0, .int .i64 0] 34) = wa at HB HK ⊢
  obtain ⟨x0, x1, x2, f0, f1, f2⟩ := three HK.out
  go_wp2_with fail
  refine bodyPost_ret (results_cell_tmp rfl _ _ _ _ _ _ rfl (put3 HK.out _ _ _).1 Try.underlying34 rfl (by kernel_rfl)) rfl ?_
  exact lookDone HK.out HB.out (own_nil _ _) rfl
theorem refused_any {W w : World} (e : Int) (hB : Below W.heap.size W w) : Calls Try.prog 68 #[.int .i64 e] w (GotRK W w e [] 0 2) :=
  (refused_raw w e).mono fun e w' h => GotRK.of hB h
set_option maxRecDepth 100000 in
theorem lookFirst_raw (w : World) (A : Option Addr) (n c : Nat) (hn : n ≤ 100000) :
    Calls Try.prog 71 #[.slice A n c] w (GotRK w w (if 8 ≤ n then 9 else 0) [] 0 (if 8 ≤ n then 2 else 0)) := by
  have HB := Lib.hid (show Below w.heap.size w (w.alloc (.cells zeroR 34)) from (Below.refl _ _).alloc (Nat.le_refl _) _)
  have HK := Lib.hid (Blk.new w 34 zeroR)
  by_cases h8 : 8 ≤ n
  · rw [if_pos h8, if_pos h8]
    have h8i : (8 : Int) ≤ (n : Int) := by omega
    go_enter Try.func71, Try.ntmps71
    go_upto_region 1 with fail
    generalize w.alloc (.cells #[.int .i64 0, .slice none 0 0, .int .i64 0] 34) = wa at HB HK ⊢
    go_wp2_with fail
    refine (refused_any (W := w) 9 HB.out).mono ?_
    rintro en w2 ⟨A2, c2, rfl, ho2, hB2, hb2⟩
    unfold resV
    simp only [List.length_nil]
    have HK2 := Lib.hid (HK.out.below hb2)
    obtain ⟨x0, x1, x2, f0, f1, f2⟩ := three HK2.out
    go_wp2_with fail
    refine bodyPost_ret (results_cell_tmp rfl _ _ _ _ _ _ rfl (put3 HK2.out _ _ _).1 Try.underlying34 rfl (by kernel_rfl)) rfl ?_
    exact lookDone HK2.out hB2 ho2 rfl
  · rw [if_neg h8, if_neg h8]
    have h8i : ¬ (8 : Int) ≤ (n : Int) := by omega
    go_enter Try.func71, Try.ntmps71
    go_upto_region 1 with fail
    generalize w.alloc (.cells #[.int .i64 0, .slice none 0 0, .int .i64 0] 34) = wa at HB HK ⊢
    obtain ⟨x0, x1, x2, f0, f1, f2⟩ := three HK.out
    go_wp2_with fail
    refine bodyPost_ret (results_cell_tmp rfl _ _ _ _ _ _ rfl (put3 HK.out _ _ _).1 Try.underlying34 rfl (by kernel_rfl)) rfl ?_
    exact lookDone HK.out HB.out (own_nil _ _) rfl
theorem lookFirst_any {W w : World} (A : Option Addr) (n c : Nat) (hn : n ≤ 100000) (hB : Below W.heap.size W w) :
    Calls Try.prog 71 #[.slice A n c] w (GotRK W w (if 8 ≤ n then 9 else 0) [] 0 (if 8 ≤ n then 2 else 0)) :=
  (lookFirst_raw w A n c hn).mono fun e w' h => GotRK.of hB h
set_option maxHeartbeats 1000000 in
/-- is it of session s? -/
theorem pred9_any (w : World) {kb n1 c1 : Nat} {A1 : Option Addr} {s : Int} (s1 q1 e1 N1 : Int) (hc : w.cell? ⟨kb, 0, none⟩ = some (.int .i64 s)) :
    Calls Try.prog 70 #[.agg #[.int .i64 s1, .int .i64 q1, .int .i64 e1, .slice A1 n1 c1, .int .i64 N1], .pointer (some ⟨kb, 0, none⟩)] w fun e w' => e = .returned (.bool (decide (s1 = s))) ∧ Below w.heap.size w w' := by
  have hlt := World.block_lt_of_cell? _ _ hc
  have b1 : Below w.heap.size w (w.alloc (.cells #[.int .i64 s1, .int .i64 q1, .int .i64 e1, .slice A1 n1 c1, .int .i64 N1] 57)) := (Below.refl _ _).alloc (Nat.le_refl _) _
  have hc1 := (b1.cell (p := ⟨kb, 0, none⟩) hlt).trans hc
  have hd : decide (s1 = s) = (s1 == s) := by rw [Bool.eq_iff_iff]; simp
  rw [hd]
  clear hc hlt hd
  go_enter Try.func70, Try.ntmps70
  go_wp2_with fail
  go_ret
  exact ⟨rfl, b1⟩
/-- where session s stands first -/
def Found (ls : List Ls) (s : Int) (e : Ending) : Prop := (∃ (j : Nat) (l : Ls), e = .returned (.int .i64 j) ∧ j < ls.length ∧ ls[j]? = some l ∧ l.s = s ∧ Tb.here ls s = some l) ∨ (e = .returned (.int .i64 (-1)) ∧ Tb.here ls s = none)
set_option maxHeartbeats 1000000 in
theorem indexFunc9_any (w : World) {kb n c B : Nat} {A : Option Addr} {ls : List Ls} {s : Int} (hn : n ≤ 100000) (h : RdL w B A n ls) (hc : w.cell? ⟨kb, 0, none⟩ = some (.int .i64 s)) :
    Calls Try.prog 69 #[.slice A n c, .func (.func 70) #[] #[.pointer (some ⟨kb, 0, none⟩)]] w fun e w' => Found ls s e ∧ Below w.heap.size w w' := by
  obtain rfl := h.length
  have hlt0 := World.block_lt_of_cell? _ _ hc
  have H := Lib.hid h.fit
  have HC : Hid (∀ wx, Below w.heap.size w wx → wx.cell? ⟨kb, 0, none⟩ = some (.int .i64 s)) := Lib.hid (fun wx hb => (hb.cell (p := ⟨kb, 0, none⟩) hlt0).trans hc)
  clear h hc hlt0
  go_enter Try.func69, Try.ntmps69
  go_wp2_with fail
  go_loopw [5, 8] (fun s5 s8 wr => ∃ j : Nat, j ≤ ls.length ∧ s8 = .int .i64 j ∧ Hid (∀ (i : Nat) (m : Ls), i < j → ls[i]? = some m → m.s ≠ s) ∧ Hid (Below w.heap.size w wr)) (fun _ s8 _ => ls.length - (intOf s8).toNat)
  case atStart => exact ⟨0, Nat.zero_le _, rfl, Lib.hid (fun i m hi => absurd hi (by omega)), Lib.hid (Below.refl _ _)⟩
  case round =>
    obtain ⟨j, hj, rfl, HS, HB0⟩ := hrel
    by_cases hlt : j < ls.length
    · obtain ⟨b, o, l, A1, c1, rfl, hl, y0, y1, y2, y3, y4, hrd⟩ := ((H.out.below HB0.out).fit).at hlt
      have HP := Lib.hid hl
      clear hl hrd
      by_cases he : l.s = s
      · have HE := Lib.hid he
        have HD := Lib.hid (decide_eq_true he)
        clear he
        go_wp2_with (first
          | (go_at_call 70; refine (pred9_any _ _ _ _ _ (HC.out _ HB0.out)).mono ?_; rw [HD.out]; rintro e w2 ⟨rfl, hb2⟩)
          | fail)
        go_ret
        exact ⟨.inl ⟨j, l, rfl, hlt, HP.out, HE.out, Tb.here_of HS.out HP.out HE.out⟩, HB0.out.trans (hb2.mono HB0.out.size)⟩
      · have HE := Lib.hid he
        have HD := Lib.hid (decide_eq_false he)
        clear he
        go_wp2_with (first
          | (go_at_call 70; refine (pred9_any _ _ _ _ _ (HC.out _ HB0.out)).mono ?_; rw [HD.out]; rintro e w2 ⟨rfl, hb2⟩)
          | fail)
        go_roundw
        case rel =>
          refine ⟨j + 1, by omega, by go_num, Lib.hid (fun i m hi hm => ?_), Lib.hid (HB0.out.trans (hb2.mono HB0.out.size))⟩
          rcases Nat.lt_or_ge i j with h1 | h1
          · exact HS.out i m h1 hm
          · obtain rfl : i = j := by omega
            rw [HP.out] at hm
            injection hm with hm
            subst hm
            exact HE.out
        case measure => simp [intOf]; omega
    · obtain rfl : j = ls.length := by omega
      have HNO := Lib.hid (Tb.here_no (fun j m hm => HS.out j m (List.getElem?_eq_some_iff.1 hm).1 hm))
      go_wp2_with fail
      go_ret
      exact ⟨.inr ⟨rfl, HNO.out⟩, HB0.out⟩
set_option maxHeartbeats 1000000 in
theorem place9_any (w : World) {A : Option Addr} {n c B : Nat} {ls : List Ls} {s : Int} (hn : n ≤ 100000) (h : RdL w B A n ls) :
    Calls Try.prog 75 #[.slice A n c, .int .i64 s] w fun e w' => (∃ i : Nat, e = .returned (.int .i64 i) ∧ i ≤ ls.length ∧ (∀ (j : Nat) (m : Ls), j < i → ls[j]? = some m → ¬ s < m.s) ∧ ∀ m, ls[i]? = some m → s < m.s) ∧ Below w.heap.size w w' := by
  obtain rfl := h.length
  have H := Lib.hid h.fit
  clear h
  go_enter Try.func75, Try.ntmps75
  go_wp2_with fail
  go_loopw [5, 6, 9] (fun s5 s6 s9 wr => ∃ j : Nat, j ≤ ls.length ∧ s9 = .int .i64 j ∧ Hid (∀ (i : Nat) (m : Ls), i < j → ls[i]? = some m → ¬ s < m.s) ∧ Hid (Below w.heap.size w wr)) (fun _ _ s9 _ => ls.length - (intOf s9).toNat)
  case atStart => exact ⟨0, Nat.zero_le _, rfl, Lib.hid (fun i m hi => absurd hi (by omega)), Lib.hid (Below.refl _ _)⟩
  case round =>
    obtain ⟨j, hj, rfl, HS, HB0⟩ := hrel
    by_cases hlt : j < ls.length
    · obtain ⟨b, o, l, A1, c1, rfl, hl, y0, y1, y2, y3, y4, hrd⟩ := ((H.out.below HB0.out).fit).at hlt
      have HP := Lib.hid hl
      clear hl hrd
      by_cases he : s < l.s
      · have HE := Lib.hid he
        go_wp2_with fail
        go_ret
        refine ⟨⟨j, rfl, hj, HS.out, fun m hm => ?_⟩, HB0.out.alloc HB0.out.size _⟩
        rw [HP.out] at hm
        injection hm with hm
        subst hm
        exact HE.out
      · have HE := Lib.hid he
        go_wp2_with fail
        go_roundw
        case rel =>
          refine ⟨j + 1, by omega, by go_num, Lib.hid (fun i m hi hm => ?_), Lib.hid (HB0.out.alloc HB0.out.size _)⟩
          rcases Nat.lt_or_ge i j with h1 | h1
          · exact HS.out i m h1 hm
          · obtain rfl : i = j := by omega
            rw [HP.out] at hm
            injection hm with hm
            subst hm
            exact HE.out
        case measure => simp [intOf]; omega
    · obtain rfl : j = ls.length := by omega
      go_wp2_with fail
      go_ret
      refine ⟨⟨ls.length, rfl, Nat.le_refl _, HS.out, fun m hm => ?_⟩, HB0.out⟩
      rw [List.getElem?_eq_none (Nat.le_refl _)] at hm
      cases hm
set_option maxRecDepth 100000 in
set_option maxHeartbeats 2000000 in
theorem copied9_raw (w : World) {A : Option Addr} {n c B : Nat} {l : List Nat} (e N : Int) (hn : Lim 0 n) (h : Rd w B A n (bv l)) :
    Calls Try.prog 72 #[resV e A n c N] w (GotR w w e l N) := by
  have b0 : Below w.heap.size w ((w.alloc (.cells #[.int .i64 e, .slice A n c, .int .i64 N] 34)).alloc (.cells zeroR 34)) := ((Below.refl _ _).alloc (Nat.le_refl _) _).alloc (by simp) _
  have H := Lib.hid (h.fit.below b0)
  have HB := Lib.hid b0
  have HK1 := Lib.hid ((Blk.new w 34 #[.int .i64 e, .slice A n c, .int .i64 N]).alloc (.cells zeroR 34))
  have HK2 := Lib.hid (Blk.new (w.alloc (.cells #[.int .i64 e, .slice A n c, .int .i64 N] 34)) 34 zeroR)
  rw [World.size_alloc] at HK2
  clear h b0
  unfold resV
  go_enter Try.func72, Try.ntmps72
  go_upto_region 1 with fail
  generalize (w.alloc (.cells #[.int .i64 e, .slice A n c, .int .i64 N] 34)).alloc (.cells zeroR 34) = wa at H HB HK1 HK2 ⊢
  obtain ⟨x0, x1, x2, f0, f1, f2⟩ := three HK1.out
  obtain ⟨y0, y1, y2, g0, g1, g2⟩ := three HK2.out
  go_region_law (first
    | (rw [if_pos (by kernel_rfl)]; go_simp; go_at_call 80; refine (clone_any (W := w) hn H.out.drew HB.out.drew).mono ?_; rintro en w1 ⟨A1, c1, rfl, ho1, hB1, hb1⟩
       have HK1b := Lib.hid (HK1.out.drew.below hb1)
       have HK2b := Lib.hid (HK2.out.drew.below hb1)
       obtain ⟨u0, u1, u2, k0, k1, k2⟩ := three HK1b.out
       obtain ⟨v0, v1, v2, m0, m1, m2⟩ := three HK2b.out
       go_simp))
  all_goals go_wp2_with fail
  all_goals
    obtain ⟨k1, k2, k3⟩ := put3 HK2b.out (.int .i64 e) (.slice A1 l.length c1) (.int .i64 N)
    refine bodyPost_ret (results_cell_row rfl _ _ _ _ _ _ _ rfl k1 Try.underlying34 rfl (by kernel_rfl)) rfl ?_
    have h2 := k2 w (by omega) hB1
    exact ⟨A1, c1, rfl, k3 _ _ _ _ _ _ ho1 (by decide), h2, h2⟩
theorem copied9_any {W w : World} {A : Option Addr} {n c B : Nat} {l : List Nat} (e N : Int) (hn : Lim 0 n) (h : Rd w B A n (bv l)) (hB : Below W.heap.size W w) :
    Calls Try.prog 72 #[resV e A n c N] w (GotR W w e l N) :=
  (copied9_raw w e N hn h).mono fun en w' ⟨A', c', h1, h2, h3, h4⟩ => ⟨A', c', h1, own_moreL hB.size h2, hB.trans (h3.mono hB.size), h4⟩
end Go.Proofs.Ytcmjpjhaaookfaa
