/- SessCodeM SessCode1 LastInsert SessCode3 -/
import Derived.Test.YtaknfmionkkdjaaFM09
import Derived.Test.YtaknfmionkkdjaaFM13
import Derived.Test.YtaknfmionkkdjaaFM14
import Derived.Test.YtaknfmionkkdjaaFM18
import Derived.Test.YtaknfmionkkdjaaFM27
import Derived.Lib.Overlaps
namespace Go.Proofs.Ytaknfmionkkdjaa
set_option linter.unusedVariables false
namespace Tb
theorem here_of {ls : List Ls} {s : Int} {k : Nat} {l : Ls} (h : ∀ (j : Nat) (m : Ls), j < k → ls[j]? = some m → m.s ≠ s) (hl : ls[k]? = some l) (hs : l.s = s) : Tb.here ls s = some l := by
  unfold Tb.here
  have hk : k < ls.length := (List.getElem?_eq_some_iff.1 hl).1
  conv => lhs; rw [← List.take_append_drop k ls]
  rw [List.find?_append, Tb.find_none (l := ls.take k) (fun m hm => by
    obtain ⟨j, hj, e⟩ := List.getElem_of_mem hm
    have hj2 : j < k := by rw [List.length_take] at hj; omega
    have := h j m hj2 (by rw [← e, List.getElem_take, List.getElem?_eq_getElem])
    simpa using this)]
  have hd : ls.drop k = l :: ls.drop (k + 1) := by rw [List.drop_eq_getElem?_toList_append, hl]; rfl
  rw [hd]
  simp [hs]
theorem here_no {ls : List Ls} {s : Int} (h : ∀ (j : Nat) (m : Ls), ls[j]? = some m → m.s ≠ s) : Tb.here ls s = none := by
  unfold Tb.here
  refine Tb.find_none fun m hm => ?_
  obtain ⟨j, hj, e⟩ := List.getElem_of_mem hm
  have := h j m (by rw [← e]; exact List.getElem?_eq_getElem hj)
  simpa using this
/-- all but those of session s -/
def less (ls : List Ls) (s : Int) : List Ls := ls.filter fun m => decide (m.s ≠ s)
theorem less_rises {ls : List Ls} {s : Int} (h : Rises ls) : Rises (less ls s) := h.filter _
theorem less_mem {ls : List Ls} {s : Int} {m : Ls} (h : m ∈ less ls s) : m ∈ ls ∧ m.s ≠ s := by
  have := List.mem_filter.1 h
  exact ⟨this.1, by simpa using this.2⟩
theorem less_len (ls : List Ls) (s : Int) : (less ls s).length ≤ ls.length := List.length_filter_le _ _
theorem less_take {ls : List Ls} {s : Int} {k : Nat} {l : Ls} (hl : ls[k]? = some l) : less (ls.take (k + 1)) s = if l.s = s then less (ls.take k) s else less (ls.take k) s ++ [l] := by
  unfold less
  rw [List.take_add_one, hl, List.filter_append]
  split
  · rename_i h; simp [h]
  · rename_i h; simp [h]
theorem less_at {ls : List Ls} {s : Int} {i : Nat} (hi : i ≤ (less ls s).length) (h : ∀ (j : Nat) (m : Ls), j < i → (less ls s)[j]? = some m → ¬ s < m.s) (hx : ∀ m, (less ls s)[i]? = some m → s < m.s) : At (less ls s) s i :=
  ⟨hi, fun j m hj hm => by
    have h1 := h j m hj hm
    have h2 := (less_mem (List.mem_of_getElem? hm)).2
    omega, fun m hm => by have := hx m hm; omega⟩
theorem put_less {ls : List Ls} {l : Ls} {i : Nat} (hr : Rises ls) (h : At (less ls l.s) l.s i) : put ls l = (less ls l.s).take i ++ l :: (less ls l.s).drop i := by
  rw [← h.put_none (l := l) (less_rises hr) (fun m hm => (less_mem (List.mem_of_getElem? hm)).2)]
  unfold put less
  rw [List.filter_filter, List.filter_filter]
  congr 1
  · refine List.filter_congr fun m _ => ?_
    by_cases h1 : m.s < l.s
    · simp [h1]; omega
    · simp [h1]
  · congr 1
    refine List.filter_congr fun m _ => ?_
    by_cases h1 : l.s < m.s
    · simp [h1]; omega
    · simp [h1]
end Tb
end Go.Proofs.Ytaknfmionkkdjaa

namespace Go.Proofs.Ytaknfmionkkdjaa
open Go.RowKit
set_option linter.unusedVariables false
/-- the variable of the answer, wherever it lies, is written: what the call tells then -/
theorem lookDoneAt {w w2 : World} {A1 : Option Addr} {b c1 : Nat} {l : List Nat} {e N k : Int} {en : Ending} (HK : Blk w2 b 65 zeroR) (hs : w.heap.size ≤ b) (hB : Below w.heap.size w w2) (ho : OwnB w w2 A1 l.length c1 l)
    (he : en = .returned (.tuple #[.agg #[.int .i64 e, .slice A1 l.length c1, .int .i64 N], .int .i64 k])) :
    GotRK w w e l N k en (((w2.setCell ⟨b, 0, none⟩ (.int .i64 e)).setCell ⟨b, 1, none⟩ (.slice A1 l.length c1)).setCell ⟨b, 2, none⟩ (.int .i64 N)) := by
  obtain ⟨k1, k2, k3⟩ := put3 HK (.int .i64 e) (.slice A1 l.length c1) (.int .i64 N)
  have h2 := k2 w hs hB
  exact ⟨A1, c1, he, k3 _ _ _ _ _ _ ho (by decide), h2, h2⟩
set_option maxRecDepth 100000 in
theorem isNumber_any (w : World) (n : Int) :
    Calls Try.prog 58 #[.int .i64 n] w fun e w' => e = .returned (.bool (decide (1 ≤ n ∧ n ≤ 1073741824))) ∧ w = w' := by
  by_cases h1 : 1 ≤ n
  · by_cases h2 : n ≤ 1073741824
    · rw [decide_eq_true ⟨h1, h2⟩]
      go_enter Try.func58, Try.ntmps58
      go_wp2_with fail
      go_ret
      exact ⟨rfl, rfl⟩
    · rw [decide_eq_false (by omega)]
      go_enter Try.func58, Try.ntmps58
      go_wp2_with fail
      go_ret
      exact ⟨rfl, rfl⟩
  · rw [decide_eq_false (by omega)]
    go_enter Try.func58, Try.ntmps58
    go_wp2_with fail
    go_ret
    exact ⟨rfl, rfl⟩
set_option maxRecDepth 100000 in
theorem refused_raw (w : World) (e : Int) :
    Calls Try.prog 59 #[.int .i64 e] w (GotRK w w e [] 0 2) := by
  have HB := Lib.hid (show Below w.heap.size w (w.alloc (.cells zeroR 65)) from (Below.refl _ _).alloc (Nat.le_refl _) _)
  have HK := Lib.hid (Blk.new w 65 zeroR)
  go_enter Try.func59, Try.ntmps59
  go_upto_region 1 with fail
  generalize w.alloc (.cells #[.int .i64 0, .slice none 0 0, .int .i64 0] 65) = wa at HB HK ⊢
  obtain ⟨x0, x1, x2, f0, f1, f2⟩ := three HK.out
  go_wp2_with fail
  refine bodyPost_ret (results_cell_tmp rfl _ _ _ _ _ _ rfl (put3 HK.out _ _ _).1 Try.underlying65 rfl (by kernel_rfl)) rfl ?_
  exact lookDone HK.out HB.out (own_nil _ _) rfl
theorem refused_any {W w : World} (e : Int) (hB : Below W.heap.size W w) : Calls Try.prog 59 #[.int .i64 e] w (GotRK W w e [] 0 2) :=
  (refused_raw w e).mono fun e w' h => GotRK.of hB h
set_option maxRecDepth 100000 in
theorem lookFirst_raw (w : World) (A : Option Addr) (n c : Nat) (hn : n ≤ 100000) :
    Calls Try.prog 62 #[.slice A n c] w (GotRK w w (if 8 ≤ n then 9 else 0) [] 0 (if 8 ≤ n then 2 else 0)) := by
  have HB := Lib.hid (show Below w.heap.size w (w.alloc (.cells zeroR 65)) from (Below.refl _ _).alloc (Nat.le_refl _) _)
  have HK := Lib.hid (Blk.new w 65 zeroR)
  by_cases h8 : 8 ≤ n
  · rw [if_pos h8, if_pos h8]
    have h8i : (8 : Int) ≤ (n : Int) := by omega
    go_enter Try.func62, Try.ntmps62
    go_upto_region 1 with fail
    generalize w.alloc (.cells #[.int .i64 0, .slice none 0 0, .int .i64 0] 65) = wa at HB HK ⊢
    go_wp2_with fail
    refine (refused_any (W := w) 9 HB.out).mono ?_
    rintro en w2 ⟨A2, c2, rfl, ho2, hB2, hb2⟩
    unfold resV
    simp only [List.length_nil]
    have HK2 := Lib.hid (HK.out.below hb2)
    obtain ⟨x0, x1, x2, f0, f1, f2⟩ := three HK2.out
    go_wp2_with fail
    refine bodyPost_ret (results_cell_tmp rfl _ _ _ _ _ _ rfl (put3 HK2.out _ _ _).1 Try.underlying65 rfl (by kernel_rfl)) rfl ?_
    exact lookDone HK2.out hB2 ho2 rfl
  · rw [if_neg h8, if_neg h8]
    have h8i : ¬ (8 : Int) ≤ (n : Int) := by omega
    go_enter Try.func62, Try.ntmps62
    go_upto_region 1 with fail
    generalize w.alloc (.cells #[.int .i64 0, .slice none 0 0, .int .i64 0] 65) = wa at HB HK ⊢
    obtain ⟨x0, x1, x2, f0, f1, f2⟩ := three HK.out
    go_wp2_with fail
    refine bodyPost_ret (results_cell_tmp rfl _ _ _ _ _ _ rfl (put3 HK.out _ _ _).1 Try.underlying65 rfl (by kernel_rfl)) rfl ?_
    exact lookDone HK.out HB.out (own_nil _ _) rfl
theorem lookFirst_any {W w : World} (A : Option Addr) (n c : Nat) (hn : n ≤ 100000) (hB : Below W.heap.size W w) :
    Calls Try.prog 62 #[.slice A n c] w (GotRK W w (if 8 ≤ n then 9 else 0) [] 0 (if 8 ≤ n then 2 else 0)) :=
  (lookFirst_raw w A n c hn).mono fun e w' h => GotRK.of hB h
set_option maxHeartbeats 1000000 in
/-- is it of session s? -/
theorem pred9_any (w : World) {kb n1 c1 : Nat} {A1 : Option Addr} {s : Int} (s1 q1 e1 N1 : Int) (hc : w.cell? ⟨kb, 0, none⟩ = some (.int .i64 s)) :
    Calls Try.prog 61 #[.agg #[.int .i64 s1, .int .i64 q1, .int .i64 e1, .slice A1 n1 c1, .int .i64 N1], .pointer (some ⟨kb, 0, none⟩)] w fun e w' => e = .returned (.bool (decide (s1 = s))) ∧ Below w.heap.size w w' := by
  have hlt := World.block_lt_of_cell? _ _ hc
  have b1 : Below w.heap.size w (w.alloc (.cells #[.int .i64 s1, .int .i64 q1, .int .i64 e1, .slice A1 n1 c1, .int .i64 N1] 94)) := (Below.refl _ _).alloc (Nat.le_refl _) _
  have hc1 := (b1.cell (p := ⟨kb, 0, none⟩) hlt).trans hc
  have hd : decide (s1 = s) = (s1 == s) := by rw [Bool.eq_iff_iff]; simp
  rw [hd]
  clear hc hlt hd
  go_enter Try.func61, Try.ntmps61
  go_wp2_with fail
  go_ret
  exact ⟨rfl, b1⟩
/-- where session s stands first -/
def Found (ls : List Ls) (s : Int) (e : Ending) : Prop := (∃ (j : Nat) (l : Ls), e = .returned (.int .i64 j) ∧ j < ls.length ∧ ls[j]? = some l ∧ l.s = s ∧ Tb.here ls s = some l) ∨ (e = .returned (.int .i64 (-1)) ∧ Tb.here ls s = none)
set_option maxHeartbeats 1000000 in
theorem indexFunc9_any (w : World) {kb n c B : Nat} {A : Option Addr} {ls : List Ls} {s : Int} (hn : n ≤ 100000) (h : RdL w B A n ls) (hc : w.cell? ⟨kb, 0, none⟩ = some (.int .i64 s)) :
    Calls Try.prog 60 #[.slice A n c, .func (.func 61) #[] #[.pointer (some ⟨kb, 0, none⟩)]] w fun e w' => Found ls s e ∧ Below w.heap.size w w' := by
  obtain rfl := h.length
  have hlt0 := World.block_lt_of_cell? _ _ hc
  have H := Lib.hid h.fit
  have HC : Hid (∀ wx, Below w.heap.size w wx → wx.cell? ⟨kb, 0, none⟩ = some (.int .i64 s)) := Lib.hid (fun wx hb => (hb.cell (p := ⟨kb, 0, none⟩) hlt0).trans hc)
  clear h hc hlt0
  go_enter Try.func60, Try.ntmps60
  go_wp2_with fail
  go_loopw [5, 8] (fun s5 s8 wr => ∃ j : Nat, j ≤ ls.length ∧ s8 = .int .i64 j ∧ Hid (∀ (i : Nat) (m : Ls), i < j → ls[i]? = some m → m.s ≠ s) ∧ Hid (Below w.heap.size w wr)) (fun _ s8 _ => ls.length - (intOf s8).toNat)
  case atStart => exact ⟨0, Nat.zero_le _, rfl, Lib.hid (fun i m hi => absurd hi (by omega)), Lib.hid (Below.refl _ _)⟩
  case round =>
    obtain ⟨j, hj, rfl, HS, HB0⟩ := hrel
    by_cases hlt : j < ls.length
    · obtain ⟨b, o, l, A1, c1, rfl, hl, y0, y1, y2, y3, y4, hrd⟩ := ((H.out.below HB0.out).fit).at hlt
      have HP := Lib.hid hl
      clear hl hrd
      by_cases he : l.s = s
      · have HE := Lib.hid he
        have HD := Lib.hid (decide_eq_true he)
        clear he
        go_wp2_with (first
          | (go_at_call 61; refine (pred9_any _ _ _ _ _ (HC.out _ HB0.out)).mono ?_; rw [HD.out]; rintro e w2 ⟨rfl, hb2⟩)
          | fail)
        go_ret
        exact ⟨.inl ⟨j, l, rfl, hlt, HP.out, HE.out, Tb.here_of HS.out HP.out HE.out⟩, HB0.out.trans (hb2.mono HB0.out.size)⟩
      · have HE := Lib.hid he
        have HD := Lib.hid (decide_eq_false he)
        clear he
        go_wp2_with (first
          | (go_at_call 61; refine (pred9_any _ _ _ _ _ (HC.out _ HB0.out)).mono ?_; rw [HD.out]; rintro e w2 ⟨rfl, hb2⟩)
          | fail)
        go_roundw
        case rel =>
          refine ⟨j + 1, by omega, by go_num, Lib.hid (fun i m hi hm => ?_), Lib.hid (HB0.out.trans (hb2.mono HB0.out.size))⟩
          rcases Nat.lt_or_ge i j with h1 | h1
          · exact HS.out i m h1 hm
          · obtain rfl : i = j := by omega
            rw [HP.out] at hm
            injection hm with hm
            subst hm
            exact HE.out
        case measure => simp [intOf]; omega
    · obtain rfl : j = ls.length := by omega
      have HNO := Lib.hid (Tb.here_no (fun j m hm => HS.out j m (List.getElem?_eq_some_iff.1 hm).1 hm))
      go_wp2_with fail
      go_ret
      exact ⟨.inr ⟨rfl, HNO.out⟩, HB0.out⟩
set_option maxHeartbeats 1000000 in
theorem place9_any (w : World) {A : Option Addr} {n c B : Nat} {ls : List Ls} {s : Int} (hn : n ≤ 100000) (h : RdL w B A n ls) :
    Calls Try.prog 77 #[.slice A n c, .int .i64 s] w fun e w' => (∃ i : Nat, e = .returned (.int .i64 i) ∧ i ≤ ls.length ∧ (∀ (j : Nat) (m : Ls), j < i → ls[j]? = some m → ¬ s < m.s) ∧ ∀ m, ls[i]? = some m → s < m.s) ∧ Below w.heap.size w w' := by
  obtain rfl := h.length
  have H := Lib.hid h.fit
  clear h
  go_enter Try.func77, Try.ntmps77
  go_wp2_with fail
  go_loopw [5, 6, 9] (fun s5 s6 s9 wr => ∃ j : Nat, j ≤ ls.length ∧ s9 = .int .i64 j ∧ Hid (∀ (i : Nat) (m : Ls), i < j → ls[i]? = some m → ¬ s < m.s) ∧ Hid (Below w.heap.size w wr)) (fun _ _ s9 _ => ls.length - (intOf s9).toNat)
  case atStart => exact ⟨0, Nat.zero_le _, rfl, Lib.hid (fun i m hi => absurd hi (by omega)), Lib.hid (Below.refl _ _)⟩
  case round =>
    obtain ⟨j, hj, rfl, HS, HB0⟩ := hrel
    by_cases hlt : j < ls.length
    · obtain ⟨b, o, l, A1, c1, rfl, hl, y0, y1, y2, y3, y4, hrd⟩ := ((H.out.below HB0.out).fit).at hlt
      have HP := Lib.hid hl
      clear hl hrd
      by_cases he : s < l.s
      · have HE := Lib.hid he
        go_wp2_with fail
        go_ret
        refine ⟨⟨j, rfl, hj, HS.out, fun m hm => ?_⟩, HB0.out.alloc HB0.out.size _⟩
        rw [HP.out] at hm
        injection hm with hm
        subst hm
        exact HE.out
      · have HE := Lib.hid he
        go_wp2_with fail
        go_roundw
        case rel =>
          refine ⟨j + 1, by omega, by go_num, Lib.hid (fun i m hi hm => ?_), Lib.hid (HB0.out.alloc HB0.out.size _)⟩
          rcases Nat.lt_or_ge i j with h1 | h1
          · exact HS.out i m h1 hm
          · obtain rfl : i = j := by omega
            rw [HP.out] at hm
            injection hm with hm
            subst hm
            exact HE.out
        case measure => simp [intOf]; omega
    · obtain rfl : j = ls.length := by omega
      go_wp2_with fail
      go_ret
      refine ⟨⟨ls.length, rfl, Nat.le_refl _, HS.out, fun m hm => ?_⟩, HB0.out⟩
      rw [List.getElem?_eq_none (Nat.le_refl _)] at hm
      cases hm
set_option maxRecDepth 100000 in
set_option maxHeartbeats 2000000 in
theorem copied9_raw (w : World) {A : Option Addr} {n c B : Nat} {l : List Nat} (e N : Int) (hn : Lim 0 n) (h : Rd w B A n (bv l)) :
    Calls Try.prog 57 #[resV e A n c N] w (GotR w w e l N) := by
  have b0 : Below w.heap.size w ((w.alloc (.cells #[.int .i64 e, .slice A n c, .int .i64 N] 65)).alloc (.cells zeroR 65)) := ((Below.refl _ _).alloc (Nat.le_refl _) _).alloc (by simp) _
  have H := Lib.hid (h.fit.below b0)
  have HB := Lib.hid b0
  have HK1 := Lib.hid ((Blk.new w 65 #[.int .i64 e, .slice A n c, .int .i64 N]).alloc (.cells zeroR 65))
  have HK2 := Lib.hid (Blk.new (w.alloc (.cells #[.int .i64 e, .slice A n c, .int .i64 N] 65)) 65 zeroR)
  rw [World.size_alloc] at HK2
  clear h b0
  unfold resV
  go_enter Try.func57, Try.ntmps57
  go_upto_region 1 with fail
  generalize (w.alloc (.cells #[.int .i64 e, .slice A n c, .int .i64 N] 65)).alloc (.cells zeroR 65) = wa at H HB HK1 HK2 ⊢
  obtain ⟨x0, x1, x2, f0, f1, f2⟩ := three HK1.out
  obtain ⟨y0, y1, y2, g0, g1, g2⟩ := three HK2.out
  go_region_law (first
    | (rw [if_pos (by kernel_rfl)]; go_simp; go_at_call 49; refine (clone_any (W := w) hn H.out.drew HB.out.drew).mono ?_; rintro en w1 ⟨A1, c1, rfl, ho1, hB1, hb1⟩
       have HK1b := Lib.hid (HK1.out.drew.below hb1)
       have HK2b := Lib.hid (HK2.out.drew.below hb1)
       obtain ⟨u0, u1, u2, k0, k1, k2⟩ := three HK1b.out
       obtain ⟨v0, v1, v2, m0, m1, m2⟩ := three HK2b.out
       go_simp))
  all_goals go_wp2_with fail
  all_goals
    obtain ⟨k1, k2, k3⟩ := put3 HK2b.out (.int .i64 e) (.slice A1 l.length c1) (.int .i64 N)
    refine bodyPost_ret (results_cell_row rfl _ _ _ _ _ _ _ rfl k1 Try.underlying65 rfl (by kernel_rfl)) rfl ?_
    have h2 := k2 w (by omega) hB1
    exact ⟨A1, c1, rfl, k3 _ _ _ _ _ _ ho1 (by decide), h2, h2⟩
theorem copied9_any {W w : World} {A : Option Addr} {n c B : Nat} {l : List Nat} (e N : Int) (hn : Lim 0 n) (h : Rd w B A n (bv l)) (hB : Below W.heap.size W w) :
    Calls Try.prog 57 #[resV e A n c N] w (GotR W w e l N) :=
  (copied9_raw w e N hn h).mono fun en w' ⟨A', c', h1, h2, h3, h4⟩ => ⟨A', c', h1, own_moreL hB.size h2, hB.trans (h3.mono hB.size), h4⟩
end Go.Proofs.Ytaknfmionkkdjaa

namespace Go.Proofs.Ytaknfmionkkdjaa
open Go.RowKit
set_option linter.unusedVariables false
section
variable {P : Program}
end
theorem own_drewL {w : World} {base n size : Nat} {e : TypeId} {v : Value} {vs : List Value} (h : w.ownsRow base e size v n vs) : w.drew.ownsRow base e size v n vs := ownsRow_below h (Below.refl _ _).drew
set_option maxHeartbeats 4000000 in
set_option maxRecDepth 100000 in
theorem insertL_any {W w : World} {g n c i vb c1 : Nat} {A1 : Option Addr} {ps : List Ls} {l : Ls} (hn : n ≤ 100000) (hin : i ≤ n) (hnc : n < c) (hgv : vb ≠ g)
    (h : OwnL W w (some ⟨g, 0, none⟩) n c ps) (hvb : Blk w vb 94 #[.int .i64 l.s, .int .i64 l.q, .int .i64 l.e, .slice A1 l.v.length c1, .int .i64 l.n]) (ho1 : OwnB W w A1 l.v.length c1 l.v) (hB : Below W.heap.size W w) :
    Calls Try.prog 76 #[.slice (some ⟨g, 0, none⟩) n c, .int .i64 (i : Int), .slice (some ⟨vb, 0, none⟩) 1 1] w fun e w' => e = .returned (.slice (some ⟨g, 0, none⟩) (n + 1) c) ∧ OwnL W w' (some ⟨g, 0, none⟩) (n + 1) c (ps.take i ++ l :: ps.drop i) ∧ Below W.heap.size W w' := by
  obtain rfl := h.length
  obtain ⟨vs, hrow, hown⟩ := h
  have hvl : vs.length = ps.length * 5 := hrow.1
  obtain ⟨cur, hbk, hcs, htk, _, hbase⟩ := own_cur hrow
  obtain ⟨t0, ht0, htz, hts, _⟩ := info_parts cellL.info
  have hcmax : c ≤ 9223372036854775807 := by have := (own_cap hrow).2; unfold maxLen at this; omega
  have hsl := fun (m j : Nat) (hj : j ≤ m) (w : World) => run_slice_fromS_ (P := Try.prog) Try.underlying38 ht0 hts (some ⟨g, 0, none⟩) m c j hj w
  have hcut : ∀ j, j < c → cutS (some ⟨g, 0, none⟩) c j 5 = some ⟨g, j * 5, none⟩ := fun j hj => by
    unfold cutS; rw [if_neg (by omega), Option.map_some, adr_add, Nat.zero_add]
  have hs1 := hsl ps.length i hin
  rw [hcut i (by omega)] at hs1
  have hz1 : ¬ (1 : Int) = 0 := by omega
  rcases Nat.lt_or_ge i ps.length with hlt | hge
  · have hne : ¬ ((i : Int) = (ps.length : Int)) := by omega
    have hs2 := hsl (ps.length + 1) (i + 1) (by omega)
    rw [hcut (i + 1) (by omega), show ps.length + 1 - (i + 1) = ps.length - i by omega] at hs2
    have hs3 := hsl (ps.length + 1) i (by omega)
    rw [hcut i (by omega)] at hs3
    have hs4 := run_slice_to (P := Try.prog) (t := 38) Try.underlying38 ht0 (some ⟨g, 0, none⟩) ps.length c (ps.length + 1) (by omega)
    rw [show (((i + 1 : Nat)) : Int) = (i : Int) + 1 by omega] at hs2
    rw [show (((ps.length + 1 : Nat)) : Int) = (ps.length : Int) + 1 by omega] at hs4
    have hw1 : IntKind.i64.wrap ((ps.length : Int) + 1) = (ps.length : Int) + 1 := IntWalk.i64_in _ (by omega)
    have hw2 : IntKind.i64.wrap ((i : Int) + 1) = (i : Int) + 1 := IntWalk.i64_in _ (by omega)
    have hroom : ¬ (c : Int) < (ps.length : Int) + 1 := by omega
    have hcur2 : cur.size = c * 5 := hcs
    have hdl : (vs.drop (i * 5)).length = (ps.length - i) * 5 := by rw [List.length_drop, hvl]; omega
    have hcp1 : ∀ ty dc sc, (Builtin.copy_ #[38, 38] ty #[.slice (some ⟨g, (i + 1) * 5, none⟩) (ps.length - i) dc, .slice (some ⟨g, i * 5, none⟩) (ps.length + 1 - i) sc]).run Try.prog w.drew = .ok (.int .i64 ((ps.length - i : Nat) : Int)) (w.drew.setRow g (cur.toList.take ((i + 1) * 5) ++ vs.drop (i * 5) ++ cur.toList.drop ((i + 1) * 5 + (vs.drop (i * 5)).length)).toArray) := fun ty dc sc =>
      run_copy_blk (P := Try.prog) w.drew _ _ ty 94 g ((i + 1) * 5) (ps.length - i) dc ⟨g, i * 5, none⟩ (ps.length + 1 - i) sc cur 94 (vs.drop (i * 5)) 5 (ps.length - i) Try.underlying38 (by rw [ht0]; simp [hts]) hbk (by simp only [Nat.min_def]; split <;> omega) hdl
        (fun j u hj => by
          rw [List.getElem?_drop] at hj
          rw [adr_add, ← hj]
          have hjl : i * 5 + j < vs.length := (List.getElem?_eq_some_iff.1 hj).1
          exact hrow.cellAt (i * 5 + j) (by omega)) (by rw [hdl]; omega) (fun u hu => hown.one u (List.mem_of_mem_drop hu))
    obtain ⟨cs1, hcs1⟩ : ∃ cs1, (cur.toList.take ((i + 1) * 5) ++ vs.drop (i * 5) ++ cur.toList.drop ((i + 1) * 5 + (vs.drop (i * 5)).length)) = cs1 := ⟨_, rfl⟩
    rw [hcs1] at hcp1
    have hcs1l : cs1.length = c * 5 := by rw [← hcs1]; simp [hdl]; omega
    obtain ⟨W1, hW1⟩ : ∃ W1, w.drew.setRow g cs1.toArray = W1 := ⟨_, rfl⟩
    rw [hW1] at hcp1
    have hbk1 : Blk W1 g 94 cs1.toArray := by rw [← hW1]; exact setRow_heap w.drew g cur _ _ _ hbk
    have hvb1 : Blk W1 vb 94 #[.int .i64 l.s, .int .i64 l.q, .int .i64 l.e, .slice A1 l.v.length c1, .int .i64 l.n] := by rw [← hW1]; exact (setRow_other w.drew g vb _ hgv).trans hvb
    have hcp2 : ∀ ty dc, (Builtin.copy_ #[38, 38] ty #[.slice (some ⟨g, i * 5, none⟩) (ps.length + 1 - i) dc, .slice (some ⟨vb, 0, none⟩) 1 1]).run Try.prog W1 = .ok (.int .i64 ((1 : Nat) : Int)) (W1.setRow g (cs1.toArray.toList.take (i * 5) ++ lastC A1 c1 l ++ cs1.toArray.toList.drop (i * 5 + 5)).toArray) := fun ty dc =>
      run_copy_blk (P := Try.prog) W1 _ _ ty 94 g (i * 5) (ps.length + 1 - i) dc ⟨vb, 0, none⟩ 1 1 cs1.toArray 94 (lastC A1 c1 l) 5 1 Try.underlying38 (by rw [ht0]; simp [hts]) hbk1 (by simp only [Nat.min_def]; split <;> omega) rfl
        (fun j u hj => by rw [adr_add, hvb1.cell, Nat.zero_add]; simpa [lastC] using hj) (by simp [lastC_length]; omega) (lastC_one A1 c1 l)
    obtain ⟨cs2, hcs2⟩ : ∃ cs2, (cs1.toArray.toList.take (i * 5) ++ lastC A1 c1 l ++ cs1.toArray.toList.drop (i * 5 + 5)) = cs2 := ⟨_, rfl⟩
    rw [hcs2] at hcp2
    obtain ⟨W2, hW2⟩ : ∃ W2, W1.setRow g cs2.toArray = W2 := ⟨_, rfl⟩
    rw [hW2] at hcp2
    have hov : ∀ lb cb, (callFunc 88 #[.slice (some ⟨vb, 0, none⟩) 1 1, .slice (some ⟨g, (i + 1) * 5, none⟩) lb cb]).run Try.prog w = .ok (.value (.bool false)) w := fun lb cb => by
      rw [run_callFunc_extern Try.func88 (by kernel_rfl) (by kernel_rfl) (by kernel_rfl) (e := Extern.SlicesOverlaps.overlaps #[38, 38] #[4]) (by kernel_rfl),
        Lib.run_overlaps_apart w 38 4 94 Try.underlying38 5 (fun w => by simp [sizeOf, typeInfo, ht0, hts]) ⟨vb, 0, none⟩ ⟨g, (i + 1) * 5, none⟩ 1 1 lb cb hgv 94 94 5 cur.size
          (by unfold Blk at hvb; simp [World.shape?, hvb]) (by unfold Blk at hbk; simp [World.shape?, hbk]) (by omega) (hvb.frozen 0) (hvb.frozen 5)]
      rfl
    have HFIN : Hid (OwnL W W2 (some ⟨g, 0, none⟩) (ps.length + 1) c (ps.take i ++ l :: ps.drop i) ∧ Below W.heap.size W W2) := Lib.hid (by
      have hW : W2 = w.drew.setRow g cs2.toArray := by rw [← hW2, ← hW1, setRow_setRow]
      have hc2l : cs2.length = c * 5 := by rw [← hcs2]; simp [lastC_length]; omega
      have htk2 : cs2.take ((ps.length + 1) * 5) = vs.take (i * 5) ++ lastC A1 c1 l ++ vs.drop (i * 5) := by
        have hxl : (cur.toList.take ((i + 1) * 5)).length = (i + 1) * 5 := by simp; omega
        have e1 : cs1.take (i * 5) = vs.take (i * 5) := by
          rw [← hcs1, List.append_assoc, List.take_append_of_le_length (by omega), List.take_take, Nat.min_eq_left (by omega), ← htk, List.take_take, Nat.min_eq_left (by omega)]
        have e2 : cs1.drop (i * 5 + 5) = vs.drop (i * 5) ++ cur.toList.drop ((i + 1) * 5 + (vs.drop (i * 5)).length) := by
          rw [← hcs1, List.append_assoc, show i * 5 + 5 = (i + 1) * 5 by omega, List.drop_append_of_le_length (by omega), List.drop_of_length_le (by omega)]; rfl
        rw [← hcs2]
        rw [e1, e2, ← List.append_assoc, List.take_append_of_le_length (by simp [lastC_length]; omega), List.take_of_length_le (by simp [lastC_length]; omega)]
      obtain ⟨r1, r2⟩ := own_written (w := w.drew) (own_drewL hrow) (n' := ps.length + 1) (vs' := vs.take (i * 5) ++ lastC A1 c1 l ++ vs.drop (i * 5)) cs2.toArray (by simpa using hc2l) (by omega) (by simp [hvl, lastC_length]; omega) (by simpa using htk2)
      rw [← hW] at r1 r2
      refine ⟨⟨_, r1, ?_⟩, hB.drew.grown r2 hB.size (fun k hk => by injection hk with hk; omega)⟩
      have hd : Below w.heap.size w w.drew := (Below.refl _ _).drew
      have hmid : OwnsL W w.drew (lastC A1 c1 l) [l] := CellsL.one5 (R := fun A c l => OwnB W w.drew A l.length c l) (own_below ho1 hd)
      have h9 := OwnsL.grown (CellsL.append (CellsL.append (OwnsL.below (CellsL.take hown i) hd) hmid) (OwnsL.below (CellsL.drop hown i) hd)) (by decide) (own_drewL hrow) r2
      rw [List.append_assoc (ps.take i), List.singleton_append] at h9
      exact h9)
    clear hbk hcs htk ht0 htz hts hsl hcut hrow hown hvb ho1 hB hdl hcs1 hcs1l hW1 hbk1 hvb1 hcs2 hW2 hcur2 hvl hbase
    go_enter Try.func76, Try.ntmps76
    go_wp2_with (simp only [hov])
    go_region_law (refine step_copy_knownL rfl _ _ 38 38 rfl _ _ (by simp [Act.eval, Act.put]) (by simp [Act.eval, Act.put]) (hcp1 _ _ _) ?_)
    go_wp2_with (at_builtin; refine wpList_copy_knownL _ rfl _ _ 38 38 rfl _ _ rfl rfl (hcp2 _ _) ?_)
    go_ret
    exact ⟨rfl, HFIN.out⟩
  · obtain rfl : i = ps.length := by omega
    have HROW := Lib.hid hrow
    have HOWN := Lib.hid hown
    have HVB := Lib.hid hvb
    have HO1 := Lib.hid ho1
    have HBW := Lib.hid hB
    have HSRC : Hid (Rd w w.heap.size (some ⟨vb, 0, none⟩) (1 * 5) (lastC A1 c1 l)) := Lib.hid ⟨rfl, fun _ => ⟨vb, 0, rfl, hvb.lt, fun j hj => by rw [Nat.zero_add, hvb.cell]; simp [lastC]⟩⟩
    clear hbk hcs htk ht0 htz hts hsl hcut hrow hown hvb ho1 hB hvl hbase
    go_enter Try.func76, Try.ntmps76
    go_wp2_with (first
      | (at_builtin
         refine wpList_append_fits (W := W) cellL (.tmp 23) (.tmp 24) rfl (by rfl) rfl HROW.out rfl HSRC.out (lastC_one A1 c1 l) (by omega) (by omega) HBW.out ?_
         intro w2 hown2 hB2 hg2)
      | fail)
    go_ret
    refine ⟨rfl, ⟨_, hown2, ?_⟩, hB2⟩
    rw [List.take_length, List.drop_length]
    exact OwnsL.grown (OwnsL.snoc HOWN.out HO1.out) (by decide) HROW.out hg2
end Go.Proofs.Ytaknfmionkkdjaa

namespace Go.Proofs.Ytaknfmionkkdjaa
open Go.RowKit
set_option linter.unusedVariables false
theorem five_frozen5 {w : World} {b : Nat} {t : TypeId} {x y z u v : Value} (h : Blk w b t #[x, y, z, u, v]) :
    w.frozen? ⟨b, 0, none⟩ = false ∧ w.frozen? ⟨b, 1, none⟩ = false ∧ w.frozen? ⟨b, 2, none⟩ = false ∧ w.frozen? ⟨b, 3, none⟩ = false ∧ w.frozen? ⟨b, 4, none⟩ = false :=
  ⟨h.frozen 0, h.frozen 1, h.frozen 2, h.frozen 3, h.frozen 4⟩
set_option maxHeartbeats 2000000 in
set_option maxRecDepth 100000 in
theorem lastA_raw (w : World) {A : Option Addr} {c B : Nat} (l : Ls) (hn : Lim 0 l.v.length) (h : Rd w B A l.v.length (bv l.v)) :
    Calls Try.prog 46 #[.agg #[.int .i64 l.s, .int .i64 l.q, .int .i64 l.e, .slice A l.v.length c, .int .i64 l.n]] w fun e w' => ∃ A' c', e = .returned (.agg #[.int .i64 l.s, .int .i64 l.q, .int .i64 l.e, .slice A' l.v.length c', .int .i64 l.n]) ∧ OwnB w w' A' l.v.length c' l.v ∧ Below w.heap.size w w' := by
  obtain ⟨g, hg⟩ : ∃ g, w.heap.size = g := ⟨_, rfl⟩
  obtain ⟨wz, hwz⟩ : ∃ wz, (w.alloc (.cells #[.int .i64 l.s, .int .i64 l.q, .int .i64 l.e, .slice A l.v.length c, .int .i64 l.n] 94)).alloc (.cells #[.int .i64 0, .int .i64 0, .int .i64 0, .slice none 0 0, .int .i64 0] 94) = wz := ⟨_, rfl⟩
  have hbz : Below w.heap.size w wz := by rw [← hwz]; exact ((Below.refl _ _).alloc (Nat.le_refl _) _).alloc (by simp) _
  have HR := Lib.hid (h.fit.below hbz).fit
  have HBZ := Lib.hid hbz
  have HW := Lib.hid hwz
  have HG := Lib.hid hg
  have HV : Hid (Blk wz g 94 #[.int .i64 l.s, .int .i64 l.q, .int .i64 l.e, .slice A l.v.length c, .int .i64 l.n] ∧ Blk wz (g + 1) 94 #[.int .i64 0, .int .i64 0, .int .i64 0, .slice none 0 0, .int .i64 0]) := Lib.hid (by
    subst hg
    rw [← hwz]
    refine ⟨(Blk.new _ _ _).alloc _, ?_⟩
    have := Blk.new (w.alloc (.cells #[.int .i64 l.s, .int .i64 l.q, .int .i64 l.e, .slice A l.v.length c, .int .i64 l.n] 94)) 94 #[.int .i64 0, .int .i64 0, .int .i64 0, .slice none 0 0, .int .i64 0]
    rwa [World.size_alloc] at this)
  clear hbz h hwz hg
  go_enter Try.func46, Try.ntmps46
  go_upto_region 1 with fail
  rw [HG.out]
  rw [HW.out]
  refine region_T (n := 8) (S := fun w' => Below wz.heap.size wz w') (by kernel_rfl) ?_
  have hS0 : Below wz.heap.size wz wz.drew := (Below.refl _ _).drew
  generalize wz.drew = w4 at hS0 ⊢
  have hS := Lib.hid hS0
  clear hS0
  refine AnyT.take (i := 0) (v := .pointer (some ⟨g, 0, none⟩)) rfl (by kernel_rfl) (by kernel_rfl) (by kernel_rfl) (by kernel_rfl) (fun _ _ _ h => h) (Or.inl ⟨by kernel_rfl, fun w _ => by go_simp⟩) hS.out ?_
  refine AnyT.take (i := 2) (v := .pointer (some ⟨g, 1, none⟩)) rfl (by kernel_rfl) (by kernel_rfl) (by kernel_rfl) (by kernel_rfl) (fun _ _ _ h => h) (Or.inl ⟨by kernel_rfl, fun w _ => by go_simp⟩) hS.out ?_
  refine AnyT.take (i := 4) (v := .pointer (some ⟨g, 2, none⟩)) rfl (by kernel_rfl) (by kernel_rfl) (by kernel_rfl) (by kernel_rfl) (fun _ _ _ h => h) (Or.inl ⟨by kernel_rfl, fun w _ => by go_simp⟩) hS.out ?_
  refine AnyT.take (i := 1) (v := .int .i64 l.s) rfl (by kernel_rfl) (by kernel_rfl) (by kernel_rfl) (by kernel_rfl) (fun _ _ _ h => h) (Or.inl ⟨by kernel_rfl, fun w h => by have q := (Below.cell h (p := ⟨g, 0, none⟩) HV.out.1.lt).trans (HV.out.1.cell 0); go_simp⟩) hS.out ?_
  refine AnyT.take (i := 3) (v := .int .i64 l.q) rfl (by kernel_rfl) (by kernel_rfl) (by kernel_rfl) (by kernel_rfl) (fun _ _ _ h => h) (Or.inl ⟨by kernel_rfl, fun w h => by have q := (Below.cell h (p := ⟨g, 1, none⟩) HV.out.1.lt).trans (HV.out.1.cell 1); go_simp⟩) hS.out ?_
  refine AnyT.take (i := 5) (v := .agg #[.int .i64 l.e, .slice A l.v.length c, .int .i64 l.n]) rfl (by kernel_rfl) (by kernel_rfl) (by kernel_rfl) (by kernel_rfl) (fun _ _ _ h => h) (Or.inl ⟨by kernel_rfl, fun w h => by
    have q2 := (Below.cell h (p := ⟨g, 2, none⟩) HV.out.1.lt).trans (HV.out.1.cell 2)
    have q3 := (Below.cell h (p := ⟨g, 3, none⟩) HV.out.1.lt).trans (HV.out.1.cell 3)
    have q4 := (Below.cell h (p := ⟨g, 4, none⟩) HV.out.1.lt).trans (HV.out.1.cell 4)
    go_simp⟩) hS.out ?_
  refine AnyT.ready (rs := [6]) (by kernel_rfl) (by simp) ?_
  refine AllT.cons rfl (fun K hK => ?_) AllT.nil
  go_simp
  refine (copied9_any (W := wz) l.e l.n hn (HR.out.below hS.out) hS.out).mono ?_
  rintro e w5 ⟨A5, c5, rfl, ho5, hB5, hb5⟩
  have hS := Lib.hid (hS.out.trans (hb5.mono hS.out.size))
  unfold resV
  go_simp
  refine hK.out _ _ (Or.inr (hS.out)) (fun _ => ?_)
  clear hK K
  have HK := Lib.hid (HV.out.2.below hS.out)
  obtain ⟨f0, f1, f2, f3, f4⟩ := five_frozen5 HK.out
  obtain ⟨x0, x1, x2, x3, x4⟩ := five5 HK.out
  refine AnyT.take (i := 7) (v := .agg #[.int .i64 l.s, .int .i64 l.q, .int .i64 l.e, .slice A5 l.v.length c5, .int .i64 l.n]) rfl (by kernel_rfl) (by kernel_rfl) (by kernel_rfl) (by kernel_rfl) (fun _ _ _ h => h) (Or.inl ⟨by kernel_rfl, fun w _ => by go_simp⟩) hS.out ?_
  refine AnyT.ready (rs := [8]) (by kernel_rfl) (by simp) ?_
  refine AllT.cons rfl (fun K hK => ?_) AllT.nil
  go_simp
  refine hK.out _ _ (Or.inl rfl) (fun _ => ?_)
  clear hK K
  refine AnyT.done (by kernel_rfl) ?_ _
  go_wp2_with fail
  have k0 := HK.out
  have k1 := k0.set_ 0 (.int .i64 l.s)
  have k2 := k1.set_ 1 (.int .i64 l.q)
  have k3 := k2.set_ 2 (.int .i64 l.e)
  have k4 := k3.set_ 3 (.slice A5 l.v.length c5)
  have k5 := k4.set_ 4 (.int .i64 l.n)
  refine bodyPost_ret (results_cell_row rfl _ _ _ _ _ _ _ rfl k5 Try.underlying94 rfl (by kernel_rfl)) rfl ?_
  have hwb : w.heap.size ≤ g + 1 := by have := HG.out; omega
  have hw : Below w.heap.size w w5 := HBZ.out.trans (hS.out.mono HBZ.out.size)
  exact ⟨A5, c5, rfl, own_moreL HBZ.out.size (own_set_t (own_set_t (own_set_t (own_set_t (own_set_t ho5 k0 (by decide)) k1 (by decide)) k2 (by decide)) k3 (by decide)) k4 (by decide)), ((((hw.setCell (p := ⟨g + 1, 0, none⟩) hwb _).setCell (p := ⟨g + 1, 1, none⟩) hwb _).setCell (p := ⟨g + 1, 2, none⟩) hwb _).setCell (p := ⟨g + 1, 3, none⟩) hwb _).setCell (p := ⟨g + 1, 4, none⟩) hwb _⟩
theorem lastA_any {W w : World} {A : Option Addr} {c B : Nat} (l : Ls) (hn : Lim 0 l.v.length) (h : Rd w B A l.v.length (bv l.v)) (hB : Below W.heap.size W w) :
    Calls Try.prog 46 #[.agg #[.int .i64 l.s, .int .i64 l.q, .int .i64 l.e, .slice A l.v.length c, .int .i64 l.n]] w fun e w' => ∃ A' c', e = .returned (.agg #[.int .i64 l.s, .int .i64 l.q, .int .i64 l.e, .slice A' l.v.length c', .int .i64 l.n]) ∧ OwnB W w' A' l.v.length c' l.v ∧ Below W.heap.size W w' ∧ Below w.heap.size w w' :=
  (lastA_raw w l hn h).mono fun en w' ⟨A', c', h1, h2, h3⟩ => ⟨A', c', h1, own_moreL hB.size h2, hB.trans (h3.mono hB.size), h3⟩
set_option maxHeartbeats 2000000 in
set_option maxRecDepth 100000 in
theorem without9_raw (ls : List Ls) (A : Option Addr) (n c B : Nat) (s : Int) (hn : n ≤ 100000) (hL : LimLs ls) (w : World) (hr : RdL w B A n ls) :
    Calls Try.prog 75 #[.slice A n c, .int .i64 s] w fun e w' => ∃ g, e = .returned (.slice (some ⟨g, 0, none⟩) (Tb.less ls s).length (ls.length + 1)) ∧ OwnL w w' (some ⟨g, 0, none⟩) (Tb.less ls s).length (ls.length + 1) (Tb.less ls s) ∧ Below w.heap.size w w' := by
  obtain rfl := hr.length
  have HL := Lib.hid hL
  have HR := Lib.hid hr.fit
  obtain ⟨i0, hi0, hi1, hi2, hi3⟩ := info_parts cellL.info
  clear hr hL
  go_enter Try.func75, Try.ntmps75
  go_wp2_with (first
    | (at_make
       refine wpList_make_own w rfl _ _ 38 rfl w.heap.size 94 i0 _ 5 Try.underlying38 hi0 hi1 hi2 _ _ _ (ls.length + 1) rfl rfl (by push_cast; rfl) (by rw [hi3]; omega) (by unfold maxLen; omega) (Nat.le_refl _) ?_
       intro w0 hown0 hg0)
    | fail)
  clear hi0 hi1 hi2 hi3
  obtain ⟨g, hg⟩ : ∃ g, w.heap.size = g := ⟨_, rfl⟩
  have HB00 := Lib.hid ((Below.refl w.heap.size w).grown hg0 (Nat.le_refl _) (fun k hk => by cases hk))
  have HO00 : Hid (OwnL w w0 (some ⟨g, 0, none⟩) 0 (ls.length + 1) []) := Lib.hid ⟨[], by rw [← hg]; exact hown0, CellsL.nil⟩
  clear hown0 hg0
  rw [hg]
  have HG := Lib.hid hg
  clear hg
  go_loopw [5, 7, 14] (fun s5 s7 s14 wr => ∃ (k m : Nat), k ≤ ls.length ∧ m ≤ k ∧ s14 = .int .i64 (k : Int) ∧ s5 = .slice (some ⟨g, 0, none⟩) m (ls.length + 1) ∧ Hid (OwnL w wr (some ⟨g, 0, none⟩) m (ls.length + 1) (Tb.less (ls.take k) s)) ∧ Hid (Below w.heap.size w wr)) (fun _ _ s14 _ => ls.length - (intOf s14).toNat)
  case atStart => exact ⟨0, 0, Nat.zero_le _, Nat.zero_le _, rfl, rfl, Lib.hid HO00.out, HB00⟩
  case round =>
    obtain ⟨k, m, hk, hm, rfl, rfl, HO, HB⟩ := hrel
    by_cases hlt : k < ls.length
    · obtain ⟨b, o, l, A1, c1, rfl, hl, y0, y1, y2, y3, y4, hrd⟩ := ((HR.out.below HB.out).fit).at hlt
      have hl1 : Lim 0 l.v.length := HL.out l (List.mem_of_getElem? hl)
      have HRD := Lib.hid hrd
      have HP := Lib.hid hl
      clear hrd hl
      have hb0 : Below wr.heap.size wr (wr.alloc (.cells #[.int .i64 l.s, .int .i64 l.q, .int .i64 l.e, .slice A1 l.v.length c1, .int .i64 l.n] 94)) := (Below.refl _ _).alloc (Nat.le_refl _) _
      by_cases hs : l.s = s
      · have hsb : (l.s != s) = false := by simpa using hs
        have HT := Lib.hid (Tb.less_take (s := s) HP.out)
        have HS := Lib.hid hs
        have HB0 := Lib.hid hb0
        clear hb0 hs
        go_wp2_with fail
        go_roundw
        case rel =>
          refine ⟨k + 1, m, by omega, by omega, by go_num, rfl, Lib.hid ?_, Lib.hid (HB.out.trans (HB0.out.mono HB.out.size))⟩
          rw [HT.out, if_pos HS.out]
          exact HO.out.below HB0.out
        case measure => simp only [intOf]; omega
      · have hsb : (l.s != s) = true := by simpa using hs
        have HT := Lib.hid (Tb.less_take (s := s) HP.out)
        have HS := Lib.hid hs
        clear hs
        have HB0 := Lib.hid hb0
        have HC := Lib.hid (lastA_any (W := w) (c := c1) l hl1 (HRD.out.below hb0) (HB.out.trans (hb0.mono HB.out.size)))
        clear hb0
        go_wp2_with (first
          | (go_at_call 46; refine HC.out.mono ?_; rintro e w1 ⟨A4, c4, rfl, ho1, hB1, hb1⟩; obtain ⟨vs, hv1, hv2⟩ := HO.out.below (HB0.out.trans (hb1.mono HB0.out.size)))
          | (at_builtin
             refine wpList_append_fits (W := w) cellL (.tmp 22) (.tmp 25) rfl (by rfl) rfl (ownsRow_below hv1 ((Below.refl _ _).alloc (Nat.le_refl _) _)) rfl (Rd.lastAt _ A4 c4 l _ rfl) (lastC_one _ _ _) (by omega) (by omega) (hB1.alloc hB1.size _) ?_
             intro w3 hown3 hB3 hg3)
          | fail)
        go_roundw
        case rel =>
          refine ⟨k + 1, m + 1, by omega, by omega, by go_num, rfl, Lib.hid ?_, Lib.hid hB3⟩
          have b1 : Below w1.heap.size w1 (w1.alloc (.cells #[.int .i64 l.s, .int .i64 l.q, .int .i64 l.e, .slice A4 l.v.length c4, .int .i64 l.n] 94)) := (Below.refl _ _).alloc (Nat.le_refl _) _
          refine ⟨vs ++ lastC A4 c4 l, hown3, ?_⟩
          rw [HT.out, if_neg HS.out]
          exact ((hv2.snoc ho1).below b1).grown (by decide) (ownsRow_below hv1 b1) hg3
        case measure => simp only [intOf]; omega
    · obtain rfl : k = ls.length := by omega
      go_wp2_with fail
      go_ret
      have HO2 := HO.out
      rw [List.take_of_length_le (Nat.le_refl _)] at HO2
      obtain rfl := HO2.length
      exact ⟨g, rfl, HO2, HB.out⟩
theorem without9_any {W w : World} {ls : List Ls} {A : Option Addr} {n c B : Nat} (s : Int) (hn : n ≤ 100000) (hL : LimLs ls) (hr : RdL w B A n ls) (hB : Below W.heap.size W w) :
    Calls Try.prog 75 #[.slice A n c, .int .i64 s] w fun e w' => ∃ g, e = .returned (.slice (some ⟨g, 0, none⟩) (Tb.less ls s).length (ls.length + 1)) ∧ OwnL W w' (some ⟨g, 0, none⟩) (Tb.less ls s).length (ls.length + 1) (Tb.less ls s) ∧ Below W.heap.size W w' ∧ Below w.heap.size w w' :=
  (without9_raw ls A n c B s hn hL w hr).mono fun e w' ⟨g, h1, h2, h3⟩ => ⟨g, h1, h2.of hB.size, hB.trans (h3.mono hB.size), h3⟩
end Go.Proofs.Ytaknfmionkkdjaa

