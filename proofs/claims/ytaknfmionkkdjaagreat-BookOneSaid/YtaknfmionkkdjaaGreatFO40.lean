/- SessCodeM SessCode1 SessCode3 ObjsC00 -/
import Derived.Test.YtaknfmionkkdjaaGreatFO05
import Derived.Test.YtaknfmionkkdjaaGreatFO13
import Derived.Test.YtaknfmionkkdjaaGreatFO19
import Derived.Test.YtaknfmionkkdjaaGreatFO25
import Derived.Test.YtaknfmionkkdjaaGreatFO30
import Derived.Test.YtaknfmionkkdjaaGreatFO33
namespace Go.Proofs.YtaknfmionkkdjaaGreat
set_option linter.unusedVariables false
namespace Tb
theorem here_of {ls : List Ls} {s : Int} {k : Nat} {l : Ls} (h : ∀ (j : Nat) (m : Ls), j < k → ls[j]? = some m → m.s ≠ s) (hl : ls[k]? = some l) (hs : l.s = s) : Tb.here ls s = some l := by
  unfold Tb.here
  have hk : k < ls.length := (List.getElem?_eq_some_iff.1 hl).1
  conv => lhs; rw [← List.take_append_drop k ls]
  rw [List.find?_append, Tb.find_none (l := ls.take k) (fun m hm => by
    obtain ⟨j, hj, e⟩ := List.getElem_of_mem hm
    have hj2 : j < k := by rw [List.length_take] at hj; omega
    have := h j m hj2 (by rw [← e, List.getElem_take, List.getElem?_eq_getElem])
    simpa using this)]
  have hd : ls.drop k = l :: ls.drop (k + 1) := by rw [List.drop_eq_getElem?_toList_append, hl]; rfl
  rw [hd]
  simp [hs]
theorem here_no {ls : List Ls} {s : Int} (h : ∀ (j : Nat) (m : Ls), ls[j]? = some m → m.s ≠ s) : Tb.here ls s = none := by
  unfold Tb.here
  refine Tb.find_none fun m hm => ?_
  obtain ⟨j, hj, e⟩ := List.getElem_of_mem hm
  have := h j m (by rw [← e]; exact List.getElem?_eq_getElem hj)
  simpa using this
/-- all but those of session s -/
def less (ls : List Ls) (s : Int) : List Ls := ls.filter fun m => decide (m.s ≠ s)
theorem less_rises {ls : List Ls} {s : Int} (h : Rises ls) : Rises (less ls s) := h.filter _
theorem less_mem {ls : List Ls} {s : Int} {m : Ls} (h : m ∈ less ls s) : m ∈ ls ∧ m.s ≠ s := by
  have := List.mem_filter.1 h
  exact ⟨this.1, by simpa using this.2⟩
theorem less_len (ls : List Ls) (s : Int) : (less ls s).length ≤ ls.length := List.length_filter_le _ _
theorem less_take {ls : List Ls} {s : Int} {k : Nat} {l : Ls} (hl : ls[k]? = some l) : less (ls.take (k + 1)) s = if l.s = s then less (ls.take k) s else less (ls.take k) s ++ [l] := by
  unfold less
  rw [List.take_add_one, hl, List.filter_append]
  split
  · rename_i h; simp [h]
  · rename_i h; simp [h]
theorem less_at {ls : List Ls} {s : Int} {i : Nat} (hi : i ≤ (less ls s).length) (h : ∀ (j : Nat) (m : Ls), j < i → (less ls s)[j]? = some m → ¬ s < m.s) (hx : ∀ m, (less ls s)[i]? = some m → s < m.s) : At (less ls s) s i :=
  ⟨hi, fun j m hj hm => by
    have h1 := h j m hj hm
    have h2 := (less_mem (List.mem_of_getElem? hm)).2
    omega, fun m hm => by have := hx m hm; omega⟩
theorem put_less {ls : List Ls} {l : Ls} {i : Nat} (hr : Rises ls) (h : At (less ls l.s) l.s i) : put ls l = (less ls l.s).take i ++ l :: (less ls l.s).drop i := by
  rw [← h.put_none (l := l) (less_rises hr) (fun m hm => (less_mem (List.mem_of_getElem? hm)).2)]
  unfold put less
  rw [List.filter_filter, List.filter_filter]
  congr 1
  · refine List.filter_congr fun m _ => ?_
    by_cases h1 : m.s < l.s
    · simp [h1]; omega
    · simp [h1]
  · congr 1
    refine List.filter_congr fun m _ => ?_
    by_cases h1 : l.s < m.s
    · simp [h1]; omega
    · simp [h1]
end Tb
end Go.Proofs.YtaknfmionkkdjaaGreat

namespace Go.Proofs.YtaknfmionkkdjaaGreat
open Go.RowKit
set_option linter.unusedVariables false
/-- the variable of the answer, wherever it lies, is written: what the call tells then -/
theorem lookDoneAt {w w2 : World} {A1 : Option Addr} {b c1 : Nat} {l : List Nat} {e N k : Int} {en : Ending} (HK : Blk w2 b 47 zeroR) (hs : w.heap.size ≤ b) (hB : Below w.heap.size w w2) (ho : OwnB w w2 A1 l.length c1 l)
    (he : en = .returned (.tuple #[.agg #[.int .i64 e, .slice A1 l.length c1, .int .i64 N], .int .i64 k])) :
    GotRK w w e l N k en (((w2.setCell ⟨b, 0, none⟩ (.int .i64 e)).setCell ⟨b, 1, none⟩ (.slice A1 l.length c1)).setCell ⟨b, 2, none⟩ (.int .i64 N)) := by
  obtain ⟨k1, k2, k3⟩ := put3 HK (.int .i64 e) (.slice A1 l.length c1) (.int .i64 N)
  have h2 := k2 w hs hB
  exact ⟨A1, c1, he, k3 _ _ _ _ _ _ ho (by decide), h2, h2⟩
set_option maxRecDepth 100000 in
theorem isNumber_any (w : World) (n : Int) :
    Calls Tryz.prog 91 #[.int .i64 n] w fun e w' => e = .returned (.bool (decide (1 ≤ n ∧ n ≤ 1073741824))) ∧ w = w' := by
  by_cases h1 : 1 ≤ n
  · by_cases h2 : n ≤ 1073741824
    · rw [decide_eq_true ⟨h1, h2⟩]
      go_enter Tryz.func91, Tryz.ntmps91
      go_wp2_with fail
      go_ret
      exact ⟨rfl, rfl⟩
    · rw [decide_eq_false (by omega)]
      go_enter Tryz.func91, Tryz.ntmps91
      go_wp2_with fail
      go_ret
      exact ⟨rfl, rfl⟩
  · rw [decide_eq_false (by omega)]
    go_enter Tryz.func91, Tryz.ntmps91
    go_wp2_with fail
    go_ret
    exact ⟨rfl, rfl⟩
set_option maxRecDepth 100000 in
theorem refused_raw (w : World) (e : Int) :
    Calls Tryz.prog 92 #[.int .i64 e] w (GotRK w w e [] 0 2) := by
  have HB := Lib.hid (show Below w.heap.size w (w.alloc (.cells zeroR 47)) from (Below.refl _ _).alloc (Nat.le_refl _) _)
  have HK := Lib.hid (Blk.new w 47 zeroR)
  go_enter Tryz.func92, Tryz.ntmps92
  go_upto_region 1 with fail
  generalize w.alloc (.cells #[.int .i64 0, .slice none 0 0, .int .i64 0] 47) = wa at HB HK ⊢
  obtain ⟨x0, x1, x2, f0, f1, f2⟩ := three HK.out
  go_wp2_with fail
  refine bodyPost_ret (results_cell_tmp rfl _ _ _ _ _ _ rfl (put3 HK.out _ _ _).1 Tryz.underlying47 rfl (by kernel_rfl)) rfl ?_
  exact lookDone HK.out HB.out (own_nil _ _) rfl
theorem refused_any {W w : World} (e : Int) (hB : Below W.heap.size W w) : Calls Tryz.prog 92 #[.int .i64 e] w (GotRK W w e [] 0 2) :=
  (refused_raw w e).mono fun e w' h => GotRK.of hB h
set_option maxRecDepth 100000 in
theorem lookFirst_raw (w : World) (A : Option Addr) (n c : Nat) (hn : n ≤ 100000) :
    Calls Tryz.prog 95 #[.slice A n c] w (GotRK w w (if 8 ≤ n then 9 else 0) [] 0 (if 8 ≤ n then 2 else 0)) := by
  have HB := Lib.hid (show Below w.heap.size w (w.alloc (.cells zeroR 47)) from (Below.refl _ _).alloc (Nat.le_refl _) _)
  have HK := Lib.hid (Blk.new w 47 zeroR)
  by_cases h8 : 8 ≤ n
  · rw [if_pos h8, if_pos h8]
    have h8i : (8 : Int) ≤ (n : Int) := by omega
    go_enter Tryz.func95, Tryz.ntmps95
    go_upto_region 1 with fail
    generalize w.alloc (.cells #[.int .i64 0, .slice none 0 0, .int .i64 0] 47) = wa at HB HK ⊢
    go_wp2_with fail
    refine (refused_any (W := w) 9 HB.out).mono ?_
    rintro en w2 ⟨A2, c2, rfl, ho2, hB2, hb2⟩
    unfold resV
    simp only [List.length_nil]
    have HK2 := Lib.hid (HK.out.below hb2)
    obtain ⟨x0, x1, x2, f0, f1, f2⟩ := three HK2.out
    go_wp2_with fail
    refine bodyPost_ret (results_cell_tmp rfl _ _ _ _ _ _ rfl (put3 HK2.out _ _ _).1 Tryz.underlying47 rfl (by kernel_rfl)) rfl ?_
    exact lookDone HK2.out hB2 ho2 rfl
  · rw [if_neg h8, if_neg h8]
    have h8i : ¬ (8 : Int) ≤ (n : Int) := by omega
    go_enter Tryz.func95, Tryz.ntmps95
    go_upto_region 1 with fail
    generalize w.alloc (.cells #[.int .i64 0, .slice none 0 0, .int .i64 0] 47) = wa at HB HK ⊢
    obtain ⟨x0, x1, x2, f0, f1, f2⟩ := three HK.out
    go_wp2_with fail
    refine bodyPost_ret (results_cell_tmp rfl _ _ _ _ _ _ rfl (put3 HK.out _ _ _).1 Tryz.underlying47 rfl (by kernel_rfl)) rfl ?_
    exact lookDone HK.out HB.out (own_nil _ _) rfl
theorem lookFirst_any {W w : World} (A : Option Addr) (n c : Nat) (hn : n ≤ 100000) (hB : Below W.heap.size W w) :
    Calls Tryz.prog 95 #[.slice A n c] w (GotRK W w (if 8 ≤ n then 9 else 0) [] 0 (if 8 ≤ n then 2 else 0)) :=
  (lookFirst_raw w A n c hn).mono fun e w' h => GotRK.of hB h
set_option maxHeartbeats 1000000 in
/-- is it of session s? -/
theorem pred9_any (w : World) {kb n1 c1 : Nat} {A1 : Option Addr} {s : Int} (s1 q1 e1 N1 : Int) (hc : w.cell? ⟨kb, 0, none⟩ = some (.int .i64 s)) :
    Calls Tryz.prog 94 #[.agg #[.int .i64 s1, .int .i64 q1, .int .i64 e1, .slice A1 n1 c1, .int .i64 N1], .pointer (some ⟨kb, 0, none⟩)] w fun e w' => e = .returned (.bool (decide (s1 = s))) ∧ Below w.heap.size w w' := by
  have hlt := World.block_lt_of_cell? _ _ hc
  have b1 : Below w.heap.size w (w.alloc (.cells #[.int .i64 s1, .int .i64 q1, .int .i64 e1, .slice A1 n1 c1, .int .i64 N1] 57)) := (Below.refl _ _).alloc (Nat.le_refl _) _
  have hc1 := (b1.cell (p := ⟨kb, 0, none⟩) hlt).trans hc
  have hd : decide (s1 = s) = (s1 == s) := by rw [Bool.eq_iff_iff]; simp
  rw [hd]
  clear hc hlt hd
  go_enter Tryz.func94, Tryz.ntmps94
  go_wp2_with fail
  go_ret
  exact ⟨rfl, b1⟩
/-- where session s stands first -/
def Found (ls : List Ls) (s : Int) (e : Ending) : Prop := (∃ (j : Nat) (l : Ls), e = .returned (.int .i64 j) ∧ j < ls.length ∧ ls[j]? = some l ∧ l.s = s ∧ Tb.here ls s = some l) ∨ (e = .returned (.int .i64 (-1)) ∧ Tb.here ls s = none)
set_option maxHeartbeats 1000000 in
theorem indexFunc9_any (w : World) {kb n c B : Nat} {A : Option Addr} {ls : List Ls} {s : Int} (hn : n ≤ 100000) (h : RdL w B A n ls) (hc : w.cell? ⟨kb, 0, none⟩ = some (.int .i64 s)) :
    Calls Tryz.prog 93 #[.slice A n c, .func (.func 94) #[] #[.pointer (some ⟨kb, 0, none⟩)]] w fun e w' => Found ls s e ∧ Below w.heap.size w w' := by
  obtain rfl := h.length
  have hlt0 := World.block_lt_of_cell? _ _ hc
  have H := Lib.hid h.fit
  have HC : Hid (∀ wx, Below w.heap.size w wx → wx.cell? ⟨kb, 0, none⟩ = some (.int .i64 s)) := Lib.hid (fun wx hb => (hb.cell (p := ⟨kb, 0, none⟩) hlt0).trans hc)
  clear h hc hlt0
  go_enter Tryz.func93, Tryz.ntmps93
  go_wp2_with fail
  go_loopw [5, 8] (fun s5 s8 wr => ∃ j : Nat, j ≤ ls.length ∧ s8 = .int .i64 j ∧ Hid (∀ (i : Nat) (m : Ls), i < j → ls[i]? = some m → m.s ≠ s) ∧ Hid (Below w.heap.size w wr)) (fun _ s8 _ => ls.length - (intOf s8).toNat)
  case atStart => exact ⟨0, Nat.zero_le _, rfl, Lib.hid (fun i m hi => absurd hi (by omega)), Lib.hid (Below.refl _ _)⟩
  case round =>
    obtain ⟨j, hj, rfl, HS, HB0⟩ := hrel
    by_cases hlt : j < ls.length
    · obtain ⟨b, o, l, A1, c1, rfl, hl, y0, y1, y2, y3, y4, hrd⟩ := ((H.out.below HB0.out).fit).at hlt
      have HP := Lib.hid hl
      clear hl hrd
      by_cases he : l.s = s
      · have HE := Lib.hid he
        have HD := Lib.hid (decide_eq_true he)
        clear he
        go_wp2_with (first
          | (go_at_call 94; refine (pred9_any _ _ _ _ _ (HC.out _ HB0.out)).mono ?_; rw [HD.out]; rintro e w2 ⟨rfl, hb2⟩)
          | fail)
        go_ret
        exact ⟨.inl ⟨j, l, rfl, hlt, HP.out, HE.out, Tb.here_of HS.out HP.out HE.out⟩, HB0.out.trans (hb2.mono HB0.out.size)⟩
      · have HE := Lib.hid he
        have HD := Lib.hid (decide_eq_false he)
        clear he
        go_wp2_with (first
          | (go_at_call 94; refine (pred9_any _ _ _ _ _ (HC.out _ HB0.out)).mono ?_; rw [HD.out]; rintro e w2 ⟨rfl, hb2⟩)
          | fail)
        go_roundw
        case rel =>
          refine ⟨j + 1, by omega, by go_num, Lib.hid (fun i m hi hm => ?_), Lib.hid (HB0.out.trans (hb2.mono HB0.out.size))⟩
          rcases Nat.lt_or_ge i j with h1 | h1
          · exact HS.out i m h1 hm
          · obtain rfl : i = j := by omega
            rw [HP.out] at hm
            injection hm with hm
            subst hm
            exact HE.out
        case measure => simp [intOf]; omega
    · obtain rfl : j = ls.length := by omega
      have HNO := Lib.hid (Tb.here_no (fun j m hm => HS.out j m (List.getElem?_eq_some_iff.1 hm).1 hm))
      go_wp2_with fail
      go_ret
      exact ⟨.inr ⟨rfl, HNO.out⟩, HB0.out⟩
set_option maxHeartbeats 1000000 in
theorem place9_any (w : World) {A : Option Addr} {n c B : Nat} {ls : List Ls} {s : Int} (hn : n ≤ 100000) (h : RdL w B A n ls) :
    Calls Tryz.prog 110 #[.slice A n c, .int .i64 s] w fun e w' => (∃ i : Nat, e = .returned (.int .i64 i) ∧ i ≤ ls.length ∧ (∀ (j : Nat) (m : Ls), j < i → ls[j]? = some m → ¬ s < m.s) ∧ ∀ m, ls[i]? = some m → s < m.s) ∧ Below w.heap.size w w' := by
  obtain rfl := h.length
  have H := Lib.hid h.fit
  clear h
  go_enter Tryz.func110, Tryz.ntmps110
  go_wp2_with fail
  go_loopw [5, 6, 9] (fun s5 s6 s9 wr => ∃ j : Nat, j ≤ ls.length ∧ s9 = .int .i64 j ∧ Hid (∀ (i : Nat) (m : Ls), i < j → ls[i]? = some m → ¬ s < m.s) ∧ Hid (Below w.heap.size w wr)) (fun _ _ s9 _ => ls.length - (intOf s9).toNat)
  case atStart => exact ⟨0, Nat.zero_le _, rfl, Lib.hid (fun i m hi => absurd hi (by omega)), Lib.hid (Below.refl _ _)⟩
  case round =>
    obtain ⟨j, hj, rfl, HS, HB0⟩ := hrel
    by_cases hlt : j < ls.length
    · obtain ⟨b, o, l, A1, c1, rfl, hl, y0, y1, y2, y3, y4, hrd⟩ := ((H.out.below HB0.out).fit).at hlt
      have HP := Lib.hid hl
      clear hl hrd
      by_cases he : s < l.s
      · have HE := Lib.hid he
        go_wp2_with fail
        go_ret
        refine ⟨⟨j, rfl, hj, HS.out, fun m hm => ?_⟩, HB0.out.alloc HB0.out.size _⟩
        rw [HP.out] at hm
        injection hm with hm
        subst hm
        exact HE.out
      · have HE := Lib.hid he
        go_wp2_with fail
        go_roundw
        case rel =>
          refine ⟨j + 1, by omega, by go_num, Lib.hid (fun i m hi hm => ?_), Lib.hid (HB0.out.alloc HB0.out.size _)⟩
          rcases Nat.lt_or_ge i j with h1 | h1
          · exact HS.out i m h1 hm
          · obtain rfl : i = j := by omega
            rw [HP.out] at hm
            injection hm with hm
            subst hm
            exact HE.out
        case measure => simp [intOf]; omega
    · obtain rfl : j = ls.length := by omega
      go_wp2_with fail
      go_ret
      refine ⟨⟨ls.length, rfl, Nat.le_refl _, HS.out, fun m hm => ?_⟩, HB0.out⟩
      rw [List.getElem?_eq_none (Nat.le_refl _)] at hm
      cases hm
set_option maxRecDepth 100000 in
set_option maxHeartbeats 2000000 in
theorem copied9_raw (w : World) {A : Option Addr} {n c B : Nat} {l : List Nat} (e N : Int) (hn : Lim 0 n) (h : Rd w B A n (bv l)) :
    Calls Tryz.prog 90 #[resV e A n c N] w (GotR w w e l N) := by
  have b0 : Below w.heap.size w ((w.alloc (.cells #[.int .i64 e, .slice A n c, .int .i64 N] 47)).alloc (.cells zeroR 47)) := ((Below.refl _ _).alloc (Nat.le_refl _) _).alloc (by simp) _
  have H := Lib.hid (h.fit.below b0)
  have HB := Lib.hid b0
  have HK1 := Lib.hid ((Blk.new w 47 #[.int .i64 e, .slice A n c, .int .i64 N]).alloc (.cells zeroR 47))
  have HK2 := Lib.hid (Blk.new (w.alloc (.cells #[.int .i64 e, .slice A n c, .int .i64 N] 47)) 47 zeroR)
  rw [World.size_alloc] at HK2
  clear h b0
  unfold resV
  go_enter Tryz.func90, Tryz.ntmps90
  go_upto_region 1 with fail
  generalize (w.alloc (.cells #[.int .i64 e, .slice A n c, .int .i64 N] 47)).alloc (.cells zeroR 47) = wa at H HB HK1 HK2 ⊢
  obtain ⟨x0, x1, x2, f0, f1, f2⟩ := three HK1.out
  obtain ⟨y0, y1, y2, g0, g1, g2⟩ := three HK2.out
  go_region_law (first
    | (rw [if_pos (by kernel_rfl)]; go_simp; go_at_call 64; refine (clone_any (W := w) hn H.out.drew HB.out.drew).mono ?_; rintro en w1 ⟨A1, c1, rfl, ho1, hB1, hb1⟩
       have HK1b := Lib.hid (HK1.out.drew.below hb1)
       have HK2b := Lib.hid (HK2.out.drew.below hb1)
       obtain ⟨u0, u1, u2, k0, k1, k2⟩ := three HK1b.out
       obtain ⟨v0, v1, v2, m0, m1, m2⟩ := three HK2b.out
       go_simp))
  all_goals go_wp2_with fail
  all_goals
    obtain ⟨k1, k2, k3⟩ := put3 HK2b.out (.int .i64 e) (.slice A1 l.length c1) (.int .i64 N)
    refine bodyPost_ret (results_cell_row rfl _ _ _ _ _ _ _ rfl k1 Tryz.underlying47 rfl (by kernel_rfl)) rfl ?_
    have h2 := k2 w (by omega) hB1
    exact ⟨A1, c1, rfl, k3 _ _ _ _ _ _ ho1 (by decide), h2, h2⟩
theorem copied9_any {W w : World} {A : Option Addr} {n c B : Nat} {l : List Nat} (e N : Int) (hn : Lim 0 n) (h : Rd w B A n (bv l)) (hB : Below W.heap.size W w) :
    Calls Tryz.prog 90 #[resV e A n c N] w (GotR W w e l N) :=
  (copied9_raw w e N hn h).mono fun en w' ⟨A', c', h1, h2, h3, h4⟩ => ⟨A', c', h1, own_moreL hB.size h2, hB.trans (h3.mono hB.size), h4⟩
end Go.Proofs.YtaknfmionkkdjaaGreat

namespace Go.Proofs.YtaknfmionkkdjaaGreat
open Go.RowKit
set_option linter.unusedVariables false
theorem five_frozen5 {w : World} {b : Nat} {t : TypeId} {x y z u v : Value} (h : Blk w b t #[x, y, z, u, v]) :
    w.frozen? ⟨b, 0, none⟩ = false ∧ w.frozen? ⟨b, 1, none⟩ = false ∧ w.frozen? ⟨b, 2, none⟩ = false ∧ w.frozen? ⟨b, 3, none⟩ = false ∧ w.frozen? ⟨b, 4, none⟩ = false :=
  ⟨h.frozen 0, h.frozen 1, h.frozen 2, h.frozen 3, h.frozen 4⟩
set_option maxHeartbeats 2000000 in
set_option maxRecDepth 100000 in
theorem lastA_raw (w : World) {A : Option Addr} {c B : Nat} (l : Ls) (hn : Lim 0 l.v.length) (h : Rd w B A l.v.length (bv l.v)) :
    Calls Tryz.prog 63 #[.agg #[.int .i64 l.s, .int .i64 l.q, .int .i64 l.e, .slice A l.v.length c, .int .i64 l.n]] w fun e w' => ∃ A' c', e = .returned (.agg #[.int .i64 l.s, .int .i64 l.q, .int .i64 l.e, .slice A' l.v.length c', .int .i64 l.n]) ∧ OwnB w w' A' l.v.length c' l.v ∧ Below w.heap.size w w' := by
  obtain ⟨g, hg⟩ : ∃ g, w.heap.size = g := ⟨_, rfl⟩
  obtain ⟨wz, hwz⟩ : ∃ wz, (w.alloc (.cells #[.int .i64 l.s, .int .i64 l.q, .int .i64 l.e, .slice A l.v.length c, .int .i64 l.n] 57)).alloc (.cells #[.int .i64 0, .int .i64 0, .int .i64 0, .slice none 0 0, .int .i64 0] 57) = wz := ⟨_, rfl⟩
  have hbz : Below w.heap.size w wz := by rw [← hwz]; exact ((Below.refl _ _).alloc (Nat.le_refl _) _).alloc (by simp) _
  have HR := Lib.hid (h.fit.below hbz).fit
  have HBZ := Lib.hid hbz
  have HW := Lib.hid hwz
  have HG := Lib.hid hg
  have HV : Hid (Blk wz g 57 #[.int .i64 l.s, .int .i64 l.q, .int .i64 l.e, .slice A l.v.length c, .int .i64 l.n] ∧ Blk wz (g + 1) 57 #[.int .i64 0, .int .i64 0, .int .i64 0, .slice none 0 0, .int .i64 0]) := Lib.hid (by
    subst hg
    rw [← hwz]
    refine ⟨(Blk.new _ _ _).alloc _, ?_⟩
    have := Blk.new (w.alloc (.cells #[.int .i64 l.s, .int .i64 l.q, .int .i64 l.e, .slice A l.v.length c, .int .i64 l.n] 57)) 57 #[.int .i64 0, .int .i64 0, .int .i64 0, .slice none 0 0, .int .i64 0]
    rwa [World.size_alloc] at this)
  clear hbz h hwz hg
  go_enter Tryz.func63, Tryz.ntmps63
  go_upto_region 1 with fail
  rw [HG.out]
  rw [HW.out]
  refine region_T (n := 8) (S := fun w' => Below wz.heap.size wz w') (by kernel_rfl) ?_
  have hS0 : Below wz.heap.size wz wz.drew := (Below.refl _ _).drew
  generalize wz.drew = w4 at hS0 ⊢
  have hS := Lib.hid hS0
  clear hS0
  refine AnyT.take (i := 0) (v := .pointer (some ⟨g, 0, none⟩)) rfl (by kernel_rfl) (by kernel_rfl) (by kernel_rfl) (by kernel_rfl) (fun _ _ _ h => h) (Or.inl ⟨by kernel_rfl, fun w _ => by go_simp⟩) hS.out ?_
  refine AnyT.take (i := 2) (v := .pointer (some ⟨g, 1, none⟩)) rfl (by kernel_rfl) (by kernel_rfl) (by kernel_rfl) (by kernel_rfl) (fun _ _ _ h => h) (Or.inl ⟨by kernel_rfl, fun w _ => by go_simp⟩) hS.out ?_
  refine AnyT.take (i := 4) (v := .pointer (some ⟨g, 2, none⟩)) rfl (by kernel_rfl) (by kernel_rfl) (by kernel_rfl) (by kernel_rfl) (fun _ _ _ h => h) (Or.inl ⟨by kernel_rfl, fun w _ => by go_simp⟩) hS.out ?_
  refine AnyT.take (i := 1) (v := .int .i64 l.s) rfl (by kernel_rfl) (by kernel_rfl) (by kernel_rfl) (by kernel_rfl) (fun _ _ _ h => h) (Or.inl ⟨by kernel_rfl, fun w h => by have q := (Below.cell h (p := ⟨g, 0, none⟩) HV.out.1.lt).trans (HV.out.1.cell 0); go_simp⟩) hS.out ?_
  refine AnyT.take (i := 3) (v := .int .i64 l.q) rfl (by kernel_rfl) (by kernel_rfl) (by kernel_rfl) (by kernel_rfl) (fun _ _ _ h => h) (Or.inl ⟨by kernel_rfl, fun w h => by have q := (Below.cell h (p := ⟨g, 1, none⟩) HV.out.1.lt).trans (HV.out.1.cell 1); go_simp⟩) hS.out ?_
  refine AnyT.take (i := 5) (v := .agg #[.int .i64 l.e, .slice A l.v.length c, .int .i64 l.n]) rfl (by kernel_rfl) (by kernel_rfl) (by kernel_rfl) (by kernel_rfl) (fun _ _ _ h => h) (Or.inl ⟨by kernel_rfl, fun w h => by
    have q2 := (Below.cell h (p := ⟨g, 2, none⟩) HV.out.1.lt).trans (HV.out.1.cell 2)
    have q3 := (Below.cell h (p := ⟨g, 3, none⟩) HV.out.1.lt).trans (HV.out.1.cell 3)
    have q4 := (Below.cell h (p := ⟨g, 4, none⟩) HV.out.1.lt).trans (HV.out.1.cell 4)
    go_simp⟩) hS.out ?_
  refine AnyT.ready (rs := [6]) (by kernel_rfl) (by simp) ?_
  refine AllT.cons rfl (fun K hK => ?_) AllT.nil
  go_simp
  refine (copied9_any (W := wz) l.e l.n hn (HR.out.below hS.out) hS.out).mono ?_
  rintro e w5 ⟨A5, c5, rfl, ho5, hB5, hb5⟩
  have hS := Lib.hid (hS.out.trans (hb5.mono hS.out.size))
  unfold resV
  go_simp
  refine hK.out _ _ (Or.inr (hS.out)) (fun _ => ?_)
  clear hK K
  have HK := Lib.hid (HV.out.2.below hS.out)
  obtain ⟨f0, f1, f2, f3, f4⟩ := five_frozen5 HK.out
  obtain ⟨x0, x1, x2, x3, x4⟩ := five5 HK.out
  refine AnyT.take (i := 7) (v := .agg #[.int .i64 l.s, .int .i64 l.q, .int .i64 l.e, .slice A5 l.v.length c5, .int .i64 l.n]) rfl (by kernel_rfl) (by kernel_rfl) (by kernel_rfl) (by kernel_rfl) (fun _ _ _ h => h) (Or.inl ⟨by kernel_rfl, fun w _ => by go_simp⟩) hS.out ?_
  refine AnyT.ready (rs := [8]) (by kernel_rfl) (by simp) ?_
  refine AllT.cons rfl (fun K hK => ?_) AllT.nil
  go_simp
  refine hK.out _ _ (Or.inl rfl) (fun _ => ?_)
  clear hK K
  refine AnyT.done (by kernel_rfl) ?_ _
  go_wp2_with fail
  have k0 := HK.out
  have k1 := k0.set_ 0 (.int .i64 l.s)
  have k2 := k1.set_ 1 (.int .i64 l.q)
  have k3 := k2.set_ 2 (.int .i64 l.e)
  have k4 := k3.set_ 3 (.slice A5 l.v.length c5)
  have k5 := k4.set_ 4 (.int .i64 l.n)
  refine bodyPost_ret (results_cell_row rfl _ _ _ _ _ _ _ rfl k5 Tryz.underlying57 rfl (by kernel_rfl)) rfl ?_
  have hwb : w.heap.size ≤ g + 1 := by have := HG.out; omega
  have hw : Below w.heap.size w w5 := HBZ.out.trans (hS.out.mono HBZ.out.size)
  exact ⟨A5, c5, rfl, own_moreL HBZ.out.size (own_set_t (own_set_t (own_set_t (own_set_t (own_set_t ho5 k0 (by decide)) k1 (by decide)) k2 (by decide)) k3 (by decide)) k4 (by decide)), ((((hw.setCell (p := ⟨g + 1, 0, none⟩) hwb _).setCell (p := ⟨g + 1, 1, none⟩) hwb _).setCell (p := ⟨g + 1, 2, none⟩) hwb _).setCell (p := ⟨g + 1, 3, none⟩) hwb _).setCell (p := ⟨g + 1, 4, none⟩) hwb _⟩
theorem lastA_any {W w : World} {A : Option Addr} {c B : Nat} (l : Ls) (hn : Lim 0 l.v.length) (h : Rd w B A l.v.length (bv l.v)) (hB : Below W.heap.size W w) :
    Calls Tryz.prog 63 #[.agg #[.int .i64 l.s, .int .i64 l.q, .int .i64 l.e, .slice A l.v.length c, .int .i64 l.n]] w fun e w' => ∃ A' c', e = .returned (.agg #[.int .i64 l.s, .int .i64 l.q, .int .i64 l.e, .slice A' l.v.length c', .int .i64 l.n]) ∧ OwnB W w' A' l.v.length c' l.v ∧ Below W.heap.size W w' ∧ Below w.heap.size w w' :=
  (lastA_raw w l hn h).mono fun en w' ⟨A', c', h1, h2, h3⟩ => ⟨A', c', h1, own_moreL hB.size h2, hB.trans (h3.mono hB.size), h3⟩
set_option maxHeartbeats 2000000 in
set_option maxRecDepth 100000 in
theorem without9_raw (ls : List Ls) (A : Option Addr) (n c B : Nat) (s : Int) (hn : n ≤ 100000) (hL : LimLs ls) (w : World) (hr : RdL w B A n ls) :
    Calls Tryz.prog 108 #[.slice A n c, .int .i64 s] w fun e w' => ∃ g, e = .returned (.slice (some ⟨g, 0, none⟩) (Tb.less ls s).length (ls.length + 1)) ∧ OwnL w w' (some ⟨g, 0, none⟩) (Tb.less ls s).length (ls.length + 1) (Tb.less ls s) ∧ Below w.heap.size w w' := by
  obtain rfl := hr.length
  have HL := Lib.hid hL
  have HR := Lib.hid hr.fit
  obtain ⟨i0, hi0, hi1, hi2, hi3⟩ := info_parts cellL.info
  clear hr hL
  go_enter Tryz.func108, Tryz.ntmps108
  go_wp2_with (first
    | (at_make
       refine wpList_make_own w rfl _ _ 31 rfl w.heap.size 57 i0 _ 5 Tryz.underlying31 hi0 hi1 hi2 _ _ _ (ls.length + 1) rfl rfl (by push_cast; rfl) (by rw [hi3]; omega) (by unfold maxLen; omega) (Nat.le_refl _) ?_
       intro w0 hown0 hg0)
    | fail)
  clear hi0 hi1 hi2 hi3
  obtain ⟨g, hg⟩ : ∃ g, w.heap.size = g := ⟨_, rfl⟩
  have HB00 := Lib.hid ((Below.refl w.heap.size w).grown hg0 (Nat.le_refl _) (fun k hk => by cases hk))
  have HO00 : Hid (OwnL w w0 (some ⟨g, 0, none⟩) 0 (ls.length + 1) []) := Lib.hid ⟨[], by rw [← hg]; exact hown0, CellsL.nil⟩
  clear hown0 hg0
  rw [hg]
  have HG := Lib.hid hg
  clear hg
  go_loopw [5, 7, 14] (fun s5 s7 s14 wr => ∃ (k m : Nat), k ≤ ls.length ∧ m ≤ k ∧ s14 = .int .i64 (k : Int) ∧ s5 = .slice (some ⟨g, 0, none⟩) m (ls.length + 1) ∧ Hid (OwnL w wr (some ⟨g, 0, none⟩) m (ls.length + 1) (Tb.less (ls.take k) s)) ∧ Hid (Below w.heap.size w wr)) (fun _ _ s14 _ => ls.length - (intOf s14).toNat)
  case atStart => exact ⟨0, 0, Nat.zero_le _, Nat.zero_le _, rfl, rfl, Lib.hid HO00.out, HB00⟩
  case round =>
    obtain ⟨k, m, hk, hm, rfl, rfl, HO, HB⟩ := hrel
    by_cases hlt : k < ls.length
    · obtain ⟨b, o, l, A1, c1, rfl, hl, y0, y1, y2, y3, y4, hrd⟩ := ((HR.out.below HB.out).fit).at hlt
      have hl1 : Lim 0 l.v.length := HL.out l (List.mem_of_getElem? hl)
      have HRD := Lib.hid hrd
      have HP := Lib.hid hl
      clear hrd hl
      have hb0 : Below wr.heap.size wr (wr.alloc (.cells #[.int .i64 l.s, .int .i64 l.q, .int .i64 l.e, .slice A1 l.v.length c1, .int .i64 l.n] 57)) := (Below.refl _ _).alloc (Nat.le_refl _) _
      by_cases hs : l.s = s
      · have hsb : (l.s != s) = false := by simpa using hs
        have HT := Lib.hid (Tb.less_take (s := s) HP.out)
        have HS := Lib.hid hs
        have HB0 := Lib.hid hb0
        clear hb0 hs
        go_wp2_with fail
        go_roundw
        case rel =>
          refine ⟨k + 1, m, by omega, by omega, by go_num, rfl, Lib.hid ?_, Lib.hid (HB.out.trans (HB0.out.mono HB.out.size))⟩
          rw [HT.out, if_pos HS.out]
          exact HO.out.below HB0.out
        case measure => simp only [intOf]; omega
      · have hsb : (l.s != s) = true := by simpa using hs
        have HT := Lib.hid (Tb.less_take (s := s) HP.out)
        have HS := Lib.hid hs
        clear hs
        have HB0 := Lib.hid hb0
        have HC := Lib.hid (lastA_any (W := w) (c := c1) l hl1 (HRD.out.below hb0) (HB.out.trans (hb0.mono HB.out.size)))
        clear hb0
        go_wp2_with (first
          | (go_at_call 63; refine HC.out.mono ?_; rintro e w1 ⟨A4, c4, rfl, ho1, hB1, hb1⟩; obtain ⟨vs, hv1, hv2⟩ := HO.out.below (HB0.out.trans (hb1.mono HB0.out.size)))
          | (at_builtin
             refine wpList_append_fits (W := w) cellL (.tmp 22) (.tmp 25) rfl (by rfl) rfl (ownsRow_below hv1 ((Below.refl _ _).alloc (Nat.le_refl _) _)) rfl (Rd.lastAt _ A4 c4 l _ rfl) (lastC_one _ _ _) (by omega) (by omega) (hB1.alloc hB1.size _) ?_
             intro w3 hown3 hB3 hg3)
          | fail)
        go_roundw
        case rel =>
          refine ⟨k + 1, m + 1, by omega, by omega, by go_num, rfl, Lib.hid ?_, Lib.hid hB3⟩
          have b1 : Below w1.heap.size w1 (w1.alloc (.cells #[.int .i64 l.s, .int .i64 l.q, .int .i64 l.e, .slice A4 l.v.length c4, .int .i64 l.n] 57)) := (Below.refl _ _).alloc (Nat.le_refl _) _
          refine ⟨vs ++ lastC A4 c4 l, hown3, ?_⟩
          rw [HT.out, if_neg HS.out]
          exact ((hv2.snoc ho1).below b1).grown (by decide) (ownsRow_below hv1 b1) hg3
        case measure => simp only [intOf]; omega
    · obtain rfl : k = ls.length := by omega
      go_wp2_with fail
      go_ret
      have HO2 := HO.out
      rw [List.take_of_length_le (Nat.le_refl _)] at HO2
      obtain rfl := HO2.length
      exact ⟨g, rfl, HO2, HB.out⟩
theorem without9_any {W w : World} {ls : List Ls} {A : Option Addr} {n c B : Nat} (s : Int) (hn : n ≤ 100000) (hL : LimLs ls) (hr : RdL w B A n ls) (hB : Below W.heap.size W w) :
    Calls Tryz.prog 108 #[.slice A n c, .int .i64 s] w fun e w' => ∃ g, e = .returned (.slice (some ⟨g, 0, none⟩) (Tb.less ls s).length (ls.length + 1)) ∧ OwnL W w' (some ⟨g, 0, none⟩) (Tb.less ls s).length (ls.length + 1) (Tb.less ls s) ∧ Below W.heap.size W w' ∧ Below w.heap.size w w' :=
  (without9_raw ls A n c B s hn hL w hr).mono fun e w' ⟨g, h1, h2, h3⟩ => ⟨g, h1, h2.of hB.size, hB.trans (h3.mono hB.size), h3⟩
end Go.Proofs.YtaknfmionkkdjaaGreat

namespace Go.Proofs.YtaknfmionkkdjaaGreat
open Go.RowKit
set_option linter.unusedVariables false
def ApplyC8 : Prop := ∀ {W w : World} {a : OA} {ca : CA} {s : Ob} {c : Cm} {B B' : Nat}, s.Inv → c.Fits → RdO w B a s → RdC w B' ca c → Below W.heap.size W w →
  Calls Tryz.prog 66 #[objV a s, cmdV ca c] w (GotO W w (s.apply c))
end Go.Proofs.YtaknfmionkkdjaaGreat

