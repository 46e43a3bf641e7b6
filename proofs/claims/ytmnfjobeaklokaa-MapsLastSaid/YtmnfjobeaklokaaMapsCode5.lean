/- The contracts of the code: maps.Del and maps.Put. -/
import Derived.Test.YtmnfjobeaklokaaMapsCode4
namespace Go.Proofs.Ytmnfjobeaklokaa
open Go.RowKit
set_option linter.unusedVariables false
set_option maxHeartbeats 1000000 in
theorem del_raw {w : World} {ps : List Pr} {k : List Nat} {A A' : Option Addr} {n c n' c' B B' : Nat} (hn : n ≤ 100000) (hL : LimP ps) (hb : BytesP ps) (hbk : ∀ x ∈ k, x < 256) (hrise : Mp.Rises ps) (h : RdP w B A n ps) (h' : Rd w B' A' n' (bv k)) :
    Calls Try.prog 12 #[.slice A n c, .slice A' n' c'] w (GotPR w w (Mp.delS ps k) (Mp.getE ps k) (Mp.getV ps k) 0) := by
  have H := Lib.hid h.fit
  have H' := Lib.hid h'.fit
  have HL := Lib.hid hL
  have HB := Lib.hid hb
  have HBK := Lib.hid hbk
  have HR := Lib.hid hrise
  have b0 : Below w.heap.size w (w.alloc (.cells zeroR 26)) := (Below.refl _ _).alloc (Nat.le_refl _) _
  clear h h' hL hb hbk hrise
  obtain ⟨E, hE⟩ : ∃ E, Mp.getE ps k = E := ⟨_, rfl⟩
  rw [hE]
  have HE := Lib.hid hE
  clear hE
  go_enter Try.func12, Try.ntmps12
  go_wp2_with (first
    | (go_at_call 17; refine (without_any (W := w) hn HL.out HB.out HBK.out HR.out (H.out.below b0) (H'.out.below b0) b0).mono ?_; rintro e w1 ⟨g, c1, rfl, _, ho1, hB1, hb1⟩)
    | (go_at_call 8; refine (get_any (W := w) hn HL.out HB.out HBK.out (H.out.below hB1) (H'.out.below hB1) hB1).mono ?_; rw [HE.out]; rintro e w2 ⟨A2, c2, rfl, ho2, hB2, hb2⟩; unfold resV; have HK := Lib.hid (((Blk.new w 26 zeroR).below hb1).below hb2); obtain ⟨x0, x1, x2, f0, f1, f2⟩ := three HK.out)
    | fail)
  obtain ⟨k1, k2, k3⟩ := put3 HK.out (.int .i64 E) (.slice A2 (Mp.getV ps k).length c2) (.int .i64 0)
  refine bodyPost_ret (results_tmp_cell_row rfl _ _ _ _ _ _ rfl k1 Try.underlying26 rfl (by kernel_rfl)) rfl ?_
  have h3 := k2 w (Nat.le_refl _) hB2
  exact ⟨some ⟨g, 0, none⟩, c1, A2, c2, rfl, (ho1.below hb2).put3 HK.out (by decide) (by decide) _ _ _, k3 _ _ _ _ _ _ ho2 (by decide), h3, h3⟩
theorem delC7 : DelC7 := fun {W w ps k A A' n c n' c' B B'} hnc hI hk hn' h h' hB =>
  (del_raw (w := w) (by have := h.length; have := hI.few; omega) (inv_lim hI) hI.byt hk hI.rise h h').mono fun e w' h => GotPR.of hB h
theorem getC7 : GetC7 := fun {W w ps k A A' n c n' c' B B'} hnc hI hk hn' h h' hB =>
  get_any (W := W) (by have := h.length; have := hI.few; omega) (inv_lim hI) hI.byt hk h h' hB
namespace Mp
theorem idx_at {ps : List Pr} {k : List Nat} (hk : k ∈ keys ps) : ∃ (i : Nat) (p : Pr), idx (keys ps) k = i ∧ i < ps.length ∧ ps[i]? = some p ∧ p.1 = k := by
  obtain ⟨i, _, hi, hix⟩ := place_lt hk
  have h1 : i < ps.length := by
    have h1 : i < (keys ps).length := by
      rcases Nat.lt_or_ge i (keys ps).length with h | h
      · exact h
      · rw [List.getElem?_eq_none h] at hi; cases hi
    simpa [keys] using h1
  have h2 := List.getElem?_eq_getElem h1
  rw [keys_at h2] at hi
  exact ⟨i, ps[i], hix, h1, h2, by injection hi⟩
theorem del_no {ps : List Pr} {k : List Nat} (hr : Rises ps) : k ∉ keys (delS ps k) := by
  unfold delS
  by_cases hk : k ∈ keys ps
  · rw [if_pos hk]
    obtain ⟨i, p, e, hl, hp, hpk⟩ := idx_at hk
    rw [e]
    intro h
    unfold keys at h
    obtain ⟨q, hq, hqk⟩ := List.mem_map.1 h
    obtain ⟨j, hj, hqj⟩ := List.getElem_of_mem hq
    have hj2 : (ps.eraseIdx i)[j]? = some q := by rw [List.getElem?_eq_getElem hj, hqj]
    rw [List.getElem?_eraseIdx] at hj2
    split at hj2
    · rename_i hji
      exact rises_other hr hj2 hp hji (by rw [hpk, hqk])
    · rename_i hji
      exact rises_other hr hp hj2 (by omega) (by rw [hpk, hqk])
  · rw [if_neg hk]; exact hk
/-- what Put leaves, as the code makes it -/
theorem put_made {ps : List Pr} {k v : List Nat} (hr : Rises ps) (hlong : ¬ (8 < k.length ∨ 16 < v.length)) (hf : k ∈ keys ps ∨ ps.length < 8) :
    (delS ps k).take (cut (delS ps k) k) ++ (k, v) :: (delS ps k).drop (cut (delS ps k) k) = putS ps k v ∧ putE ps k v = 0 ∧ putV ps k v = getV ps k ∧ putN ps k v = (((delS ps k).length + 1 : Nat) : Int) := by
  unfold putS putE putV putN getV delS
  rw [if_neg hlong, if_neg hlong, if_neg hlong, if_neg hlong]
  by_cases hk : k ∈ keys ps
  · simp only [if_pos hk]
    obtain ⟨i, p, e, hl, hp, hpk⟩ := idx_at hk
    rw [e]
    have hc : cut (ps.eraseIdx i) k = i := by
      refine cut_is (by rw [List.length_eraseIdx_of_lt hl]; omega) (fun j q hj hq => ?_) (fun q hq => ?_)
      · rw [List.getElem?_eraseIdx, if_pos hj] at hq
        obtain ⟨h1, e1⟩ := List.getElem?_eq_some_iff.1 hq
        obtain ⟨h2, e2⟩ := List.getElem?_eq_some_iff.1 hp
        have := List.pairwise_iff_getElem.1 hr j i h1 h2 hj
        rw [e1, e2, hpk] at this
        exact this
      · rw [List.getElem?_eraseIdx, if_neg (by omega)] at hq
        obtain ⟨h1, e1⟩ := List.getElem?_eq_some_iff.1 hq
        obtain ⟨h2, e2⟩ := List.getElem?_eq_some_iff.1 hp
        have := List.pairwise_iff_getElem.1 hr i (i + 1) h2 h1 (by omega)
        rw [e1, e2, hpk] at this
        exact ltB_asymm this
    rw [hc]
    refine ⟨?_, trivial, trivial, by rw [List.length_eraseIdx_of_lt hl]; omega⟩
    rw [List.set_eq_take_append_cons_drop, if_pos hl, List.eraseIdx_eq_take_drop_succ]
    have h1 : (ps.take i).length = i := by rw [List.length_take]; omega
    rw [List.take_append_of_le_length (by omega), List.take_of_length_le (by omega), List.drop_append_of_le_length (by omega), List.drop_of_length_le (by omega)]
    rfl
  · have h8 : ¬ 8 ≤ ps.length := by rcases hf with h | h; exact absurd h hk; omega
    simp only [if_neg hk, if_neg h8]
    exact ⟨trivial, trivial, trivial, trivial⟩
end Mp
set_option maxHeartbeats 4000000 in
set_option maxRecDepth 100000 in
theorem put_refused {w : World} {ps : List Pr} {k v : List Nat} {A A' A'' : Option Addr} {n c n' c' n'' c'' B B' B'' : Nat} (hn : n ≤ 100000) (hL : LimP ps) (hb : BytesP ps) (hbk : ∀ x ∈ k, x < 256) (hno : (8 < k.length ∨ 16 < v.length) ∨ (k ∉ Mp.keys ps ∧ 8 ≤ ps.length))
    (h : RdP w B A n ps) (h' : Rd w B' A' n' (bv k)) (h'' : Rd w B'' A'' n'' (bv v)) :
    Calls Try.prog 6 #[.slice A n c, .slice A' n' c', .slice A'' n'' c''] w (GotPR w w ps (if 8 < k.length ∨ 16 < v.length then 1 else 3) [] 0) := by
  obtain rfl := h.length
  obtain rfl := h'.length
  obtain rfl := h''.length
  have H := Lib.hid h.fit
  have H' := Lib.hid h'.fit
  have H'' := Lib.hid h''.fit
  have HL := Lib.hid hL
  have HB := Lib.hid hb
  have HBK := Lib.hid hbk
  have b0 : Below w.heap.size w (w.alloc (.cells zeroR 26)) := (Below.refl _ _).alloc (Nat.le_refl _) _
  clear h h' h'' hL hb hbk
  by_cases h8 : 8 < k.length
  · rw [if_pos (.inl h8)]
    have h8i : (8 : Int) < (k.length : Int) := by omega
    clear hno
    go_enter Try.func6, Try.ntmps6
    go_wp2_with (first
      | (go_at_call 16; refine (copied_any (W := w) hn HL.out (H.out.below b0) b0).mono ?_; rintro e w1 ⟨g, rfl, ho1, hB1, hb1⟩; have HK := Lib.hid ((Blk.new w 26 zeroR).below hb1); obtain ⟨x0, x1, x2, f0, f1, f2⟩ := three HK.out)
      | fail)
    obtain ⟨k1, k2, k3⟩ := put3 HK.out (.int .i64 1) (.slice none 0 0) (.int .i64 0)
    refine bodyPost_ret (results_tmp_cell_row rfl _ _ _ _ _ _ rfl k1 Try.underlying26 rfl (by kernel_rfl)) rfl ?_
    have h3 := k2 w (Nat.le_refl _) hB1
    exact ⟨some ⟨g, 0, none⟩, _, none, 0, rfl, ho1.put3 HK.out (by decide) (by decide) _ _ _, own_nil _ _, h3, h3⟩
  · have h8i : ¬ (8 : Int) < (k.length : Int) := by omega
    by_cases h16 : 16 < v.length
    · rw [if_pos (.inr h16)]
      have h16i : (16 : Int) < (v.length : Int) := by omega
      clear hno
      go_enter Try.func6, Try.ntmps6
      go_wp2_with (first
        | (go_at_call 16; refine (copied_any (W := w) hn HL.out (H.out.below b0) b0).mono ?_; rintro e w1 ⟨g, rfl, ho1, hB1, hb1⟩; have HK := Lib.hid ((Blk.new w 26 zeroR).below hb1); obtain ⟨x0, x1, x2, f0, f1, f2⟩ := three HK.out)
        | fail)
      obtain ⟨k1, k2, k3⟩ := put3 HK.out (.int .i64 1) (.slice none 0 0) (.int .i64 0)
      refine bodyPost_ret (results_tmp_cell_row rfl _ _ _ _ _ _ rfl k1 Try.underlying26 rfl (by kernel_rfl)) rfl ?_
      have h3 := k2 w (Nat.le_refl _) hB1
      exact ⟨some ⟨g, 0, none⟩, _, none, 0, rfl, ho1.put3 HK.out (by decide) (by decide) _ _ _, own_nil _ _, h3, h3⟩
    · rw [if_neg (by omega)]
      have h16i : ¬ (16 : Int) < (v.length : Int) := by omega
      obtain ⟨hnk, hfull⟩ : k ∉ Mp.keys ps ∧ 8 ≤ ps.length := by rcases hno with h | h; omega; exact h
      have hfi : (8 : Int) ≤ (ps.length : Int) := by omega
      have HE := Lib.hid (show Mp.getE ps k = 5 from by unfold Mp.getE; rw [if_neg hnk])
      clear hno hnk
      go_enter Try.func6, Try.ntmps6
      go_wp2_with (first
        | (go_at_call 8; refine (get_any (W := w) hn HL.out HB.out HBK.out (H.out.below b0) (H'.out.below b0) b0).mono ?_; rw [HE.out]; rintro e w1 ⟨A1, c1, rfl, ho1, hB1, hb1⟩; unfold resV
           have hbd : Below w1.heap.size w1 (w1.alloc (.cells #[.int .i64 5, .slice A1 (Mp.getV ps k).length c1, .int .i64 0] 26)) := (Below.refl _ _).alloc (Nat.le_refl _) _)
        | (go_at_call 16; refine (copied_any (W := w) hn HL.out (H.out.below (hB1.alloc hB1.size _)) (hB1.alloc hB1.size _)).mono ?_; rintro e w2 ⟨g, rfl, ho2, hB2, hb2⟩; have HK := Lib.hid ((((Blk.new w 26 zeroR).below hb1).below hbd).below hb2); obtain ⟨x0, x1, x2, f0, f1, f2⟩ := three HK.out)
        | fail)
      obtain ⟨k1, k2, k3⟩ := put3 HK.out (.int .i64 3) (.slice none 0 0) (.int .i64 0)
      refine bodyPost_ret (results_tmp_cell_row rfl _ _ _ _ _ _ rfl k1 Try.underlying26 rfl (by kernel_rfl)) rfl ?_
      have h3 := k2 w (Nat.le_refl _) hB2
      exact ⟨some ⟨g, 0, none⟩, _, none, 0, rfl, ho2.put3 HK.out (by decide) (by decide) _ _ _, own_nil _ _, h3, h3⟩
set_option maxHeartbeats 4000000 in
set_option maxRecDepth 100000 in
theorem put_done {w : World} {ps : List Pr} {k v : List Nat} {A A' A'' : Option Addr} {n c n' c' n'' c'' B B' B'' : Nat} (hn : n ≤ 1000) (hL : LimP ps) (hb : BytesP ps) (hbk : ∀ x ∈ k, x < 256) (hr : Mp.Rises ps) (hlong : ¬ (8 < k.length ∨ 16 < v.length)) (hf : k ∈ Mp.keys ps ∨ ps.length < 8)
    (h : RdP w B A n ps) (h' : Rd w B' A' n' (bv k)) (h'' : Rd w B'' A'' n'' (bv v)) :
    Calls Try.prog 6 #[.slice A n c, .slice A' n' c', .slice A'' n'' c''] w (GotPR w w (Mp.putS ps k v) 0 (Mp.getV ps k) (((Mp.delS ps k).length + 1 : Nat) : Int)) := by
  obtain rfl := h.length
  obtain rfl := h'.length
  obtain rfl := h''.length
  have H := Lib.hid h.fit
  have H' := Lib.hid h'.fit
  have H'' := Lib.hid h''.fit
  have HL := Lib.hid hL
  have HB := Lib.hid hb
  have HBK := Lib.hid hbk
  have HR := Lib.hid hr
  have b0 : Below w.heap.size w (w.alloc (.cells zeroR 26)) := (Below.refl _ _).alloc (Nat.le_refl _) _
  have h8i : ¬ (8 : Int) < (k.length : Int) := by omega
  have h16i : ¬ (16 : Int) < (v.length : Int) := by omega
  have hlk : Lim 0 k.length := by unfold Lim; omega
  have hlv : Lim 0 v.length := by unfold Lim; omega
  have hn5 : ps.length ≤ 100000 := by omega
  obtain ⟨hm, _, _, _⟩ := Mp.put_made (v := v) hr hlong hf
  obtain ⟨D, hD⟩ : ∃ D, Mp.delS ps k = D := ⟨_, rfl⟩
  have hDl : D.length ≤ ps.length := by
    rw [← hD]; unfold Mp.delS; split
    · exact (List.eraseIdx_sublist ps _).length_le
    · exact Nat.le_refl _
  have hno := Mp.del_no (k := k) hr
  have hDb : BytesP D := by
    rw [← hD]; unfold Mp.delS; split
    · intro p hp; exact hb p ((List.eraseIdx_sublist ps _).subset hp)
    · exact hb
  rw [hD] at hm hno
  have hPl : (Mp.putS ps k v).length = D.length + 1 := by
    rw [← hm]; have := Mp.cut_le D k; simp; omega
  have HM := Lib.hid hm
  have HNO := Lib.hid hno
  have HD := Lib.hid hD
  have HDB := Lib.hid hDb
  have HPL := Lib.hid hPl
  have hDn : D.length ≤ 100000 := by omega
  rw [hD]
  clear h h' h'' hL hb hbk hr hlong hm hno hDb hD hPl
  by_cases hk : k ∈ Mp.keys ps
  · have HE := Lib.hid (show Mp.getE ps k = 0 from by unfold Mp.getE; rw [if_pos hk])
    clear hk hf
    go_enter Try.func6, Try.ntmps6
    go_wp2_with (first
      | (go_at_call 8; refine (get_any (W := w) hn5 HL.out HB.out HBK.out (H.out.below b0) (H'.out.below b0) b0).mono ?_; rw [HE.out]; rintro e w1 ⟨A1, c1, rfl, ho1, hB1, hb1⟩; unfold resV
         have hbd : Below w1.heap.size w1 (w1.alloc (.cells #[.int .i64 0, .slice A1 (Mp.getV ps k).length c1, .int .i64 0] 26)) := (Below.refl _ _).alloc (Nat.le_refl _) _
         have hBD := hB1.trans (hbd.mono hB1.size)
         have HK := Lib.hid (((Blk.new w 26 zeroR).below hb1).below hbd)
         have HW8 := Lib.hid (Blk.new w1 26 #[.int .i64 0, .slice A1 (Mp.getV ps k).length c1, .int .i64 0]))
      | (go_at_call 17; refine (without_any (W := w1.alloc (.cells #[.int .i64 0, .slice A1 (Mp.getV ps k).length c1, .int .i64 0] 26)) hn5 HL.out HB.out HBK.out HR.out (H.out.below hBD) (H'.out.below hBD) (Below.refl _ _)).mono ?_; rw [HD.out]; rintro e w2 ⟨g, c2, rfl, hroom, ho2, hB2, _⟩)
      | (go_at_call 19; refine (place_any w2 hDn HDB.out HBK.out HNO.out ho2.rd (H'.out.below (hBD.trans (hB2.mono hBD.size)))).mono ?_; rintro e w3 ⟨rfl, hb3⟩; have hB3 := hB2.trans (hb3.mono hB2.size))
      | (go_at_call_of 20 A'; refine (clone_any (W := w1.alloc (.cells #[.int .i64 0, .slice A1 (Mp.getV ps k).length c1, .int .i64 0] 26)) hlk (H'.out.below (hBD.trans (hB3.mono hBD.size))) hB3).mono ?_; rintro e w4 ⟨A4, c4, rfl, ho4, hB4, hb4⟩)
      | (go_at_call_of 20 A''; refine (clone_any (W := w1.alloc (.cells #[.int .i64 0, .slice A1 (Mp.getV ps k).length c1, .int .i64 0] 26)) hlv (H''.out.below (hBD.trans (hB4.mono hBD.size))) hB4).mono ?_; rintro e w5 ⟨A5, c5, rfl, ho5, hB5, hb5⟩
         have b6 : Below w5.heap.size w5 (w5.alloc (.cells #[.slice A4 k.length c4, .slice A5 v.length c5] 32)) := (Below.refl _ _).alloc (Nat.le_refl _) _
         have ho2' := ((ho2.below hb3).below hb4).below hb5)
      | (go_at_call 18
         refine (insert_any (W := w1.alloc (.cells #[.int .i64 0, .slice A1 (Mp.getV ps k).length c1, .int .i64 0] 26)) hDn (Mp.cut_le D k) hroom (by obtain ⟨q, q1, _⟩ := ho2'; obtain ⟨_, q2, _⟩ := own_cur q1; have := q2.lt; omega) (ho2'.below b6) (Blk.new w5 32 #[.slice A4 k.length c4, .slice A5 v.length c5]) (own_below (own_below ho4 hb5) b6) (own_below ho5 b6) (hB5.trans (b6.mono hB5.size))).mono ?_
         rintro e w6 ⟨rfl, ho6, hB6⟩
         have HO6 := Lib.hid ho6
         have HBD := Lib.hid hBD
         have HB6 := Lib.hid hB6
         have HK6 := Lib.hid (HK.out.below hB6)
         have HW6 := Lib.hid (HW8.out.below hB6)
         have HV6 := Lib.hid (own_below (own_below ho1 hbd) hB6)
         clear ho6 hBD hB6 HK HW8 ho1 hbd hB1 hb1 ho2 hB2 hb3 hB3 ho4 hB4 hb4 ho5 hB5 hb5 b6 ho2' H H' H''
         obtain ⟨x0, x1, x2, f0, f1, f2⟩ := three HK6.out
         obtain ⟨y0, y1, y2, h0, h1, h2⟩ := three HW6.out)
      | fail)
    go_region
    go_wp2_with fail
    obtain ⟨k1, k2, k3⟩ := put3 HK6.out (.int .i64 0) (.slice A1 (Mp.getV ps k).length c1) (.int .i64 ((D.length : Int) + 1))
    refine bodyPost_ret (results_tmp_cell_row rfl _ _ _ _ _ _ rfl k1.drew Try.underlying26 rfl (by kernel_rfl)) rfl ?_
    have hB7 := HBD.out.trans (HB6.out.mono HBD.out.size)
    have h3 := (k2 w (Nat.le_refl _) hB7).drew
    have ho7 := (HO6.out.of HBD.out.size).put3 HK6.out (by decide) (by decide) (.int .i64 0) (.slice A1 (Mp.getV ps k).length c1) (.int .i64 ((D.length : Int) + 1))
    rw [HM.out] at ho7
    exact ⟨some ⟨g, 0, none⟩, c2, A1, c1, by rw [HPL.out]; push_cast; rfl, by rw [HPL.out]; exact ho7.below (Below.refl _ _).drew, own_below (k3 _ _ _ _ _ _ HV6.out (by decide)) (Below.refl _ _).drew, h3, h3⟩
  · have HE := Lib.hid (show Mp.getE ps k = 5 from by unfold Mp.getE; rw [if_neg hk])
    have h8n : ¬ (8 : Int) ≤ (ps.length : Int) := by rcases hf with h | h; exact absurd h hk; omega
    clear hk hf
    go_enter Try.func6, Try.ntmps6
    go_wp2_with (first
      | (go_at_call 8; refine (get_any (W := w) hn5 HL.out HB.out HBK.out (H.out.below b0) (H'.out.below b0) b0).mono ?_; rw [HE.out]; rintro e w1 ⟨A1, c1, rfl, ho1, hB1, hb1⟩; unfold resV
         have hbd : Below w1.heap.size w1 (w1.alloc (.cells #[.int .i64 5, .slice A1 (Mp.getV ps k).length c1, .int .i64 0] 26)) := (Below.refl _ _).alloc (Nat.le_refl _) _
         have hBD := hB1.trans (hbd.mono hB1.size)
         have HK := Lib.hid (((Blk.new w 26 zeroR).below hb1).below hbd)
         have HW8 := Lib.hid (Blk.new w1 26 #[.int .i64 5, .slice A1 (Mp.getV ps k).length c1, .int .i64 0]))
      | (go_at_call 17; refine (without_any (W := w1.alloc (.cells #[.int .i64 5, .slice A1 (Mp.getV ps k).length c1, .int .i64 0] 26)) hn5 HL.out HB.out HBK.out HR.out (H.out.below hBD) (H'.out.below hBD) (Below.refl _ _)).mono ?_; rw [HD.out]; rintro e w2 ⟨g, c2, rfl, hroom, ho2, hB2, _⟩)
      | (go_at_call 19; refine (place_any w2 hDn HDB.out HBK.out HNO.out ho2.rd (H'.out.below (hBD.trans (hB2.mono hBD.size)))).mono ?_; rintro e w3 ⟨rfl, hb3⟩; have hB3 := hB2.trans (hb3.mono hB2.size))
      | (go_at_call_of 20 A'; refine (clone_any (W := w1.alloc (.cells #[.int .i64 5, .slice A1 (Mp.getV ps k).length c1, .int .i64 0] 26)) hlk (H'.out.below (hBD.trans (hB3.mono hBD.size))) hB3).mono ?_; rintro e w4 ⟨A4, c4, rfl, ho4, hB4, hb4⟩)
      | (go_at_call_of 20 A''; refine (clone_any (W := w1.alloc (.cells #[.int .i64 5, .slice A1 (Mp.getV ps k).length c1, .int .i64 0] 26)) hlv (H''.out.below (hBD.trans (hB4.mono hBD.size))) hB4).mono ?_; rintro e w5 ⟨A5, c5, rfl, ho5, hB5, hb5⟩
         have b6 : Below w5.heap.size w5 (w5.alloc (.cells #[.slice A4 k.length c4, .slice A5 v.length c5] 32)) := (Below.refl _ _).alloc (Nat.le_refl _) _
         have ho2' := ((ho2.below hb3).below hb4).below hb5)
      | (go_at_call 18
         refine (insert_any (W := w1.alloc (.cells #[.int .i64 5, .slice A1 (Mp.getV ps k).length c1, .int .i64 0] 26)) hDn (Mp.cut_le D k) hroom (by obtain ⟨q, q1, _⟩ := ho2'; obtain ⟨_, q2, _⟩ := own_cur q1; have := q2.lt; omega) (ho2'.below b6) (Blk.new w5 32 #[.slice A4 k.length c4, .slice A5 v.length c5]) (own_below (own_below ho4 hb5) b6) (own_below ho5 b6) (hB5.trans (b6.mono hB5.size))).mono ?_
         rintro e w6 ⟨rfl, ho6, hB6⟩
         have HO6 := Lib.hid ho6
         have HBD := Lib.hid hBD
         have HB6 := Lib.hid hB6
         have HK6 := Lib.hid (HK.out.below hB6)
         have HW6 := Lib.hid (HW8.out.below hB6)
         have HV6 := Lib.hid (own_below (own_below ho1 hbd) hB6)
         clear ho6 hBD hB6 HK HW8 ho1 hbd hB1 hb1 ho2 hB2 hb3 hB3 ho4 hB4 hb4 ho5 hB5 hb5 b6 ho2' H H' H''
         obtain ⟨x0, x1, x2, f0, f1, f2⟩ := three HK6.out
         obtain ⟨y0, y1, y2, h0, h1, h2⟩ := three HW6.out)
      | fail)
    go_region
    go_wp2_with fail
    obtain ⟨k1, k2, k3⟩ := put3 HK6.out (.int .i64 0) (.slice A1 (Mp.getV ps k).length c1) (.int .i64 ((D.length : Int) + 1))
    refine bodyPost_ret (results_tmp_cell_row rfl _ _ _ _ _ _ rfl k1.drew Try.underlying26 rfl (by kernel_rfl)) rfl ?_
    have hB7 := HBD.out.trans (HB6.out.mono HBD.out.size)
    have h3 := (k2 w (Nat.le_refl _) hB7).drew
    have ho7 := (HO6.out.of HBD.out.size).put3 HK6.out (by decide) (by decide) (.int .i64 0) (.slice A1 (Mp.getV ps k).length c1) (.int .i64 ((D.length : Int) + 1))
    rw [HM.out] at ho7
    exact ⟨some ⟨g, 0, none⟩, c2, A1, c1, by rw [HPL.out]; push_cast; rfl, by rw [HPL.out]; exact ho7.below (Below.refl _ _).drew, own_below (k3 _ _ _ _ _ _ HV6.out (by decide)) (Below.refl _ _).drew, h3, h3⟩
theorem putC7 : PutC7 := fun {W w ps k v A A' A'' n c n' c' n'' c'' B B' B''} hnc hI hk hv hn' hn'' h h' h'' hB => by
  have hn : n ≤ 8 := by have := h.length; have := hI.few; omega
  by_cases hlong : 8 < k.length ∨ 16 < v.length
  · have := put_refused (c := c) (c' := c') (c'' := c'') (by omega) (inv_lim hI) hI.byt hk (.inl hlong) h h' h''
    rw [if_pos hlong] at this
    have e1 : Mp.putS ps k v = ps := by unfold Mp.putS; rw [if_pos hlong]
    have e2 : Mp.putE ps k v = 1 := by unfold Mp.putE; rw [if_pos hlong]
    have e3 : Mp.putV ps k v = [] := by unfold Mp.putV; rw [if_pos hlong]
    have e4 : Mp.putN ps k v = 0 := by unfold Mp.putN; rw [if_pos hlong]
    rw [e1, e2, e3, e4]
    exact this.mono fun e w' h => GotPR.of hB h
  · by_cases hf : k ∉ Mp.keys ps ∧ 8 ≤ ps.length
    · have := put_refused (c := c) (c' := c') (c'' := c'') (by omega) (inv_lim hI) hI.byt hk (.inr hf) h h' h''
      rw [if_neg hlong] at this
      have e1 : Mp.putS ps k v = ps := by unfold Mp.putS; rw [if_neg hlong, if_neg hf.1, if_pos hf.2]
      have e2 : Mp.putE ps k v = 3 := by unfold Mp.putE; rw [if_neg hlong, if_neg hf.1, if_pos hf.2]
      have e3 : Mp.putV ps k v = [] := by unfold Mp.putV; rw [if_neg hlong, if_neg hf.1]
      have e4 : Mp.putN ps k v = 0 := by unfold Mp.putN; rw [if_neg hlong, if_neg hf.1, if_pos hf.2]
      rw [e1, e2, e3, e4]
      exact this.mono fun e w' h => GotPR.of hB h
    · have hf' : k ∈ Mp.keys ps ∨ ps.length < 8 := by
        by_cases hk : k ∈ Mp.keys ps
        · exact .inl hk
        · refine .inr ?_
          rcases Nat.lt_or_ge ps.length 8 with h | h
          · exact h
          · exact absurd ⟨hk, h⟩ hf
      obtain ⟨_, e2, e3, e4⟩ := Mp.put_made (v := v) hI.rise hlong hf'
      rw [e2, e3, e4]
      exact (put_done (c := c) (c' := c') (c'' := c'') (by omega) (inv_lim hI) hI.byt hk hI.rise hlong hf' h h' h'').mono fun e w' h => GotPR.of hB h
end Go.Proofs.Ytmnfjobeaklokaa
