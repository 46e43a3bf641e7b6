/- The contract of the document's own answer for a map: Del. -/
import Derived.Test.YtcmjpjhaaookfaaMapsRef2
namespace Go.Proofs.Ytcmjpjhaaookfaa
open Go.RowKit
set_option linter.unusedVariables false
theorem refKey_bel (w : World) {A A' : Option Addr} {n c n' c' B B' : Nat} {ps : List Pr} {k : List Nat} (hn : n ≤ 100000) (hb : BytesP ps) (hbk : ∀ x ∈ k, x < 256) (h : RdP w B A n ps) (h' : Rd w B' A' n' (bv k)) :
    Calls Try.prog 93 #[.slice A n c, .slice A' n' c'] w fun e w' => e = .returned (.int .i64 (Mp.place (Mp.keys ps) k)) ∧ Below w.heap.size w w' :=
  (refKey_any w hn hb hbk h h').mono fun e w' ⟨h1, m, h2⟩ => ⟨h1, by rw [h2]; exact belowN_d m⟩
theorem Owns.take {W w : World} {vs : List Value} {qs : List (List Nat)} (h : Owns W w vs qs) (k : Nat) : Owns W w (vs.take k) (qs.take k) :=
  ⟨by simp [h.len], fun i l hl => by
    have hi : i < k := by
      rcases Nat.lt_or_ge i k with h' | h'
      · exact h'
      · rw [List.getElem?_eq_none (by simp; omega)] at hl; cases hl
    rw [List.getElem?_take_of_lt hi] at hl ⊢
    exact h.cell i l hl⟩
theorem Owns.drop {W w : World} {vs : List Value} {qs : List (List Nat)} (h : Owns W w vs qs) (k : Nat) : Owns W w (vs.drop k) (qs.drop k) :=
  ⟨by simp [h.len], fun i l hl => by rw [List.getElem?_drop] at hl ⊢; exact h.cell _ l hl⟩
theorem Owns.append {W w : World} {vs vs' : List Value} {qs qs' : List (List Nat)} (h : Owns W w vs qs) (h' : Owns W w vs' qs') : Owns W w (vs ++ vs') (qs ++ qs') :=
  ⟨by simp [h.len, h'.len], fun i l hl => by
    rcases Nat.lt_or_ge i qs.length with hi | hi
    · rw [List.getElem?_append_left hi] at hl
      rw [List.getElem?_append_left (by rw [h.len]; exact hi)]
      exact h.cell i l hl
    · rw [List.getElem?_append_right hi] at hl
      rw [List.getElem?_append_right (by rw [h.len]; exact hi), h.len]
      exact h'.cell _ l hl⟩
theorem flat_erase (ps : List Pr) (i : Nat) : flat (ps.eraseIdx i) = (flat ps).take (i * 2) ++ (flat ps).drop ((i + 1) * 2) := by
  rw [List.eraseIdx_eq_take_drop_succ, flat_append, flat_take, flat_drop]
theorem own_drew {w : World} {base n size : Nat} {e : TypeId} {v : Value} {vs : List Value} (h : w.ownsRow base e size v n vs) : w.drew.ownsRow base e size v n vs := h
set_option maxHeartbeats 2000000 in
set_option maxRecDepth 100000 in
theorem refDel_raw {w : World} {ps : List Pr} {k : List Nat} {A A' : Option Addr} {n c n' c' B B' : Nat} (hn : n ≤ 100000) (hL : LimP ps) (hb : BytesP ps) (hbk : ∀ x ∈ k, x < 256) (h : RdP w B A n ps) (h' : Rd w B' A' n' (bv k)) :
    Calls Try.prog 60 #[.slice A n c, .slice A' n' c'] w (GotPR w w (Mp.delS ps k) (Mp.getE ps k) (Mp.getV ps k) 0) := by
  obtain rfl := h.length
  have H := Lib.hid h.fit
  have H' := Lib.hid h'.fit
  have HL := Lib.hid hL
  have HB := Lib.hid hb
  have HBK := Lib.hid hbk
  have b0 : Below w.heap.size w (w.alloc (.cells zeroR 34)) := (Below.refl _ _).alloc (Nat.le_refl _) _
  clear h h' hL hb hbk
  unfold Mp.getE Mp.getV Mp.delS
  by_cases hk : k ∈ Mp.keys ps
  · rw [if_pos hk, if_pos hk, if_pos hk]
    obtain ⟨i, ei, hi, hix⟩ := Mp.place_lt hk
    rw [hix]
    have hin : i < ps.length := by
      have h1 : i < (Mp.keys ps).length := by
        rcases Nat.lt_or_ge i (Mp.keys ps).length with h | h
        · exact h
        · rw [List.getElem?_eq_none h] at hi; cases hi
      rwa [keys_length] at h1
    obtain ⟨p, hp⟩ : ∃ p, ps[i]? = some p := ⟨_, List.getElem?_eq_getElem hin⟩
    have hv : (ps[i]?.map (·.2)).getD [] = p.2 := by rw [hp]; rfl
    rw [hv]
    have HE := Lib.hid ei
    have HP := Lib.hid hp
    have h0 : ¬ (i : Int) < 0 := by omega
    have h1 : (i : Int) < (ps.length : Int) := by omega
    clear hv hix hi ei hp hk
    go_enter Try.func60, Try.ntmps60
    go_wp2_with fail
    refine (refPairs_any (W := w) hn HL.out (H.out.below b0) b0).mono ?_
    rintro e w1 ⟨A1, c1, rfl, ⟨vs, hrow, hown⟩, hB1, hb1⟩
    have hcap := (own_cap hrow).1
    have HK := Lib.hid ((Blk.new w 34 zeroR).below hb1)
    go_wp2_with fail
    refine (refKey_bel _ (k := k) hn HB.out HBK.out (H.out.below hB1) (H'.out.below hB1)).mono ?_
    rintro e w2 ⟨rfl, hb2⟩
    rw [HE.out]
    have hrow2 := ownsRow_below hrow hb2
    have hown2 := hown.below hb2
    obtain ⟨A2, c2, hcv, hov⟩ := hown2.cell (i * 2 + 1) p.2 (by rw [flat_val, HP.out]; rfl)
    obtain ⟨g, rfl, hg1, hg2⟩ := own_addrS hrow2 (by omega)
    have hcell := (hrow2.cellAt (i * 2 + 1) (by omega)).trans hcv
    have HROW := Lib.hid hrow2
    have HOWN := Lib.hid hown2
    have HB2 := Lib.hid (hB1.trans (hb2.mono hB1.size))
    have HOV := Lib.hid hov
    have HK := Lib.hid (HK.out.below hb2)
    obtain ⟨i0, hi0, _, hi1, _⟩ := info_parts cellP.info
    have q1 : ∀ w : World, (Instr.slice 30 (.slice (some ⟨g, 0, none⟩) ps.length c1) none (some (.int .i64 (i : Int))) none).run Try.prog w = .ok (.slice (some ⟨g, 0, none⟩) i c1) w :=
      fun w => run_slice_to (P := Try.prog) Try.underlying30 hi0 (some ⟨g, 0, none⟩) ps.length c1 i (by omega) w
    have q2 : ∀ w : World, (Instr.slice 30 (.slice (some ⟨g, 0, none⟩) ps.length c1) (some (.int .i64 ((i : Int) + 1))) none none).run Try.prog w = .ok (.slice (cutS (some ⟨g, 0, none⟩) c1 (i + 1) 2) (ps.length - (i + 1)) (c1 - (i + 1))) w :=
      fun w => by have := run_slice_fromS_ (P := Try.prog) Try.underlying30 hi0 hi1 (some ⟨g, 0, none⟩) ps.length c1 (i + 1) (by omega) w; rwa [show (((i + 1 : Nat)) : Int) = (i : Int) + 1 by omega] at this
    have hw1 : IntKind.i64.wrap ((i : Int) + 1) = (i : Int) + 1 := IntWalk.i64_in _ (by omega)
    have HR2 := Lib.hid ((Rd.ownS hrow2 (by omega)).dropS (k := i + 1) (c := c1) (by omega) hcap).drew
    have HPRE := Lib.hid (own_drew (own_prefix hrow2 (k := i) (by omega)))
    have HONE := Lib.hid hown.one
    clear hrow hown hB1 hb1 hov hcv hi0 hi1 hg1 hg2 hrow2 hown2 hb2
    go_upto_region 6 with fail
    clear hcell
    obtain ⟨x0, x1, x2, f0, f1, f2⟩ := three HK.out
    have HROWd := Lib.hid (own_drew HROW.out)
    have HBd := Lib.hid HB2.out.drew
    go_region_law (refine step_append_S (W := w) (A := some ⟨g, 0, none⟩) (n := i) (c := c1) (A' := cutS (some ⟨g, 0, none⟩) c1 (i + 1) 2) (m := ps.length - (i + 1)) (c' := c1 - (i + 1)) cellP (.tmp 25) (.tmp 29) rfl rfl (by simp [Act.eval, Act.put]) HPRE.out (by simp [Act.eval, Act.put]) HR2.out (fun u hu => HONE.out u (List.mem_of_mem_drop hu)) (by omega) (by omega) HBd.out ?_
                   intro A3 c3 w3 hown3 hB3 hg3
                   have HK3 := Lib.hid (HK.out.drew.apart_own HPRE.out (by decide) hg3)
                   clear x0 x1 x2 f0 f1 f2
                   obtain ⟨x0, x1, x2, f0, f1, f2⟩ := three HK3.out)
    all_goals go_wp2
    all_goals
      have hel : (ps.eraseIdx i).length = i + (ps.length - (i + 1)) := by rw [List.length_eraseIdx_of_lt (by omega)]; omega
      obtain ⟨k1, k2, k3⟩ := put3 HK3.out (.int .i64 0) (.slice A2 p.2.length c2) (.int .i64 0)
      refine bodyPost_ret (results_tmp_cell_row rfl _ _ _ _ _ _ rfl k1 Try.underlying34 rfl (by kernel_rfl)) rfl ?_
      have ho3 : OwnP w w3 A3 (i + (ps.length - (i + 1))) c3 (ps.eraseIdx i) := ⟨_, hown3, by
        rw [flat_erase]
        exact (((HOWN.out.take (i * 2)).append (HOWN.out.drop ((i + 1) * 2))).below (Below.refl _ _).drew).grownP HPRE.out hg3⟩
      have hv3 := own_grown_t (w := w2.drew) (own_drew HOV.out) HPRE.out (by decide) hg3
      have h3 := k2 w (Nat.le_refl _) hB3
      exact ⟨A3, c3, A2, c2, by rw [hel]; rfl, by rw [hel]; exact ho3.put3 HK3.out (by decide) (by decide) _ _ _, k3 _ _ _ _ _ _ hv3 (by decide), h3, h3⟩
  · rw [if_neg hk, if_neg hk, if_neg hk]
    have HE := Lib.hid (Mp.place_no hk)
    clear hk
    go_enter Try.func60, Try.ntmps60
    go_wp2_with fail
    refine (refPairs_any (W := w) hn HL.out (H.out.below b0) b0).mono ?_
    rintro e w1 ⟨A1, c1, rfl, ho1, hB1, hb1⟩
    have HK := Lib.hid ((Blk.new w 34 zeroR).below hb1)
    go_wp2_with fail
    refine (refKey_bel _ (k := k) hn HB.out HBK.out (H.out.below hB1) (H'.out.below hB1)).mono ?_
    rintro e w2 ⟨rfl, hb2⟩
    rw [HE.out]
    go_wp2_with (first
      | (go_at_call 49; refine (bad_any _ 5).mono ?_; rintro e w3 ⟨rfl, hb3⟩; unfold resV; have HK := Lib.hid ((HK.out.below hb2).below hb3); obtain ⟨x0, x1, x2, f0, f1, f2⟩ := three HK.out)
      | fail)
    obtain ⟨k1, k2, k3⟩ := put3 HK.out (.int .i64 5) (.slice none 0 0) (.int .i64 0)
    refine bodyPost_ret (results_tmp_cell_row rfl _ _ _ _ _ _ rfl k1 Try.underlying34 rfl (by kernel_rfl)) rfl ?_
    have hB2 := hB1.trans (hb2.mono hB1.size)
    have h3 := k2 w (Nat.le_refl _) (hB2.trans (hb3.mono hB2.size))
    exact ⟨A1, c1, none, 0, rfl, ((ho1.below hb2).below hb3).put3 HK.out (by decide) (by decide) _ _ _, own_nil _ _, h3, h3⟩
theorem refDel_any {W w : World} {ps : List Pr} {k : List Nat} {A A' : Option Addr} {n c n' c' B B' : Nat} (hn : n ≤ 100000) (hL : LimP ps) (hb : BytesP ps) (hbk : ∀ x ∈ k, x < 256) (h : RdP w B A n ps) (h' : Rd w B' A' n' (bv k)) (hB : Below W.heap.size W w) :
    Calls Try.prog 60 #[.slice A n c, .slice A' n' c'] w (GotPR W w (Mp.delS ps k) (Mp.getE ps k) (Mp.getV ps k) 0) :=
  (refDel_raw hn hL hb hbk h h').mono fun e w' h => GotPR.of hB h
end Go.Proofs.Ytcmjpjhaaookfaa
