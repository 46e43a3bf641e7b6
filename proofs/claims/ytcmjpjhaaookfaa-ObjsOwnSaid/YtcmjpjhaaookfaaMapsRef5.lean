/- The contract of the document's own answer for a map: Put (the walk). -/
import Derived.Test.YtcmjpjhaaookfaaMapsRef4
namespace Go.Proofs.Ytcmjpjhaaookfaa
open Go.RowKit
set_option linter.unusedVariables false
/-- refused: too long -/
theorem refPut_long {w : World} {ps : List Pr} {k v : List Nat} {A A' A'' : Option Addr} {n c n' c' n'' c'' B B' B'' : Nat} (hn : n ≤ 100000) (hL : LimP ps) (hlong : 8 < n' ∨ 16 < n'') (h : RdP w B A n ps) (h' : Rd w B' A' n' (bv k)) (h'' : Rd w B'' A'' n'' (bv v)) :
    Calls Try.prog 58 #[.slice A n c, .slice A' n' c', .slice A'' n'' c''] w (GotPR w w ps 1 [] 0) := by
  have H := Lib.hid h.fit
  have HL := Lib.hid hL
  have HLEN := Lib.hid h.length
  have b0 : Below w.heap.size w (w.alloc (.cells zeroR 34)) := (Below.refl _ _).alloc (Nat.le_refl _) _
  clear h h' h'' hL
  by_cases h8 : 8 < n'
  · have h8i : (8 : Int) < (n' : Int) := by omega
    clear hlong
    go_enter Try.func58, Try.ntmps58
    go_wp2_with (first
      | (go_at_call 48; refine (refPairs_any (W := w) hn HL.out (H.out.below b0) b0).mono ?_; rintro e w1 ⟨A1, c1, rfl, ho1, hB1, hb1⟩; have HK := Lib.hid ((Blk.new w 34 zeroR).below hb1))
      | (go_at_call 49; refine (bad_any _ 1).mono ?_; rintro e w3 ⟨rfl, hb3⟩; unfold resV; have HK := Lib.hid (HK.out.below hb3); obtain ⟨x0, x1, x2, f0, f1, f2⟩ := three HK.out)
      | fail)
    obtain ⟨k1, k2, k3⟩ := put3 HK.out (.int .i64 1) (.slice none 0 0) (.int .i64 0)
    refine bodyPost_ret (results_tmp_cell_row rfl _ _ _ _ _ _ rfl k1 Try.underlying34 rfl (by kernel_rfl)) rfl ?_
    have h3 := k2 w (Nat.le_refl _) (hB1.trans (hb3.mono hB1.size))
    exact ⟨A1, c1, none, 0, rfl, (ho1.below hb3).put3 HK.out (by decide) (by decide) _ _ _, own_nil _ _, h3, h3⟩
  · have h8i : ¬ (8 : Int) < (n' : Int) := by omega
    have h16i : (16 : Int) < (n'' : Int) := by omega
    clear hlong
    go_enter Try.func58, Try.ntmps58
    go_wp2_with (first
      | (go_at_call 48; refine (refPairs_any (W := w) hn HL.out (H.out.below b0) b0).mono ?_; rintro e w1 ⟨A1, c1, rfl, ho1, hB1, hb1⟩; have HK := Lib.hid ((Blk.new w 34 zeroR).below hb1))
      | (go_at_call 49; refine (bad_any _ 1).mono ?_; rintro e w3 ⟨rfl, hb3⟩; unfold resV; have HK := Lib.hid (HK.out.below hb3); obtain ⟨x0, x1, x2, f0, f1, f2⟩ := three HK.out)
      | fail)
    obtain ⟨k1, k2, k3⟩ := put3 HK.out (.int .i64 1) (.slice none 0 0) (.int .i64 0)
    refine bodyPost_ret (results_tmp_cell_row rfl _ _ _ _ _ _ rfl k1 Try.underlying34 rfl (by kernel_rfl)) rfl ?_
    have h3 := k2 w (Nat.le_refl _) (hB1.trans (hb3.mono hB1.size))
    exact ⟨A1, c1, none, 0, rfl, (ho1.below hb3).put3 HK.out (by decide) (by decide) _ _ _, own_nil _ _, h3, h3⟩
set_option maxHeartbeats 2000000 in
set_option maxRecDepth 100000 in
/-- put anew -/
theorem refPut_is {w : World} {ps : List Pr} {k v : List Nat} {A A' A'' : Option Addr} {n c n' c' n'' c'' B B' B'' i : Nat} {p : Pr} (hn : n ≤ 100000) (hL : LimP ps) (hb : BytesP ps) (hbk : ∀ x ∈ k, x < 256) (h8 : n' ≤ 8) (h16 : n'' ≤ 16) (ei : Mp.place (Mp.keys ps) k = (i : Int)) (hp : ps[i]? = some p)
    (h : RdP w B A n ps) (h' : Rd w B' A' n' (bv k)) (h'' : Rd w B'' A'' n'' (bv v)) :
    Calls Try.prog 58 #[.slice A n c, .slice A' n' c', .slice A'' n'' c''] w (GotPR w w (ps.set i (p.1, v)) 0 p.2 (ps.length : Int)) := by
  obtain rfl := h.length
  obtain rfl := h''.length
  have hin : i < ps.length := by
    rcases Nat.lt_or_ge i ps.length with h' | h'
    · exact h'
    · rw [List.getElem?_eq_none h'] at hp; cases hp
  have H := Lib.hid h.fit
  have H' := Lib.hid h'.fit
  have H'' := Lib.hid h''.fit
  have HL := Lib.hid hL
  have HB := Lib.hid hb
  have HBK := Lib.hid hbk
  have HE := Lib.hid ei
  have HP := Lib.hid hp
  have h8i : ¬ (8 : Int) < (n' : Int) := by omega
  have h16i : ¬ (16 : Int) < (v.length : Int) := by omega
  have h0 : (0 : Int) ≤ (i : Int) := by omega
  have h1 : (i : Int) < (ps.length : Int) := by omega
  have b0 : Below w.heap.size w (w.alloc (.cells zeroR 34)) := (Below.refl _ _).alloc (Nat.le_refl _) _
  clear h h' h'' hL hb hbk ei hp
  go_enter Try.func58, Try.ntmps58
  go_wp2_with fail
  refine (refPairs_any (W := w) hn HL.out (H.out.below b0) b0).mono ?_
  rintro e w1 ⟨A1, c1, rfl, ⟨vs, hrow, hown⟩, hB1, hb1⟩
  have HK := Lib.hid ((Blk.new w 34 zeroR).below hb1)
  go_wp2_with fail
  refine (refKey_bel _ (k := k) hn HB.out HBK.out (H.out.below hB1) (H'.out.below hB1)).mono ?_
  rintro e w2 ⟨rfl, hb2⟩
  rw [HE.out]
  have hrow2 := ownsRow_below hrow hb2
  have hown2 := hown.below hb2
  obtain ⟨A2, c2, hcv, hov⟩ := hown2.cell (i * 2 + 1) p.2 (by rw [flat_val, HP.out]; rfl)
  obtain ⟨g, rfl, hg1, hg2⟩ := own_addrS hrow2 (by omega)
  have hcell := (hrow2.cellAt (i * 2 + 1) (by omega)).trans hcv
  have HROW := Lib.hid hrow2
  have HOWN := Lib.hid hown2
  have HB2 := Lib.hid (hB1.trans (hb2.mono hB1.size))
  have HOV := Lib.hid hov
  have HK := Lib.hid (HK.out.below hb2)
  have HCV := Lib.hid hcv
  clear hrow hown hB1 hb1 hov hcv hrow2 hown2 hb2 hg1 hg2
  go_upto_region 7 with fail
  clear hcell
  go_wp2_with fail
  refine (ownref_any (W := w) (by unfold Lim; omega) (H''.out.below HB2.out) HB2.out).mono ?_
  rintro e w3 ⟨A3, c3, rfl, ho3, hB3, hb3⟩
  have hrow3 := ownsRow_below HROW.out hb3
  have hf := own_frozenS hrow3 (i * 2 + 1)
  have hcl := (hrow3.cellAt (i * 2 + 1) (by omega)).trans HCV.out
  obtain ⟨cur, hbk⟩ : ∃ cur, Blk w3 g 42 cur := by
    rcases own_blk hrow3 with ⟨q1, _⟩ | ⟨g', cur, q1, _, q2⟩
    · cases q1
    · injection q1 with q1; injection q1 with q1; subst q1; exact ⟨cur, q2⟩
  have hg1 : w.heap.size ≤ g := by
    obtain ⟨g', q1, q2, _⟩ := own_addrS hrow3 (by omega)
    injection q1 with q1; injection q1 with q1; omega
  have HK3 := HK.out.below hb3
  have HK4 := Lib.hid (HK3.set_other (i := i * 2 + 1) (u := .slice A3 v.length c3) (HK3.apart hbk (by decide)))
  obtain ⟨x0, x1, x2, f0, f1, f2⟩ := three HK4.out
  have HO4 : Hid (OwnP w (w3.setCell ⟨g, i * 2 + 1, none⟩ (.slice A3 v.length c3)) (some ⟨g, 0, none⟩) ps.length c1 (ps.set i (p.1, v))) := Lib.hid
    ⟨vs.set (i * 2 + 1) (.slice A3 v.length c3), (hrow3.stored _ _).1, by rw [flat_setval HP.out rfl]; exact ((HOWN.out.below hb3).set_t hbk (by decide)).set (own_set_t ho3 hbk (by decide)) _⟩
  have HV4 := Lib.hid (own_set_t (i := i * 2 + 1) (u := .slice A3 v.length c3) (own_below HOV.out hb3) hbk (by decide))
  have HB4 := Lib.hid (hB3.setCell (p := ⟨g, i * 2 + 1, none⟩) hg1 (.slice A3 v.length c3))
  clear hrow3 ho3 hB3 hb3 hbk hg1 HK3
  go_wp2_with fail
  obtain ⟨k1, k2, k3⟩ := put3 HK4.out (.int .i64 0) (.slice A2 p.2.length c2) (.int .i64 (ps.length : Int))
  refine bodyPost_ret (results_tmp_cell_row rfl _ _ _ _ _ _ rfl k1 Try.underlying34 rfl (by kernel_rfl)) rfl ?_
  have h3 := k2 w (Nat.le_refl _) HB4.out
  have hel : (ps.set i (p.1, v)).length = ps.length := by simp
  exact ⟨some ⟨g, 0, none⟩, c1, A2, c2, by rw [hel]; rfl, by rw [hel]; exact HO4.out.put3 HK4.out (by decide) (by decide) _ _ _, k3 _ _ _ _ _ _ HV4.out (by decide), h3, h3⟩
/-- refused: full -/
theorem refPut_full {w : World} {ps : List Pr} {k v : List Nat} {A A' A'' : Option Addr} {n c n' c' n'' c'' B B' B'' : Nat} (hn : n ≤ 100000) (hL : LimP ps) (hb : BytesP ps) (hbk : ∀ x ∈ k, x < 256) (h8 : n' ≤ 8) (h16 : n'' ≤ 16) (ei : Mp.place (Mp.keys ps) k = -1) (hf : 8 ≤ n)
    (h : RdP w B A n ps) (h' : Rd w B' A' n' (bv k)) (h'' : Rd w B'' A'' n'' (bv v)) :
    Calls Try.prog 58 #[.slice A n c, .slice A' n' c', .slice A'' n'' c''] w (GotPR w w ps 3 [] 0) := by
  obtain rfl := h.length
  have H := Lib.hid h.fit
  have H' := Lib.hid h'.fit
  have HL := Lib.hid hL
  have HB := Lib.hid hb
  have HBK := Lib.hid hbk
  have HE := Lib.hid ei
  have h8i : ¬ (8 : Int) < (n' : Int) := by omega
  have h16i : ¬ (16 : Int) < (n'' : Int) := by omega
  have hfi : (8 : Int) ≤ (ps.length : Int) := by omega
  have b0 : Below w.heap.size w (w.alloc (.cells zeroR 34)) := (Below.refl _ _).alloc (Nat.le_refl _) _
  clear h h' h'' hL hb hbk ei
  go_enter Try.func58, Try.ntmps58
  go_wp2_with (first
    | (go_at_call 48; refine (refPairs_any (W := w) hn HL.out (H.out.below b0) b0).mono ?_; rintro e w1 ⟨A1, c1, rfl, ho1, hB1, hb1⟩; have HK := Lib.hid ((Blk.new w 34 zeroR).below hb1))
    | (go_at_call 93; refine (refKey_bel _ (k := k) hn HB.out HBK.out (H.out.below hB1) (H'.out.below hB1)).mono ?_; rintro e w2 ⟨rfl, hb2⟩; rw [HE.out])
    | (go_at_call 49; refine (bad_any _ 3).mono ?_; rintro e w3 ⟨rfl, hb3⟩; unfold resV; have HK := Lib.hid ((HK.out.below hb2).below hb3); obtain ⟨x0, x1, x2, f0, f1, f2⟩ := three HK.out)
    | fail)
  obtain ⟨k1, k2, k3⟩ := put3 HK.out (.int .i64 3) (.slice none 0 0) (.int .i64 0)
  refine bodyPost_ret (results_tmp_cell_row rfl _ _ _ _ _ _ rfl k1 Try.underlying34 rfl (by kernel_rfl)) rfl ?_
  have hB2 := hB1.trans (hb2.mono hB1.size)
  have h3 := k2 w (Nat.le_refl _) (hB2.trans (hb3.mono hB2.size))
  exact ⟨A1, c1, none, 0, rfl, ((ho1.below hb2).below hb3).put3 HK.out (by decide) (by decide) _ _ _, own_nil _ _, h3, h3⟩
end Go.Proofs.Ytcmjpjhaaookfaa
