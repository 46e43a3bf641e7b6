/- MapsRef4 MapsRef5 -/
import Derived.Test.YtlgpglhbbkikpaaGreatT00
import Derived.Test.YtlgpglhbbkikpaaGreatT03
import Derived.Deep.CutBlock
import Derived.Deep.DeepCutAuto
namespace Go.Proofs.YtlgpglhbbkikpaaGreat
open Go.RowKit
set_option linter.unusedVariables false
def hole (vs : List Value) (i : Nat) (x y : Value) : List Value := vs.take (i * 2) ++ [x, y] ++ vs.drop (i * 2)
theorem hole_set {vs : List Value} {i : Nat} {x y a b : Value} (h : i * 2 <= vs.length) : ((hole vs i x y).set (i * 2) a).set (i * 2 + 1) b = hole vs i a b := by
 unfold hole
 have e : (vs.take (i * 2)).length = i * 2 := by rw [List.length_take]; omega
 rw [List.append_assoc, List.append_assoc, List.set_append_right _ _ (by omega), e, Nat.sub_self, List.set_append_right _ _ (by omega), e, show i * 2 + 1 - i * 2 = 1 by omega]
 rfl
theorem hole_back {vs : List Value} {i : Nat} {a b : Value} (h1 : vs[i * 2]? = some a) (h2 : vs[i * 2 + 1]? = some b) : hole vs (i + 1) a b = hole vs i a b := by
 unfold hole
 have e1 : vs.take ((i + 1) * 2) = vs.take (i * 2) ++ [a, b] := by
  rw [show (i + 1) * 2 = i * 2 + 1 + 1 by omega, List.take_add_one, List.take_add_one, h1, h2]; simp
 have e2 : vs.drop (i * 2) = a :: b :: vs.drop ((i + 1) * 2) := by
  rw [show (i + 1) * 2 = i * 2 + 1 + 1 by omega]
  rw [List.drop_eq_getElem?_toList_append, h1, List.drop_eq_getElem?_toList_append (i := i * 2 + 1), h2]; rfl
 rw [e1, e2]; simp
theorem hole_at {vs : List Value} {i j : Nat} {x y : Value} (h : j < i * 2) (hl : i * 2 <= vs.length) : (hole vs i x y)[j]? = vs[j]? := by
 unfold hole
 rw [List.append_assoc, List.getElem?_append_left (by rw [List.length_take]; omega), List.getElem?_take_of_lt h]
theorem hole_end {vs : List Value} {n : Nat} {x y : Value} (h : vs.length = n * 2) : vs ++ [x, y] = hole vs n x y := by
 unfold hole
 rw [<- h, List.take_length, List.drop_length]; simp
theorem Owns.set {W w : World} {vs : List Value} {qs : List (List Nat)} {A : Option Addr} {c : Nat} {l : List Nat} (h : Owns W w vs qs) (ho : OwnB W w A l.length c l) (i : Nat) : Owns W w (vs.set i (.slice A l.length c)) (qs.set i l) :=
 ⟨by simp [h.len], fun j l' hl => by
   by_cases hij : i = j
   · subst hij
     have hlt : i < qs.length := by
      rcases Nat.lt_or_ge i qs.length with h' | h'
      · exact h'
      · rw [List.getElem?_eq_none (by simpa using h')] at hl; cases hl
     rw [List.getElem?_set_self hlt] at hl
     injection hl with hl
     subst hl
     exact ⟨A, c, by rw [List.getElem?_set_self (by rw [h.len]; exact hlt)], ho⟩
   · rw [List.getElem?_set_ne hij] at hl |-
     exact h.cell j l' hl⟩
theorem flat_setval {ps : List Pr} {i : Nat} {p : Pr} {k v : List Nat} (h : ps[i]? = some p) (hk : p.1 = k) : flat (ps.set i (k, v)) = (flat ps).set (i * 2 + 1) v := by
 induction ps generalizing i with
 | nil => simp at h
 | cons q ps ih =>
   cases i with
   | zero => simp at h; subst h; subst hk; rfl
   | succ i =>
     rw [List.set_cons_succ, flat_cons, flat_cons, ih (by simpa using h), show (i + 1) * 2 + 1 = (i * 2 + 1) + 1 + 1 by omega]; rfl
theorem flat_insert (ps : List Pr) (i : Nat) (k v : List Nat) : flat (ps.take i ++ (k, v) :: ps.drop i) = (flat ps).take (i * 2) ++ [k, v] ++ (flat ps).drop (i * 2) := by
 rw [flat_append, flat_cons, flat_take, flat_drop]; simp
theorem bytesLess_strB {l m : List Nat} (hl : ∀ x ∈ l, x < 256) (hm : ∀ x ∈ m, x < 256) : Go.Op.bytesLess (strB l).toList (strB m).toList = Mp.ltB l m := by
 have e : ∀ l : List Nat, (strB l).toList = l.map UInt8.ofNat := fun l => by
  rw [ByteArray.toList_eq]; unfold strB strOfNums; simp [Function.comp_def]
 rw [e, e]
 induction l generalizing m with
 | nil => cases m <;> rfl
 | cons a l ih =>
   cases m with
   | nil => rfl
   | cons b m =>
     have ha := hl a (by simp)
     have hb := hm b (by simp)
     simp only [List.map_cons, Go.Op.bytesLess, Mp.ltB]
     rw [ih (fun x hx => hl x (by simp [hx])) (fun x hx => hm x (by simp [hx]))]
     have h1 : decide (UInt8.ofNat a < UInt8.ofNat b) = decide (a < b) := by
      rw [decide_eq_decide, UInt8.lt_iff_toNat_lt]; simp; omega
     have h2 : (UInt8.ofNat a == UInt8.ofNat b) = decide (a = b) := by
      rw [Bool.eq_iff_iff, beq_iff_eq, decide_eq_true_iff]
      constructor
      · intro h; have := congrArg UInt8.toNat h; simp at this; omega
      · intro h; rw [h]
     rw [h1, h2]
theorem refPut_long {w : World} {ps : List Pr} {k v : List Nat} {A A' A'' : Option Addr} {n c n' c' n'' c'' B B' B'' : Nat} (hn : n <= 100000) (hL : LimP ps) (hlong : 8 < n' \/ 16 < n'') (h : RdP w B A n ps) (h' : Rd w B' A' n' (bv k)) (h'' : Rd w B'' A'' n'' (bv v)) :
 Calls Tryz.prog 109 #[.slice A n c, .slice A' n' c', .slice A'' n'' c''] w (GotPR w w ps 1 [] 0) := by
 have H := hD h.fit
 have HL := hD hL
 have HLEN := hD h.length
 have b0 : Below w.heap.size w (w.alloc (.cells zeroR 41)) := (Below.refl _ _).alloc lR _
 clear h h' h'' hL
 by_cases h8 : 8 < n'
 · have h8i : (8 : Int) < (n' : Int) := by omega
   clear hlong
   go_enter Tryz.func109, Tryz.ntmps109
   go_wp2_with (first
    | (go_at_call 100; refine (refPairs_any (W := w) hn HL.out (H.out.below b0) b0).mono ?_; rintro e w1 ⟨A1, c1, rfl, ho1, hB1, hb1⟩; have HK := hD ((Blk.new w 41 zeroR).below hb1))
    | (go_at_call 95; refine (bad_any _ 1).mono ?_; rintro e w3 ⟨rfl, hb3⟩; unfold resV; have HK := hD (HK.out.below hb3); obtain ⟨x0, x1, x2, f0, f1, f2⟩ := three HK.out)
    | fail)
   obtain ⟨k1, k2, k3⟩ := put3 HK.out (.int .i64 1) (.slice none 0 0) (.int .i64 0)
   refine bodyPost_ret (results_tmp_cell_row rfl _ _ _ _ _ _ rfl k1 Tryz.underlying41 rfl (by kernel_rfl)) rfl ?_
   have h3 := k2 w lR (hB1.trans (hb3.mono hB1.size))
   exact ⟨A1, c1, none, 0, rfl, (ho1.below hb3).put3 HK.out (by decide) (by decide) _ _ _, own_nil _ _, h3, h3⟩
 · have h8i : ¬ (8 : Int) < (n' : Int) := by omega
   have h16i : (16 : Int) < (n'' : Int) := by omega
   clear hlong
   go_enter Tryz.func109, Tryz.ntmps109
   go_wp2_with (first
    | (go_at_call 100; refine (refPairs_any (W := w) hn HL.out (H.out.below b0) b0).mono ?_; rintro e w1 ⟨A1, c1, rfl, ho1, hB1, hb1⟩; have HK := hD ((Blk.new w 41 zeroR).below hb1))
    | (go_at_call 95; refine (bad_any _ 1).mono ?_; rintro e w3 ⟨rfl, hb3⟩; unfold resV; have HK := hD (HK.out.below hb3); obtain ⟨x0, x1, x2, f0, f1, f2⟩ := three HK.out)
    | fail)
   obtain ⟨k1, k2, k3⟩ := put3 HK.out (.int .i64 1) (.slice none 0 0) (.int .i64 0)
   refine bodyPost_ret (results_tmp_cell_row rfl _ _ _ _ _ _ rfl k1 Tryz.underlying41 rfl (by kernel_rfl)) rfl ?_
   have h3 := k2 w lR (hB1.trans (hb3.mono hB1.size))
   exact ⟨A1, c1, none, 0, rfl, (ho1.below hb3).put3 HK.out (by decide) (by decide) _ _ _, own_nil _ _, h3, h3⟩
set_option maxHeartbeats 2000000 in
set_option maxRecDepth 100000 in
theorem refPut_is {w : World} {ps : List Pr} {k v : List Nat} {A A' A'' : Option Addr} {n c n' c' n'' c'' B B' B'' i : Nat} {p : Pr} (hn : n <= 100000) (hL : LimP ps) (hb : BytesP ps) (hbk : ∀ x ∈ k, x < 256) (h8 : n' <= 8) (h16 : n'' <= 16) (ei : Mp.place (Mp.keys ps) k = (i : Int)) (hp : ps[i]? = some p)
 (h : RdP w B A n ps) (h' : Rd w B' A' n' (bv k)) (h'' : Rd w B'' A'' n'' (bv v)) :
 Calls Tryz.prog 109 #[.slice A n c, .slice A' n' c', .slice A'' n'' c''] w (GotPR w w (ps.set i (p.1, v)) 0 p.2 (ps.length : Int)) := by
 obtain rfl := h.length
 obtain rfl := h''.length
 have hin : i < ps.length := by
  rcases Nat.lt_or_ge i ps.length with h' | h'
  · exact h'
  · rw [List.getElem?_eq_none h'] at hp; cases hp
 have H := hD h.fit
 have H' := hD h'.fit
 have H'' := hD h''.fit
 have HL := hD hL
 have HB := hD hb
 have HBK := hD hbk
 have HE := hD ei
 have HP := hD hp
 have h8i : ¬ (8 : Int) < (n' : Int) := by omega
 have h16i : ¬ (16 : Int) < (v.length : Int) := by omega
 have h0 : (0 : Int) <= (i : Int) := by omega
 have h1 : (i : Int) < (ps.length : Int) := by omega
 have b0 : Below w.heap.size w (w.alloc (.cells zeroR 41)) := (Below.refl _ _).alloc lR _
 clear h h' h'' hL hb hbk ei hp
 go_enter Tryz.func109, Tryz.ntmps109
 go_wp2_with fail
 refine (refPairs_any (W := w) hn HL.out (H.out.below b0) b0).mono ?_
 rintro e w1 ⟨A1, c1, rfl, ⟨vs, hrow, hown⟩, hB1, hb1⟩
 have HK := hD ((Blk.new w 41 zeroR).below hb1)
 go_wp2_with fail
 refine (refKey_bel _ (k := k) hn HB.out HBK.out (H.out.below hB1) (H'.out.below hB1)).mono ?_
 rintro e w2 ⟨rfl, hb2⟩
 rw [HE.out]
 have hrow2 := ownsRow_below hrow hb2
 have hown2 := hown.below hb2
 obtain ⟨A2, c2, hcv, hov⟩ := hown2.cell (i * 2 + 1) p.2 (by rw [flat_val, HP.out]; rfl)
 obtain ⟨g, rfl, hg1, hg2⟩ := own_addrS hrow2 (by omega)
 have hcell := (hrow2.cellAt (i * 2 + 1) (by omega)).trans hcv
 have HROW := hD hrow2
 have HOWN := hD hown2
 have HB2 := hD (hB1.trans (hb2.mono hB1.size))
 have HOV := hD hov
 have HK := hD (HK.out.below hb2)
 have HCV := hD hcv
 clear hrow hown hB1 hb1 hov hcv hrow2 hown2 hb2 hg1 hg2
 go_upto_region 7 with fail
 clear hcell
 go_wp2_with fail
 refine (ownref_any (W := w) (by unfold Lim; omega) (H''.out.below HB2.out) HB2.out).mono ?_
 rintro e w3 ⟨A3, c3, rfl, ho3, hB3, hb3⟩
 have hrow3 := ownsRow_below HROW.out hb3
 have hf := own_frozenS hrow3 (i * 2 + 1)
 have hcl := (hrow3.cellAt (i * 2 + 1) (by omega)).trans HCV.out
 obtain ⟨cur, hbk⟩ : ∃ cur, Blk w3 g 81 cur := by
  rcases own_blk hrow3 with ⟨q1, _⟩ | ⟨g', cur, q1, _, q2⟩
  · cases q1
  · injection q1 with q1; injection q1 with q1; subst q1; exact ⟨cur, q2⟩
 have hg1 : w.heap.size <= g := by
  obtain ⟨g', q1, q2, _⟩ := own_addrS hrow3 (by omega)
  injection q1 with q1; injection q1 with q1; omega
 have HK3 := HK.out.below hb3
 have HK4 := hD (HK3.set_other (i := i * 2 + 1) (u := .slice A3 v.length c3) (HK3.apart hbk (by decide)))
 obtain ⟨x0, x1, x2, f0, f1, f2⟩ := three HK4.out
 have HO4 : Hid (OwnP w (w3.setCell ⟨g, i * 2 + 1, none⟩ (.slice A3 v.length c3)) (some ⟨g, 0, none⟩) ps.length c1 (ps.set i (p.1, v))) := hD
  ⟨vs.set (i * 2 + 1) (.slice A3 v.length c3), (hrow3.stored _ _).1, by rw [flat_setval HP.out rfl]; exact ((HOWN.out.below hb3).set_t hbk (by decide)).set (own_set_t ho3 hbk (by decide)) _⟩
 have HV4 := hD (own_set_t (i := i * 2 + 1) (u := .slice A3 v.length c3) (own_below HOV.out hb3) hbk (by decide))
 have HB4 := hD (hB3.setCell (p := ⟨g, i * 2 + 1, none⟩) hg1 (.slice A3 v.length c3))
 clear hrow3 ho3 hB3 hb3 hbk hg1 HK3
 go_wp2_with fail
 obtain ⟨k1, k2, k3⟩ := put3 HK4.out (.int .i64 0) (.slice A2 p.2.length c2) (.int .i64 (ps.length : Int))
 refine bodyPost_ret (results_tmp_cell_row rfl _ _ _ _ _ _ rfl k1 Tryz.underlying41 rfl (by kernel_rfl)) rfl ?_
 have h3 := k2 w lR HB4.out
 have hel : (ps.set i (p.1, v)).length = ps.length := by simp
 exact ⟨some ⟨g, 0, none⟩, c1, A2, c2, by rw [hel]; rfl, by rw [hel]; exact HO4.out.put3 HK4.out (by decide) (by decide) _ _ _, k3 _ _ _ _ _ _ HV4.out (by decide), h3, h3⟩
theorem refPut_full {w : World} {ps : List Pr} {k v : List Nat} {A A' A'' : Option Addr} {n c n' c' n'' c'' B B' B'' : Nat} (hn : n <= 100000) (hL : LimP ps) (hb : BytesP ps) (hbk : ∀ x ∈ k, x < 256) (h8 : n' <= 8) (h16 : n'' <= 16) (ei : Mp.place (Mp.keys ps) k = -1) (hf : 8 <= n)
 (h : RdP w B A n ps) (h' : Rd w B' A' n' (bv k)) (h'' : Rd w B'' A'' n'' (bv v)) :
 Calls Tryz.prog 109 #[.slice A n c, .slice A' n' c', .slice A'' n'' c''] w (GotPR w w ps 3 [] 0) := by
 obtain rfl := h.length
 have H := hD h.fit
 have H' := hD h'.fit
 have HL := hD hL
 have HB := hD hb
 have HBK := hD hbk
 have HE := hD ei
 have h8i : ¬ (8 : Int) < (n' : Int) := by omega
 have h16i : ¬ (16 : Int) < (n'' : Int) := by omega
 have hfi : (8 : Int) <= (ps.length : Int) := by omega
 have b0 : Below w.heap.size w (w.alloc (.cells zeroR 41)) := (Below.refl _ _).alloc lR _
 clear h h' h'' hL hb hbk ei
 go_enter Tryz.func109, Tryz.ntmps109
 go_wp2_with (first
  | (go_at_call 100; refine (refPairs_any (W := w) hn HL.out (H.out.below b0) b0).mono ?_; rintro e w1 ⟨A1, c1, rfl, ho1, hB1, hb1⟩; have HK := hD ((Blk.new w 41 zeroR).below hb1))
  | (go_at_call 148; refine (refKey_bel _ (k := k) hn HB.out HBK.out (H.out.below hB1) (H'.out.below hB1)).mono ?_; rintro e w2 ⟨rfl, hb2⟩; rw [HE.out])
  | (go_at_call 95; refine (bad_any _ 3).mono ?_; rintro e w3 ⟨rfl, hb3⟩; unfold resV; have HK := hD ((HK.out.below hb2).below hb3); obtain ⟨x0, x1, x2, f0, f1, f2⟩ := three HK.out)
  | fail)
 obtain ⟨k1, k2, k3⟩ := put3 HK.out (.int .i64 3) (.slice none 0 0) (.int .i64 0)
 refine bodyPost_ret (results_tmp_cell_row rfl _ _ _ _ _ _ rfl k1 Tryz.underlying41 rfl (by kernel_rfl)) rfl ?_
 have hB2 := hB1.trans (hb2.mono hB1.size)
 have h3 := k2 w lR (hB2.trans (hb3.mono hB2.size))
 exact ⟨A1, c1, none, 0, rfl, ((ho1.below hb2).below hb3).put3 HK.out (by decide) (by decide) _ _ _, own_nil _ _, h3, h3⟩
end Go.Proofs.YtlgpglhbbkikpaaGreat
