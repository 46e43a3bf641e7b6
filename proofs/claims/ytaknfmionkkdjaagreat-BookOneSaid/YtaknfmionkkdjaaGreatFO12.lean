/- MapsRef3 MapsRef4 MapsRef5 MapsRef6 -/
import Derived.Test.YtaknfmionkkdjaaGreatFO10
import Derived.Deep.CutBlock
import Derived.Deep.DeepCutAuto
namespace Go.Proofs.YtaknfmionkkdjaaGreat
open Go.RowKit
set_option linter.unusedVariables false
theorem refKey_bel (w : World) {A A' : Option Addr} {n c n' c' B B' : Nat} {ps : List Pr} {k : List Nat} (hn : n ≤ 100000) (hb : BytesP ps) (hbk : ∀ x ∈ k, x < 256) (h : RdP w B A n ps) (h' : Rd w B' A' n' (bv k)) :
    Calls Tryz.prog 112 #[.slice A n c, .slice A' n' c'] w fun e w' => e = .returned (.int .i64 (Mp.place (Mp.keys ps) k)) ∧ Below w.heap.size w w' :=
  (refKey_any w hn hb hbk h h').mono fun e w' ⟨h1, m, h2⟩ => ⟨h1, by rw [h2]; exact belowN_d m⟩
theorem Owns.take {W w : World} {vs : List Value} {qs : List (List Nat)} (h : Owns W w vs qs) (k : Nat) : Owns W w (vs.take k) (qs.take k) :=
  ⟨by simp [h.len], fun i l hl => by
    have hi : i < k := by
      rcases Nat.lt_or_ge i k with h' | h'
      · exact h'
      · rw [List.getElem?_eq_none (by simp; omega)] at hl; cases hl
    rw [List.getElem?_take_of_lt hi] at hl ⊢
    exact h.cell i l hl⟩
theorem Owns.drop {W w : World} {vs : List Value} {qs : List (List Nat)} (h : Owns W w vs qs) (k : Nat) : Owns W w (vs.drop k) (qs.drop k) :=
  ⟨by simp [h.len], fun i l hl => by rw [List.getElem?_drop] at hl ⊢; exact h.cell _ l hl⟩
theorem Owns.append {W w : World} {vs vs' : List Value} {qs qs' : List (List Nat)} (h : Owns W w vs qs) (h' : Owns W w vs' qs') : Owns W w (vs ++ vs') (qs ++ qs') :=
  ⟨by simp [h.len, h'.len], fun i l hl => by
    rcases Nat.lt_or_ge i qs.length with hi | hi
    · rw [List.getElem?_append_left hi] at hl
      rw [List.getElem?_append_left (by rw [h.len]; exact hi)]
      exact h.cell i l hl
    · rw [List.getElem?_append_right hi] at hl
      rw [List.getElem?_append_right (by rw [h.len]; exact hi), h.len]
      exact h'.cell _ l hl⟩
theorem flat_erase (ps : List Pr) (i : Nat) : flat (ps.eraseIdx i) = (flat ps).take (i * 2) ++ (flat ps).drop ((i + 1) * 2) := by
  rw [List.eraseIdx_eq_take_drop_succ, flat_append, flat_take, flat_drop]
theorem own_drew {w : World} {base n size : Nat} {e : TypeId} {v : Value} {vs : List Value} (h : w.ownsRow base e size v n vs) : w.drew.ownsRow base e size v n vs := h
set_option maxHeartbeats 2000000 in
set_option maxRecDepth 100000 in
theorem refDel_raw {w : World} {ps : List Pr} {k : List Nat} {A A' : Option Addr} {n c n' c' B B' : Nat} (hn : n ≤ 100000) (hL : LimP ps) (hb : BytesP ps) (hbk : ∀ x ∈ k, x < 256) (h : RdP w B A n ps) (h' : Rd w B' A' n' (bv k)) :
    Calls Tryz.prog 85 #[.slice A n c, .slice A' n' c'] w (GotPR w w (Mp.delS ps k) (Mp.getE ps k) (Mp.getV ps k) 0) := by
  obtain rfl := h.length
  have H := Lib.hid h.fit
  have H' := Lib.hid h'.fit
  have HL := Lib.hid hL
  have HB := Lib.hid hb
  have HBK := Lib.hid hbk
  have b0 : Below w.heap.size w (w.alloc (.cells zeroR 47)) := (Below.refl _ _).alloc (Nat.le_refl _) _
  clear h h' hL hb hbk
  unfold Mp.getE Mp.getV Mp.delS
  by_cases hk : k ∈ Mp.keys ps
  · rw [if_pos hk, if_pos hk, if_pos hk]
    obtain ⟨i, ei, hi, hix⟩ := Mp.place_lt hk
    rw [hix]
    have hin : i < ps.length := by
      have h1 : i < (Mp.keys ps).length := by
        rcases Nat.lt_or_ge i (Mp.keys ps).length with h | h
        · exact h
        · rw [List.getElem?_eq_none h] at hi; cases hi
      rwa [keys_length] at h1
    obtain ⟨p, hp⟩ : ∃ p, ps[i]? = some p := ⟨_, List.getElem?_eq_getElem hin⟩
    have hv : (ps[i]?.map (·.2)).getD [] = p.2 := by rw [hp]; rfl
    rw [hv]
    have HE := Lib.hid ei
    have HP := Lib.hid hp
    have h0 : ¬ (i : Int) < 0 := by omega
    have h1 : (i : Int) < (ps.length : Int) := by omega
    clear hv hix hi ei hp hk
    go_enter Tryz.func85, Tryz.ntmps85
    go_wp2_with fail
    refine (refPairs_any (W := w) hn HL.out (H.out.below b0) b0).mono ?_
    rintro e w1 ⟨A1, c1, rfl, ⟨vs, hrow, hown⟩, hB1, hb1⟩
    have hcap := (own_cap hrow).1
    have HK := Lib.hid ((Blk.new w 47 zeroR).below hb1)
    go_wp2_with fail
    refine (refKey_bel _ (k := k) hn HB.out HBK.out (H.out.below hB1) (H'.out.below hB1)).mono ?_
    rintro e w2 ⟨rfl, hb2⟩
    rw [HE.out]
    have hrow2 := ownsRow_below hrow hb2
    have hown2 := hown.below hb2
    obtain ⟨A2, c2, hcv, hov⟩ := hown2.cell (i * 2 + 1) p.2 (by rw [flat_val, HP.out]; rfl)
    obtain ⟨g, rfl, hg1, hg2⟩ := own_addrS hrow2 (by omega)
    have hcell := (hrow2.cellAt (i * 2 + 1) (by omega)).trans hcv
    have HROW := Lib.hid hrow2
    have HOWN := Lib.hid hown2
    have HB2 := Lib.hid (hB1.trans (hb2.mono hB1.size))
    have HOV := Lib.hid hov
    have HK := Lib.hid (HK.out.below hb2)
    obtain ⟨i0, hi0, _, hi1, _⟩ := info_parts cellP.info
    have q1 : ∀ w : World, (Instr.slice 28 (.slice (some ⟨g, 0, none⟩) ps.length c1) none (some (.int .i64 (i : Int))) none).run Tryz.prog w = .ok (.slice (some ⟨g, 0, none⟩) i c1) w :=
      fun w => run_slice_to (P := Tryz.prog) Tryz.underlying28 hi0 (some ⟨g, 0, none⟩) ps.length c1 i (by omega) w
    have q2 : ∀ w : World, (Instr.slice 28 (.slice (some ⟨g, 0, none⟩) ps.length c1) (some (.int .i64 ((i : Int) + 1))) none none).run Tryz.prog w = .ok (.slice (cutS (some ⟨g, 0, none⟩) c1 (i + 1) 2) (ps.length - (i + 1)) (c1 - (i + 1))) w :=
      fun w => by have := run_slice_fromS_ (P := Tryz.prog) Tryz.underlying28 hi0 hi1 (some ⟨g, 0, none⟩) ps.length c1 (i + 1) (by omega) w; rwa [show (((i + 1 : Nat)) : Int) = (i : Int) + 1 by omega] at this
    have hw1 : IntKind.i64.wrap ((i : Int) + 1) = (i : Int) + 1 := IntWalk.i64_in _ (by omega)
    have HR2 := Lib.hid ((Rd.ownS hrow2 (by omega)).dropS (k := i + 1) (c := c1) (by omega) hcap).drew
    have HPRE := Lib.hid (own_drew (own_prefix hrow2 (k := i) (by omega)))
    have HONE := Lib.hid hown.one
    clear hrow hown hB1 hb1 hov hcv hi0 hi1 hg1 hg2 hrow2 hown2 hb2
    go_upto_region 6 with fail
    clear hcell
    obtain ⟨x0, x1, x2, f0, f1, f2⟩ := three HK.out
    have HROWd := Lib.hid (own_drew HROW.out)
    have HBd := Lib.hid HB2.out.drew
    go_region_law (refine step_append_S (W := w) (A := some ⟨g, 0, none⟩) (n := i) (c := c1) (A' := cutS (some ⟨g, 0, none⟩) c1 (i + 1) 2) (m := ps.length - (i + 1)) (c' := c1 - (i + 1)) cellP (.tmp 25) (.tmp 29) rfl rfl (by simp [Act.eval, Act.put]) HPRE.out (by simp [Act.eval, Act.put]) HR2.out (fun u hu => HONE.out u (List.mem_of_mem_drop hu)) (by omega) (by omega) HBd.out ?_
                   intro A3 c3 w3 hown3 hB3 hg3
                   have HK3 := Lib.hid (HK.out.drew.apart_own HPRE.out (by decide) hg3)
                   clear x0 x1 x2 f0 f1 f2
                   obtain ⟨x0, x1, x2, f0, f1, f2⟩ := three HK3.out)
    all_goals go_wp2
    all_goals
      have hel : (ps.eraseIdx i).length = i + (ps.length - (i + 1)) := by rw [List.length_eraseIdx_of_lt (by omega)]; omega
      obtain ⟨k1, k2, k3⟩ := put3 HK3.out (.int .i64 0) (.slice A2 p.2.length c2) (.int .i64 0)
      refine bodyPost_ret (results_tmp_cell_row rfl _ _ _ _ _ _ rfl k1 Tryz.underlying47 rfl (by kernel_rfl)) rfl ?_
      have ho3 : OwnP w w3 A3 (i + (ps.length - (i + 1))) c3 (ps.eraseIdx i) := ⟨_, hown3, by
        rw [flat_erase]
        exact (((HOWN.out.take (i * 2)).append (HOWN.out.drop ((i + 1) * 2))).below (Below.refl _ _).drew).grownP HPRE.out hg3⟩
      have hv3 := own_grown_t (w := w2.drew) (own_drew HOV.out) HPRE.out (by decide) hg3
      have h3 := k2 w (Nat.le_refl _) hB3
      exact ⟨A3, c3, A2, c2, by rw [hel]; rfl, by rw [hel]; exact ho3.put3 HK3.out (by decide) (by decide) _ _ _, k3 _ _ _ _ _ _ hv3 (by decide), h3, h3⟩
  · rw [if_neg hk, if_neg hk, if_neg hk]
    have HE := Lib.hid (Mp.place_no hk)
    clear hk
    go_enter Tryz.func85, Tryz.ntmps85
    go_wp2_with fail
    refine (refPairs_any (W := w) hn HL.out (H.out.below b0) b0).mono ?_
    rintro e w1 ⟨A1, c1, rfl, ho1, hB1, hb1⟩
    have HK := Lib.hid ((Blk.new w 47 zeroR).below hb1)
    go_wp2_with fail
    refine (refKey_bel _ (k := k) hn HB.out HBK.out (H.out.below hB1) (H'.out.below hB1)).mono ?_
    rintro e w2 ⟨rfl, hb2⟩
    rw [HE.out]
    go_wp2_with (first
      | (go_at_call 69; refine (bad_any _ 5).mono ?_; rintro e w3 ⟨rfl, hb3⟩; unfold resV; have HK := Lib.hid ((HK.out.below hb2).below hb3); obtain ⟨x0, x1, x2, f0, f1, f2⟩ := three HK.out)
      | fail)
    obtain ⟨k1, k2, k3⟩ := put3 HK.out (.int .i64 5) (.slice none 0 0) (.int .i64 0)
    refine bodyPost_ret (results_tmp_cell_row rfl _ _ _ _ _ _ rfl k1 Tryz.underlying47 rfl (by kernel_rfl)) rfl ?_
    have hB2 := hB1.trans (hb2.mono hB1.size)
    have h3 := k2 w (Nat.le_refl _) (hB2.trans (hb3.mono hB2.size))
    exact ⟨A1, c1, none, 0, rfl, ((ho1.below hb2).below hb3).put3 HK.out (by decide) (by decide) _ _ _, own_nil _ _, h3, h3⟩
theorem refDel_any {W w : World} {ps : List Pr} {k : List Nat} {A A' : Option Addr} {n c n' c' B B' : Nat} (hn : n ≤ 100000) (hL : LimP ps) (hb : BytesP ps) (hbk : ∀ x ∈ k, x < 256) (h : RdP w B A n ps) (h' : Rd w B' A' n' (bv k)) (hB : Below W.heap.size W w) :
    Calls Tryz.prog 85 #[.slice A n c, .slice A' n' c'] w (GotPR W w (Mp.delS ps k) (Mp.getE ps k) (Mp.getV ps k) 0) :=
  (refDel_raw hn hL hb hbk h h').mono fun e w' h => GotPR.of hB h
end Go.Proofs.YtaknfmionkkdjaaGreat

namespace Go.Proofs.YtaknfmionkkdjaaGreat
open Go.RowKit
set_option linter.unusedVariables false
/-- the cells vs with two more at place i -/
def hole (vs : List Value) (i : Nat) (x y : Value) : List Value := vs.take (i * 2) ++ [x, y] ++ vs.drop (i * 2)
theorem hole_set {vs : List Value} {i : Nat} {x y a b : Value} (h : i * 2 ≤ vs.length) : ((hole vs i x y).set (i * 2) a).set (i * 2 + 1) b = hole vs i a b := by
  unfold hole
  have e : (vs.take (i * 2)).length = i * 2 := by rw [List.length_take]; omega
  rw [List.append_assoc, List.append_assoc, List.set_append_right _ _ (by omega), e, Nat.sub_self, List.set_append_right _ _ (by omega), e, show i * 2 + 1 - i * 2 = 1 by omega]
  rfl
theorem hole_back {vs : List Value} {i : Nat} {a b : Value} (h1 : vs[i * 2]? = some a) (h2 : vs[i * 2 + 1]? = some b) : hole vs (i + 1) a b = hole vs i a b := by
  unfold hole
  have e1 : vs.take ((i + 1) * 2) = vs.take (i * 2) ++ [a, b] := by
    rw [show (i + 1) * 2 = i * 2 + 1 + 1 by omega, List.take_add_one, List.take_add_one, h1, h2]; simp
  have e2 : vs.drop (i * 2) = a :: b :: vs.drop ((i + 1) * 2) := by
    rw [show (i + 1) * 2 = i * 2 + 1 + 1 by omega]
    rw [List.drop_eq_getElem?_toList_append, h1, List.drop_eq_getElem?_toList_append (i := i * 2 + 1), h2]; rfl
  rw [e1, e2]; simp
theorem hole_at {vs : List Value} {i j : Nat} {x y : Value} (h : j < i * 2) (hl : i * 2 ≤ vs.length) : (hole vs i x y)[j]? = vs[j]? := by
  unfold hole
  rw [List.append_assoc, List.getElem?_append_left (by rw [List.length_take]; omega), List.getElem?_take_of_lt h]
theorem hole_end {vs : List Value} {n : Nat} {x y : Value} (h : vs.length = n * 2) : vs ++ [x, y] = hole vs n x y := by
  unfold hole
  rw [← h, List.take_length, List.drop_length]; simp
theorem Owns.set {W w : World} {vs : List Value} {qs : List (List Nat)} {A : Option Addr} {c : Nat} {l : List Nat} (h : Owns W w vs qs) (ho : OwnB W w A l.length c l) (i : Nat) : Owns W w (vs.set i (.slice A l.length c)) (qs.set i l) :=
  ⟨by simp [h.len], fun j l' hl => by
    by_cases hij : i = j
    · subst hij
      have hlt : i < qs.length := by
        rcases Nat.lt_or_ge i qs.length with h' | h'
        · exact h'
        · rw [List.getElem?_eq_none (by simpa using h')] at hl; cases hl
      rw [List.getElem?_set_self hlt] at hl
      injection hl with hl
      subst hl
      exact ⟨A, c, by rw [List.getElem?_set_self (by rw [h.len]; exact hlt)], ho⟩
    · rw [List.getElem?_set_ne hij] at hl ⊢
      exact h.cell j l' hl⟩
theorem flat_setval {ps : List Pr} {i : Nat} {p : Pr} {k v : List Nat} (h : ps[i]? = some p) (hk : p.1 = k) : flat (ps.set i (k, v)) = (flat ps).set (i * 2 + 1) v := by
  induction ps generalizing i with
  | nil => simp at h
  | cons q ps ih =>
    cases i with
    | zero => simp at h; subst h; subst hk; rfl
    | succ i =>
      rw [List.set_cons_succ, flat_cons, flat_cons, ih (by simpa using h), show (i + 1) * 2 + 1 = (i * 2 + 1) + 1 + 1 by omega]; rfl
theorem flat_insert (ps : List Pr) (i : Nat) (k v : List Nat) : flat (ps.take i ++ (k, v) :: ps.drop i) = (flat ps).take (i * 2) ++ [k, v] ++ (flat ps).drop (i * 2) := by
  rw [flat_append, flat_cons, flat_take, flat_drop]; simp
theorem bytesLess_strB {l m : List Nat} (hl : ∀ x ∈ l, x < 256) (hm : ∀ x ∈ m, x < 256) : Go.Op.bytesLess (strB l).toList (strB m).toList = Mp.ltB l m := by
  have e : ∀ l : List Nat, (strB l).toList = l.map UInt8.ofNat := fun l => by
    rw [ByteArray.toList_eq]; unfold strB strOfNums; simp [Function.comp_def]
  rw [e, e]
  induction l generalizing m with
  | nil => cases m <;> rfl
  | cons a l ih =>
    cases m with
    | nil => rfl
    | cons b m =>
      have ha := hl a (by simp)
      have hb := hm b (by simp)
      simp only [List.map_cons, Go.Op.bytesLess, Mp.ltB]
      rw [ih (fun x hx => hl x (by simp [hx])) (fun x hx => hm x (by simp [hx]))]
      have h1 : decide (UInt8.ofNat a < UInt8.ofNat b) = decide (a < b) := by
        rw [decide_eq_decide, UInt8.lt_iff_toNat_lt]; simp; omega
      have h2 : (UInt8.ofNat a == UInt8.ofNat b) = decide (a = b) := by
        rw [Bool.eq_iff_iff, beq_iff_eq, decide_eq_true_iff]
        constructor
        · intro h; have := congrArg UInt8.toNat h; simp at this; omega
        · intro h; rw [h]
      rw [h1, h2]
end Go.Proofs.YtaknfmionkkdjaaGreat

namespace Go.Proofs.YtaknfmionkkdjaaGreat
open Go.RowKit
set_option linter.unusedVariables false
/-- refused: too long -/
theorem refPut_long {w : World} {ps : List Pr} {k v : List Nat} {A A' A'' : Option Addr} {n c n' c' n'' c'' B B' B'' : Nat} (hn : n ≤ 100000) (hL : LimP ps) (hlong : 8 < n' ∨ 16 < n'') (h : RdP w B A n ps) (h' : Rd w B' A' n' (bv k)) (h'' : Rd w B'' A'' n'' (bv v)) :
    Calls Tryz.prog 83 #[.slice A n c, .slice A' n' c', .slice A'' n'' c''] w (GotPR w w ps 1 [] 0) := by
  have H := Lib.hid h.fit
  have HL := Lib.hid hL
  have HLEN := Lib.hid h.length
  have b0 : Below w.heap.size w (w.alloc (.cells zeroR 47)) := (Below.refl _ _).alloc (Nat.le_refl _) _
  clear h h' h'' hL
  by_cases h8 : 8 < n'
  · have h8i : (8 : Int) < (n' : Int) := by omega
    clear hlong
    go_enter Tryz.func83, Tryz.ntmps83
    go_wp2_with (first
      | (go_at_call 74; refine (refPairs_any (W := w) hn HL.out (H.out.below b0) b0).mono ?_; rintro e w1 ⟨A1, c1, rfl, ho1, hB1, hb1⟩; have HK := Lib.hid ((Blk.new w 47 zeroR).below hb1))
      | (go_at_call 69; refine (bad_any _ 1).mono ?_; rintro e w3 ⟨rfl, hb3⟩; unfold resV; have HK := Lib.hid (HK.out.below hb3); obtain ⟨x0, x1, x2, f0, f1, f2⟩ := three HK.out)
      | fail)
    obtain ⟨k1, k2, k3⟩ := put3 HK.out (.int .i64 1) (.slice none 0 0) (.int .i64 0)
    refine bodyPost_ret (results_tmp_cell_row rfl _ _ _ _ _ _ rfl k1 Tryz.underlying47 rfl (by kernel_rfl)) rfl ?_
    have h3 := k2 w (Nat.le_refl _) (hB1.trans (hb3.mono hB1.size))
    exact ⟨A1, c1, none, 0, rfl, (ho1.below hb3).put3 HK.out (by decide) (by decide) _ _ _, own_nil _ _, h3, h3⟩
  · have h8i : ¬ (8 : Int) < (n' : Int) := by omega
    have h16i : (16 : Int) < (n'' : Int) := by omega
    clear hlong
    go_enter Tryz.func83, Tryz.ntmps83
    go_wp2_with (first
      | (go_at_call 74; refine (refPairs_any (W := w) hn HL.out (H.out.below b0) b0).mono ?_; rintro e w1 ⟨A1, c1, rfl, ho1, hB1, hb1⟩; have HK := Lib.hid ((Blk.new w 47 zeroR).below hb1))
      | (go_at_call 69; refine (bad_any _ 1).mono ?_; rintro e w3 ⟨rfl, hb3⟩; unfold resV; have HK := Lib.hid (HK.out.below hb3); obtain ⟨x0, x1, x2, f0, f1, f2⟩ := three HK.out)
      | fail)
    obtain ⟨k1, k2, k3⟩ := put3 HK.out (.int .i64 1) (.slice none 0 0) (.int .i64 0)
    refine bodyPost_ret (results_tmp_cell_row rfl _ _ _ _ _ _ rfl k1 Tryz.underlying47 rfl (by kernel_rfl)) rfl ?_
    have h3 := k2 w (Nat.le_refl _) (hB1.trans (hb3.mono hB1.size))
    exact ⟨A1, c1, none, 0, rfl, (ho1.below hb3).put3 HK.out (by decide) (by decide) _ _ _, own_nil _ _, h3, h3⟩
set_option maxHeartbeats 2000000 in
set_option maxRecDepth 100000 in
/-- put anew -/
theorem refPut_is {w : World} {ps : List Pr} {k v : List Nat} {A A' A'' : Option Addr} {n c n' c' n'' c'' B B' B'' i : Nat} {p : Pr} (hn : n ≤ 100000) (hL : LimP ps) (hb : BytesP ps) (hbk : ∀ x ∈ k, x < 256) (h8 : n' ≤ 8) (h16 : n'' ≤ 16) (ei : Mp.place (Mp.keys ps) k = (i : Int)) (hp : ps[i]? = some p)
    (h : RdP w B A n ps) (h' : Rd w B' A' n' (bv k)) (h'' : Rd w B'' A'' n'' (bv v)) :
    Calls Tryz.prog 83 #[.slice A n c, .slice A' n' c', .slice A'' n'' c''] w (GotPR w w (ps.set i (p.1, v)) 0 p.2 (ps.length : Int)) := by
  obtain rfl := h.length
  obtain rfl := h''.length
  have hin : i < ps.length := by
    rcases Nat.lt_or_ge i ps.length with h' | h'
    · exact h'
    · rw [List.getElem?_eq_none h'] at hp; cases hp
  have H := Lib.hid h.fit
  have H' := Lib.hid h'.fit
  have H'' := Lib.hid h''.fit
  have HL := Lib.hid hL
  have HB := Lib.hid hb
  have HBK := Lib.hid hbk
  have HE := Lib.hid ei
  have HP := Lib.hid hp
  have h8i : ¬ (8 : Int) < (n' : Int) := by omega
  have h16i : ¬ (16 : Int) < (v.length : Int) := by omega
  have h0 : (0 : Int) ≤ (i : Int) := by omega
  have h1 : (i : Int) < (ps.length : Int) := by omega
  have b0 : Below w.heap.size w (w.alloc (.cells zeroR 47)) := (Below.refl _ _).alloc (Nat.le_refl _) _
  clear h h' h'' hL hb hbk ei hp
  go_enter Tryz.func83, Tryz.ntmps83
  go_wp2_with fail
  refine (refPairs_any (W := w) hn HL.out (H.out.below b0) b0).mono ?_
  rintro e w1 ⟨A1, c1, rfl, ⟨vs, hrow, hown⟩, hB1, hb1⟩
  have HK := Lib.hid ((Blk.new w 47 zeroR).below hb1)
  go_wp2_with fail
  refine (refKey_bel _ (k := k) hn HB.out HBK.out (H.out.below hB1) (H'.out.below hB1)).mono ?_
  rintro e w2 ⟨rfl, hb2⟩
  rw [HE.out]
  have hrow2 := ownsRow_below hrow hb2
  have hown2 := hown.below hb2
  obtain ⟨A2, c2, hcv, hov⟩ := hown2.cell (i * 2 + 1) p.2 (by rw [flat_val, HP.out]; rfl)
  obtain ⟨g, rfl, hg1, hg2⟩ := own_addrS hrow2 (by omega)
  have hcell := (hrow2.cellAt (i * 2 + 1) (by omega)).trans hcv
  have HROW := Lib.hid hrow2
  have HOWN := Lib.hid hown2
  have HB2 := Lib.hid (hB1.trans (hb2.mono hB1.size))
  have HOV := Lib.hid hov
  have HK := Lib.hid (HK.out.below hb2)
  have HCV := Lib.hid hcv
  clear hrow hown hB1 hb1 hov hcv hrow2 hown2 hb2 hg1 hg2
  go_upto_region 7 with fail
  clear hcell
  go_wp2_with fail
  refine (ownref_any (W := w) (by unfold Lim; omega) (H''.out.below HB2.out) HB2.out).mono ?_
  rintro e w3 ⟨A3, c3, rfl, ho3, hB3, hb3⟩
  have hrow3 := ownsRow_below HROW.out hb3
  have hf := own_frozenS hrow3 (i * 2 + 1)
  have hcl := (hrow3.cellAt (i * 2 + 1) (by omega)).trans HCV.out
  obtain ⟨cur, hbk⟩ : ∃ cur, Blk w3 g 55 cur := by
    rcases own_blk hrow3 with ⟨q1, _⟩ | ⟨g', cur, q1, _, q2⟩
    · cases q1
    · injection q1 with q1; injection q1 with q1; subst q1; exact ⟨cur, q2⟩
  have hg1 : w.heap.size ≤ g := by
    obtain ⟨g', q1, q2, _⟩ := own_addrS hrow3 (by omega)
    injection q1 with q1; injection q1 with q1; omega
  have HK3 := HK.out.below hb3
  have HK4 := Lib.hid (HK3.set_other (i := i * 2 + 1) (u := .slice A3 v.length c3) (HK3.apart hbk (by decide)))
  obtain ⟨x0, x1, x2, f0, f1, f2⟩ := three HK4.out
  have HO4 : Hid (OwnP w (w3.setCell ⟨g, i * 2 + 1, none⟩ (.slice A3 v.length c3)) (some ⟨g, 0, none⟩) ps.length c1 (ps.set i (p.1, v))) := Lib.hid
    ⟨vs.set (i * 2 + 1) (.slice A3 v.length c3), (hrow3.stored _ _).1, by rw [flat_setval HP.out rfl]; exact ((HOWN.out.below hb3).set_t hbk (by decide)).set (own_set_t ho3 hbk (by decide)) _⟩
  have HV4 := Lib.hid (own_set_t (i := i * 2 + 1) (u := .slice A3 v.length c3) (own_below HOV.out hb3) hbk (by decide))
  have HB4 := Lib.hid (hB3.setCell (p := ⟨g, i * 2 + 1, none⟩) hg1 (.slice A3 v.length c3))
  clear hrow3 ho3 hB3 hb3 hbk hg1 HK3
  go_wp2_with fail
  obtain ⟨k1, k2, k3⟩ := put3 HK4.out (.int .i64 0) (.slice A2 p.2.length c2) (.int .i64 (ps.length : Int))
  refine bodyPost_ret (results_tmp_cell_row rfl _ _ _ _ _ _ rfl k1 Tryz.underlying47 rfl (by kernel_rfl)) rfl ?_
  have h3 := k2 w (Nat.le_refl _) HB4.out
  have hel : (ps.set i (p.1, v)).length = ps.length := by simp
  exact ⟨some ⟨g, 0, none⟩, c1, A2, c2, by rw [hel]; rfl, by rw [hel]; exact HO4.out.put3 HK4.out (by decide) (by decide) _ _ _, k3 _ _ _ _ _ _ HV4.out (by decide), h3, h3⟩
/-- refused: full -/
theorem refPut_full {w : World} {ps : List Pr} {k v : List Nat} {A A' A'' : Option Addr} {n c n' c' n'' c'' B B' B'' : Nat} (hn : n ≤ 100000) (hL : LimP ps) (hb : BytesP ps) (hbk : ∀ x ∈ k, x < 256) (h8 : n' ≤ 8) (h16 : n'' ≤ 16) (ei : Mp.place (Mp.keys ps) k = -1) (hf : 8 ≤ n)
    (h : RdP w B A n ps) (h' : Rd w B' A' n' (bv k)) (h'' : Rd w B'' A'' n'' (bv v)) :
    Calls Tryz.prog 83 #[.slice A n c, .slice A' n' c', .slice A'' n'' c''] w (GotPR w w ps 3 [] 0) := by
  obtain rfl := h.length
  have H := Lib.hid h.fit
  have H' := Lib.hid h'.fit
  have HL := Lib.hid hL
  have HB := Lib.hid hb
  have HBK := Lib.hid hbk
  have HE := Lib.hid ei
  have h8i : ¬ (8 : Int) < (n' : Int) := by omega
  have h16i : ¬ (16 : Int) < (n'' : Int) := by omega
  have hfi : (8 : Int) ≤ (ps.length : Int) := by omega
  have b0 : Below w.heap.size w (w.alloc (.cells zeroR 47)) := (Below.refl _ _).alloc (Nat.le_refl _) _
  clear h h' h'' hL hb hbk ei
  go_enter Tryz.func83, Tryz.ntmps83
  go_wp2_with (first
    | (go_at_call 74; refine (refPairs_any (W := w) hn HL.out (H.out.below b0) b0).mono ?_; rintro e w1 ⟨A1, c1, rfl, ho1, hB1, hb1⟩; have HK := Lib.hid ((Blk.new w 47 zeroR).below hb1))
    | (go_at_call 112; refine (refKey_bel _ (k := k) hn HB.out HBK.out (H.out.below hB1) (H'.out.below hB1)).mono ?_; rintro e w2 ⟨rfl, hb2⟩; rw [HE.out])
    | (go_at_call 69; refine (bad_any _ 3).mono ?_; rintro e w3 ⟨rfl, hb3⟩; unfold resV; have HK := Lib.hid ((HK.out.below hb2).below hb3); obtain ⟨x0, x1, x2, f0, f1, f2⟩ := three HK.out)
    | fail)
  obtain ⟨k1, k2, k3⟩ := put3 HK.out (.int .i64 3) (.slice none 0 0) (.int .i64 0)
  refine bodyPost_ret (results_tmp_cell_row rfl _ _ _ _ _ _ rfl k1 Tryz.underlying47 rfl (by kernel_rfl)) rfl ?_
  have hB2 := hB1.trans (hb2.mono hB1.size)
  have h3 := k2 w (Nat.le_refl _) (hB2.trans (hb3.mono hB2.size))
  exact ⟨A1, c1, none, 0, rfl, ((ho1.below hb2).below hb3).put3 HK.out (by decide) (by decide) _ _ _, own_nil _ _, h3, h3⟩
end Go.Proofs.YtaknfmionkkdjaaGreat

namespace Go.Proofs.YtaknfmionkkdjaaGreat
open Go.RowKit
set_option linter.unusedVariables false
theorem hole_mid {vs : List Value} {i : Nat} {x y : Value} (hl : i * 2 ≤ vs.length) : (hole vs i x y)[i * 2]? = some x ∧ (hole vs i x y)[i * 2 + 1]? = some y := by
  unfold hole
  have e : (vs.take (i * 2)).length = i * 2 := by rw [List.length_take]; omega
  rw [List.append_assoc]
  constructor
  · rw [List.getElem?_append_right (by omega), e, Nat.sub_self]; rfl
  · rw [List.getElem?_append_right (by omega), e, show i * 2 + 1 - i * 2 = 1 by omega]; rfl
/-- what the loop of an insertion keeps: the hole is at i -/
structure Ins (w wr : World) (A : Option Addr) (c n i : Nat) (vs : List Value) (ps : List Pr) (k : List Nat) (x y : Value) : Prop where
  row : wr.ownsRow w.heap.size 55 2 (.slice A (n + 1) c) (n + 1) (hole vs i x y)
  own : Owns w wr vs (flat ps)
  up : ∀ (j : Nat) (p : Pr), i ≤ j → ps[j]? = some p → Mp.ltB k p.1 = true
  res : Blk wr w.heap.size 47 zeroR
  bel : Below w.heap.size w wr
  le : i ≤ n
theorem Ins.drewN {w wr : World} {A : Option Addr} {c n i : Nat} {vs : List Value} {ps : List Pr} {k : List Nat} {x y : Value} (h : Ins w wr A c n i vs ps k x y) (m : Nat) : Ins w (wr.drewN m) A c n i vs ps k x y :=
  ⟨ownsRow_below h.row (belowN_d m), h.own.below (belowN_d m), h.up, h.res.below (belowN_d m), belowN_ h.bel m, h.le⟩
/-- two cells of the hole are stored -/
theorem Ins.store {w wr : World} {c n i g : Nat} {vs : List Value} {ps : List Pr} {k : List Nat} {x y a b : Value} (h : Ins w wr (some ⟨g, 0, none⟩) c n i vs ps k x y) (hl : vs.length = n * 2) :
    ((wr.setCell ⟨g, i * 2, none⟩ a).setCell ⟨g, i * 2 + 1, none⟩ b).ownsRow w.heap.size 55 2 (.slice (some ⟨g, 0, none⟩) (n + 1) c) (n + 1) (hole vs i a b) ∧
    Owns w ((wr.setCell ⟨g, i * 2, none⟩ a).setCell ⟨g, i * 2 + 1, none⟩ b) vs (flat ps) ∧ Blk ((wr.setCell ⟨g, i * 2, none⟩ a).setCell ⟨g, i * 2 + 1, none⟩ b) w.heap.size 47 zeroR ∧
    Below w.heap.size w ((wr.setCell ⟨g, i * 2, none⟩ a).setCell ⟨g, i * 2 + 1, none⟩ b) ∧
    (∀ {A : Option Addr} {m c : Nat} {l : List Nat}, OwnB w wr A m c l → OwnB w ((wr.setCell ⟨g, i * 2, none⟩ a).setCell ⟨g, i * 2 + 1, none⟩ b) A m c l) := by
  obtain ⟨cur, hbk⟩ : ∃ cur, Blk wr g 55 cur := by
    rcases own_blk h.row with ⟨q1, _⟩ | ⟨g', cur, q1, _, q2⟩
    · cases q1
    · injection q1 with q1; injection q1 with q1; subst q1; exact ⟨cur, q2⟩
  have hg1 : w.heap.size ≤ g := by
    obtain ⟨g', q1, q2, _⟩ := own_addrS h.row (by omega)
    injection q1 with q1; injection q1 with q1; omega
  have hne := h.res.apart hbk (by decide)
  have hbk2 := hbk.set_ (i * 2) a
  have hle := h.le
  refine ⟨?_, (h.own.set_t hbk (by decide)).set_t hbk2 (by decide), (h.res.set_other hne).set_other hne, (h.bel.setCell hg1 _).setCell hg1 _, fun ho => own_set_t (own_set_t ho hbk (by decide)) hbk2 (by decide)⟩
  have := ((h.row.stored (i * 2) a).1.stored (i * 2 + 1) b).1
  rwa [hole_set (by omega)] at this
set_option maxHeartbeats 4000000 in
set_option maxRecDepth 100000 in
theorem refPut_new {w : World} {ps : List Pr} {k v : List Nat} {A A' A'' : Option Addr} {n c n' c' n'' c'' B B' B'' : Nat} (hn : n ≤ 100000) (hL : LimP ps) (hb : BytesP ps) (hbk : ∀ x ∈ k, x < 256) (hrise : Mp.Rises ps) (h8 : n' ≤ 8) (h16 : n'' ≤ 16) (hnk : k ∉ Mp.keys ps) (hf : n < 8)
    (h : RdP w B A n ps) (h' : Rd w B' A' n' (bv k)) (h'' : Rd w B'' A'' n'' (bv v)) :
    Calls Tryz.prog 83 #[.slice A n c, .slice A' n' c', .slice A'' n'' c''] w (GotPR w w (ps.take (Mp.cut ps k) ++ (k, v) :: ps.drop (Mp.cut ps k)) 0 [] ((ps.length + 1 : Nat) : Int)) := by
  obtain rfl := h.length
  obtain rfl := h'.length
  obtain rfl := h''.length
  have H := Lib.hid h.fit
  have H' := Lib.hid h'.fit
  have H'' := Lib.hid h''.fit
  have HL := Lib.hid hL
  have HB := Lib.hid hb
  have HBK := Lib.hid hbk
  have HRI := Lib.hid hrise
  have HNK := Lib.hid hnk
  have HE := Lib.hid (Mp.place_no hnk)
  have h8i : ¬ (8 : Int) < (k.length : Int) := by omega
  have h16i : ¬ (16 : Int) < (v.length : Int) := by omega
  have hfi : ¬ (8 : Int) ≤ (ps.length : Int) := by omega
  have b0 : Below w.heap.size w (w.alloc (.cells zeroR 47)) := (Below.refl _ _).alloc (Nat.le_refl _) _
  clear h h' h'' hL hb hbk hrise hnk
  go_enter Tryz.func83, Tryz.ntmps83
  go_upto_block 0 with (first
    | (go_at_call 74; refine (refPairs_any (W := w) hn HL.out (H.out.below b0) b0).mono ?_; rintro e w1 ⟨A1, c1, rfl, ⟨vs, hrow, hown⟩, hB1, hb1⟩; have HK := Lib.hid ((Blk.new w 47 zeroR).below hb1))
    | (go_at_call 112; refine (refKey_bel _ (k := k) hn HB.out HBK.out (H.out.below hB1) (H'.out.below hB1)).mono ?_; rintro e w2 ⟨rfl, hb2⟩; rw [HE.out]; have hrow2 := ownsRow_below hrow hb2; have hB2 := hB1.trans (hb2.mono hB1.size))
    | (at_builtin
       refine wpList_append_S (W := w) cellP (.tmp 52) (.tmp 54) rfl (by rfl) rfl (ownsRow_below hrow2 ((Below.refl _ _).alloc (Nat.le_refl _) _)) rfl (Rd.twoAt _ _ _ _ rfl) (by intro u hu; simp at hu; rcases hu with rfl | rfl <;> rfl) (by omega) (by omega) (hB2.alloc hB2.size _) ?_
       intro A3 c3 w3 hown3 hB3 hg3)
    | fail)
  obtain ⟨g, rfl, hg1, hg2⟩ := own_addrS hown3 (by omega)
  have hvl : vs.length = ps.length * 2 := hrow.1
  have HI3 : Hid (Ins w w3 (some ⟨g, 0, none⟩) c3 ps.length ps.length vs ps k (.slice none 0 0) (.slice none 0 0)) := Lib.hid (by
    have b1 : Below w2.heap.size w2 (w2.alloc (.cells #[.slice none 0 0, .slice none 0 0] 55)) := (Below.refl _ _).alloc (Nat.le_refl _) _
    have hrow1 := ownsRow_below hrow2 b1
    refine ⟨?_, ((hown.below hb2).below b1).grownP hrow1 hg3, fun j p hj hp => ?_, ((HK.out.below hb2).below b1).apart_own hrow1 (by decide) hg3, hB3, Nat.le_refl _⟩
    · rw [← hole_end hvl]; exact hown3
    · rw [List.getElem?_eq_none hj] at hp; cases hp)
  have HOWN := Lib.hid hown
  have HVL := Lib.hid hvl
  clear hrow hown hB1 hb1 hb2 hrow2 hB2 hown3 hB3 hg3 hg1 hg2 hvl HK
  rename World => w3
  go_cut [11] from 56 to 79 (fun s11 wx => ∃ (i : Nat) (x y : Value), s11 = .int .i64 (i : Int) ∧ Hid (Ins w wx (some ⟨g, 0, none⟩) c3 ps.length i vs ps k x y) ∧ Hid (i = 0 ∨ ∃ p, ps[i - 1]? = some p ∧ Mp.ltB k p.1 = false))
  case first =>
    go_wp2_with fail
    go_loopw [11] (fun s11 wr => ∃ (i : Nat) (x y : Value), s11 = .int .i64 (i : Int) ∧ Hid (Ins w wr (some ⟨g, 0, none⟩) c3 ps.length i vs ps k x y)) (fun s11 _ => (intOf s11).toNat)
    case atStart => exact ⟨_, _, _, rfl, HI3⟩
    case round =>
      clear HI3
      obtain ⟨i, x, y, rfl, HI⟩ := hrel
      cases i with
      | zero =>
        go_upto_region 13 with fail
        go_quiet (fail)
        go_wp2_with fail
        go_meet
        exact ⟨0, x, y, rfl, Lib.hid (HI.out.drewN _), Lib.hid (.inl rfl)⟩
      | succ i =>
        have hle := HI.out.le
        obtain ⟨p, hp⟩ : ∃ p, ps[i]? = some p := ⟨_, List.getElem?_eq_getElem (by omega)⟩
        obtain ⟨A4, c4, hv1, ho4⟩ := HI.out.own.cell (i * 2) p.1 (by rw [flat_key, hp]; rfl)
        obtain ⟨A5, c5, hv2, ho5⟩ := HI.out.own.cell (i * 2 + 1) p.2 (by rw [flat_val, hp]; rfl)
        have hc1 := (HI.out.row.cellAt (i * 2) (by omega)).trans ((hole_at (by omega) (by have := HVL.out; omega)).trans hv1)
        have hc2 := (HI.out.row.cellAt (i * 2 + 1) (by omega)).trans ((hole_at (by omega) (by have := HVL.out; omega)).trans hv2)
        have hs1 := fun q => str_of (c := c4) ((Rd.own_ ho4).drewN q)
        have hs2 := fun q => str_of (c := c') ((H'.out.below HI.out.bel).drewN q)
        have hs3 := bytesLess_strB HBK.out (HB.out p (List.mem_of_getElem? hp)).1
        have hsub : IntKind.i64.wrap (i : Int) = (i : Int) := IntWalk.i64_in _ (by omega)
        have hpos : (0 : Int) < (i : Int) + 1 := by omega
        have hin : (i : Int) < (ps.length : Int) + 1 := by omega
        have hin2 : (i : Int) + 1 < (ps.length : Int) + 1 := by omega
        have hcx := (HI.out.row.cellAt ((i + 1) * 2) (by omega)).trans (hole_mid (by have := HVL.out; omega)).1
        have hcy := (HI.out.row.cellAt ((i + 1) * 2 + 1) (by omega)).trans (hole_mid (by have := HVL.out; omega)).2
        have hf1 := own_frozenS HI.out.row ((i + 1) * 2)
        have hf2 := own_frozenS HI.out.row ((i + 1) * 2 + 1)
        have HP := Lib.hid hp
        have HV1 := Lib.hid hv1
        have HV2 := Lib.hid hv2
        clear hp hv1 hv2 ho4 ho5
        by_cases hlt : Mp.ltB k p.1 = true
        · rw [hlt] at hs3
          have HLT := Lib.hid hlt
          clear hlt
          go_upto_region 13 with fail
          go_quiet (fail)
          go_wp2_with fail
          go_roundw
          case rel =>
            have h := ((HI.out.drewN nq).store (a := .slice A4 p.1.length c4) (b := .slice A5 p.2.length c5) HVL.out)
            refine ⟨i, .slice A4 p.1.length c4, .slice A5 p.2.length c5, by go_num, Lib.hid ⟨by rw [← hole_back HV1.out HV2.out]; exact h.1, h.2.1, fun j q hj hq => ?_, h.2.2.1, h.2.2.2.1, by omega⟩⟩
            rcases Nat.lt_or_ge i j with h4 | h4
            · exact HI.out.up j q (by omega) hq
            · obtain rfl : j = i := by omega
              rw [HP.out] at hq
              injection hq with hq
              subst hq
              exact HLT.out
          case measure => simp [intOf]
        · have hlt2 : Mp.ltB k p.1 = false := by simpa using hlt
          rw [hlt2] at hs3
          have HLT := Lib.hid hlt2
          clear hlt hlt2
          go_upto_region 13 with fail
          go_quiet (fail)
          go_wp2_with fail
          go_meet
          exact ⟨i + 1, x, y, by simp, Lib.hid (HI.out.drewN _), Lib.hid (.inr ⟨p, HP.out, HLT.out⟩)⟩
  case rest =>
    obtain ⟨i, x, y, rfl, HI, HD⟩ := hcut
    clear HI3
    rename World => wd
    have hle := HI.out.le
    have hin : (i : Int) < (ps.length : Int) + 1 := by omega
    go_wp2_with fail
    refine (ownref_any (W := w) (by unfold Lim; omega) (H'.out.below HI.out.bel) HI.out.bel).mono ?_
    rintro e w4 ⟨A4, c4, rfl, ho4, hB4, hb4⟩
    go_wp2_with fail
    refine (ownref_any (W := w) (by unfold Lim; omega) (H''.out.below hB4) hB4).mono ?_
    rintro e w5 ⟨A5, c5, rfl, ho5, hB5, hb5⟩
    have hbb := hb4.trans (hb5.mono hb4.size)
    have HI5 : Hid (Ins w w5 (some ⟨g, 0, none⟩) c3 ps.length i vs ps k x y) := Lib.hid ⟨ownsRow_below HI.out.row hbb, HI.out.own.below hbb, HI.out.up, HI.out.res.below hbb, hB5, hle⟩
    have hcx := (HI5.out.row.cellAt (i * 2) (by omega)).trans (hole_mid (by have := HVL.out; omega)).1
    have hcy := (HI5.out.row.cellAt (i * 2 + 1) (by omega)).trans (hole_mid (by have := HVL.out; omega)).2
    have hf1 := own_frozenS HI5.out.row (i * 2)
    have hf2 := own_frozenS HI5.out.row (i * 2 + 1)
    have HO4 := Lib.hid (own_below ho4 hb5)
    have HO5 := Lib.hid ho5
    have HST := Lib.hid (HI5.out.store (a := .slice A4 k.length c4) (b := .slice A5 v.length c5) HVL.out)
    have hwl : IntKind.i64.wrap ((ps.length : Int) + 1) = (ps.length : Int) + 1 := IntWalk.i64_in _ (by omega)
    clear ho4 hB4 hb4 ho5 hB5 hb5 hbb
    go_upto_region 17 with fail
    clear hcx hcy hf1 hf2
    obtain ⟨x0, x1, x2, f0, f1, f2⟩ := three HST.out.2.2.1
    go_wp2_with fail
    obtain ⟨k1, k2, k3⟩ := put3 HST.out.2.2.1 (.int .i64 0) (.slice none 0 0) (.int .i64 ((ps.length : Int) + 1))
    refine bodyPost_ret (results_tmp_cell_row rfl _ _ _ _ _ _ rfl k1 Tryz.underlying47 rfl (by kernel_rfl)) rfl ?_
    have hcut : Mp.cut ps k = i := by
      refine Mp.cut_is hle (fun j p hj hp => ?_) (fun p hp => ?_)
      · rcases HD.out with h0 | ⟨q, hq, hlt⟩
        · omega
        · have hne : q.1 ≠ k := fun e => HNK.out (by unfold Mp.keys; exact List.mem_map.2 ⟨q, List.mem_of_getElem? hq, e⟩)
          have hqk : Mp.ltB q.1 k = true := by
            cases hh : Mp.ltB q.1 k with
            | true => rfl
            | false => exact absurd (Mp.ltB_total hh hlt) hne
          rcases Nat.lt_or_ge j (i - 1) with h4 | h4
          · have hj2 : j < ps.length := by omega
            have hi2 : i - 1 < ps.length := by omega
            have := List.pairwise_iff_getElem.1 HRI.out j (i - 1) hj2 hi2 h4
            rw [List.getElem?_eq_getElem hj2] at hp
            rw [List.getElem?_eq_getElem hi2] at hq
            injection hp with hp
            injection hq with hq
            rw [hp, hq] at this
            exact Mp.ltB_trans this hqk
          · obtain rfl : j = i - 1 := by omega
            rw [hq] at hp
            injection hp with hp
            rw [← hp]; exact hqk
      · have := HI.out.up i p (Nat.le_refl _) hp
        cases hh : Mp.ltB p.1 k with
        | false => rfl
        | true => have h5 := Mp.ltB_trans this hh; rw [Mp.ltB_irrefl] at h5; cases h5
    rw [hcut]
    have hel : (ps.take i ++ (k, v) :: ps.drop i).length = ps.length + 1 := by simp; omega
    have hop : OwnP w _ (some ⟨g, 0, none⟩) (ps.length + 1) c3 (ps.take i ++ (k, v) :: ps.drop i) := ⟨_, HST.out.1, by
      rw [flat_insert]
      unfold hole
      rw [List.append_assoc, List.append_assoc]
      have h6 := ((HST.out.2.1.take (i * 2)).two (HST.out.2.2.2.2 HO4.out) (HST.out.2.2.2.2 HO5.out)).append (HST.out.2.1.drop (i * 2))
      simpa using h6⟩
    have h3 := k2 w (Nat.le_refl _) HST.out.2.2.2.1
    exact ⟨some ⟨g, 0, none⟩, c3, none, 0, by rw [hel]; rfl, by rw [hel]; exact hop.put3 HST.out.2.2.1 (by decide) (by decide) _ _ _, own_nil _ _, h3, h3⟩
theorem refPut_any {W w : World} {ps : List Pr} {k v : List Nat} {A A' A'' : Option Addr} {n c n' c' n'' c'' B B' B'' : Nat} (hn : n ≤ 100000) (hL : LimP ps) (hb : BytesP ps) (hbk : ∀ x ∈ k, x < 256) (hrise : Mp.Rises ps)
    (h : RdP w B A n ps) (h' : Rd w B' A' n' (bv k)) (h'' : Rd w B'' A'' n'' (bv v)) (hB : Below W.heap.size W w) :
    Calls Tryz.prog 83 #[.slice A n c, .slice A' n' c', .slice A'' n'' c''] w (GotPR W w (Mp.putS ps k v) (Mp.putE ps k v) (Mp.putV ps k v) (Mp.putN ps k v)) := by
  suffices h1 : Calls Tryz.prog 83 #[.slice A n c, .slice A' n' c', .slice A'' n'' c''] w (GotPR w w (Mp.putS ps k v) (Mp.putE ps k v) (Mp.putV ps k v) (Mp.putN ps k v)) from h1.mono fun e w' h => GotPR.of hB h
  have hl := h.length
  have hl' := h'.length
  have hl'' := h''.length
  unfold Mp.putS Mp.putE Mp.putV Mp.putN
  by_cases hlong : 8 < k.length ∨ 16 < v.length
  · rw [if_pos hlong, if_pos hlong, if_pos hlong, if_pos hlong]
    exact refPut_long hn hL (by rw [← hl', ← hl'']; exact hlong) h h' h''
  · rw [if_neg hlong, if_neg hlong, if_neg hlong, if_neg hlong]
    by_cases hk : k ∈ Mp.keys ps
    · rw [if_pos hk, if_pos hk, if_pos hk, if_pos hk]
      obtain ⟨i, ei, hi, hix⟩ := Mp.place_lt hk
      rw [hix]
      have hin : i < ps.length := by
        have h1 : i < (Mp.keys ps).length := by
          rcases Nat.lt_or_ge i (Mp.keys ps).length with h | h
          · exact h
          · rw [List.getElem?_eq_none h] at hi; cases hi
        rwa [keys_length] at h1
      obtain ⟨p, hp⟩ : ∃ p, ps[i]? = some p := ⟨_, List.getElem?_eq_getElem hin⟩
      have hpk : p.1 = k := by rw [keys_at hp] at hi; injection hi
      have hv : (ps[i]?.map (·.2)).getD [] = p.2 := by rw [hp]; rfl
      have := refPut_is (c := c) (c' := c') (c'' := c'') hn hL hb hbk (by omega) (by omega) ei hp h h' h''
      rw [hpk] at this
      rw [hv]
      exact this
    · rw [if_neg hk, if_neg hk, if_neg hk, if_neg hk]
      by_cases hf : 8 ≤ ps.length
      · rw [if_pos hf, if_pos hf, if_pos hf]
        exact refPut_full hn hL hb hbk (by omega) (by omega) (Mp.place_no hk) (by omega) h h' h''
      · rw [if_neg hf, if_neg hf, if_neg hf]
        exact refPut_new hn hL hb hbk hrise (by omega) (by omega) hk (by omega) h h' h''
end Go.Proofs.YtaknfmionkkdjaaGreat

