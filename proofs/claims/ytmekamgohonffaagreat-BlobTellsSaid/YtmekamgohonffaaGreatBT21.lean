/- MapsRef3 MapsRef4 -/
import Derived.Test.YtmekamgohonffaaGreatBT00
import Derived.Test.YtmekamgohonffaaGreatBT09
import Derived.Deep.CutBlock
import Derived.Deep.DeepCutAuto
namespace Go.Proofs.YtmekamgohonffaaGreat
open Go.RowKit
set_option linter.unusedVariables false
theorem refKey_bel (w : World) {A A' : Option Addr} {n c n' c' B B' : Nat} {ps : List Pr} {k : List Nat} (hn : n <= 100000) (hb : BytesP ps) (hbk : ∀ x ∈ k, x < 256) (h : RdP w B A n ps) (h' : Rd w B' A' n' (bv k)) :
 Calls Tryz.prog 121 #[.slice A n c, .slice A' n' c'] w fun e w' => e = .returned (.int .i64 (Mp.place (Mp.keys ps) k)) /\ Below w.heap.size w w' :=
 (refKey_any w hn hb hbk h h').mono fun e w' ⟨h1, m, h2⟩ => ⟨h1, by rw [h2]; exact belowN_d m⟩
theorem Owns.take {W w : World} {vs : List Value} {qs : List (List Nat)} (h : Owns W w vs qs) (k : Nat) : Owns W w (vs.take k) (qs.take k) :=
 ⟨by simp [h.len], fun i l hl => by
   have hi : i < k := by
    rcases Nat.lt_or_ge i k with h' | h'
    · exact h'
    · rw [List.getElem?_eq_none (by simp; omega)] at hl; cases hl
   rw [List.getElem?_take_of_lt hi] at hl |-
   exact h.cell i l hl⟩
theorem Owns.drop {W w : World} {vs : List Value} {qs : List (List Nat)} (h : Owns W w vs qs) (k : Nat) : Owns W w (vs.drop k) (qs.drop k) :=
 ⟨by simp [h.len], fun i l hl => by rw [List.getElem?_drop] at hl |-; exact h.cell _ l hl⟩
theorem Owns.append {W w : World} {vs vs' : List Value} {qs qs' : List (List Nat)} (h : Owns W w vs qs) (h' : Owns W w vs' qs') : Owns W w (vs ++ vs') (qs ++ qs') :=
 ⟨by simp [h.len, h'.len], fun i l hl => by
   rcases Nat.lt_or_ge i qs.length with hi | hi
   · rw [List.getElem?_append_left hi] at hl
     rw [List.getElem?_append_left (by rw [h.len]; exact hi)]
     exact h.cell i l hl
   · rw [List.getElem?_append_right hi] at hl
     rw [List.getElem?_append_right (by rw [h.len]; exact hi), h.len]
     exact h'.cell _ l hl⟩
theorem flat_erase (ps : List Pr) (i : Nat) : flat (ps.eraseIdx i) = (flat ps).take (i * 2) ++ (flat ps).drop ((i + 1) * 2) := by
 rw [List.eraseIdx_eq_take_drop_succ, flat_append, flat_take, flat_drop]
theorem own_drew {w : World} {base n size : Nat} {e : TypeId} {v : Value} {vs : List Value} (h : w.ownsRow base e size v n vs) : w.drew.ownsRow base e size v n vs := h
set_option maxHeartbeats 2000000 in
set_option maxRecDepth 100000 in
theorem refDel_raw {w : World} {ps : List Pr} {k : List Nat} {A A' : Option Addr} {n c n' c' B B' : Nat} (hn : n <= 100000) (hL : LimP ps) (hb : BytesP ps) (hbk : ∀ x ∈ k, x < 256) (h : RdP w B A n ps) (h' : Rd w B' A' n' (bv k)) :
 Calls Tryz.prog 114 #[.slice A n c, .slice A' n' c'] w (GotPR w w (Mp.delS ps k) (Mp.getE ps k) (Mp.getV ps k) 0) := by
 obtain rfl := h.length
 have H := hD h.fit
 have H' := hD h'.fit
 have HL := hD hL
 have HB := hD hb
 have HBK := hD hbk
 have b0 : Below w.heap.size w (w.alloc (.cells zeroR 77)) := (Below.refl _ _).alloc lR _
 clear h h' hL hb hbk
 unfold Mp.getE Mp.getV Mp.delS
 by_cases hk : k ∈ Mp.keys ps
 · rw [if_pos hk, if_pos hk, if_pos hk]
   obtain ⟨i, ei, hi, hix⟩ := Mp.place_lt hk
   rw [hix]
   have hin : i < ps.length := by
    have h1 : i < (Mp.keys ps).length := by
     rcases Nat.lt_or_ge i (Mp.keys ps).length with h | h
     · exact h
     · rw [List.getElem?_eq_none h] at hi; cases hi
    rwa [keys_length] at h1
   obtain ⟨p, hp⟩ : ∃ p, ps[i]? = some p := ⟨_, List.getElem?_eq_getElem hin⟩
   have hv : (ps[i]?.map (·.2)).getD [] = p.2 := by rw [hp]; rfl
   rw [hv]
   have HE := hD ei
   have HP := hD hp
   have h0 : ¬ (i : Int) < 0 := by omega
   have h1 : (i : Int) < (ps.length : Int) := by omega
   clear hv hix hi ei hp hk
   go_enter Tryz.func114, Tryz.ntmps114
   go_wp2_with fail
   refine (refPairs_any (W := w) hn HL.out (H.out.below b0) b0).mono ?_
   rintro e w1 ⟨A1, c1, rfl, ⟨vs, hrow, hown⟩, hB1, hb1⟩
   have hcap := (own_cap hrow).1
   have HK := hD ((Blk.new w 77 zeroR).below hb1)
   go_wp2_with fail
   refine (refKey_bel _ (k := k) hn HB.out HBK.out (H.out.below hB1) (H'.out.below hB1)).mono ?_
   rintro e w2 ⟨rfl, hb2⟩
   rw [HE.out]
   have hrow2 := ownsRow_below hrow hb2
   have hown2 := hown.below hb2
   obtain ⟨A2, c2, hcv, hov⟩ := hown2.cell (i * 2 + 1) p.2 (by rw [flat_val, HP.out]; rfl)
   obtain ⟨g, rfl, hg1, hg2⟩ := own_addrS hrow2 (by omega)
   have hcell := (hrow2.cellAt (i * 2 + 1) (by omega)).trans hcv
   have HROW := hD hrow2
   have HOWN := hD hown2
   have HB2 := hD (hB1.trans (hb2.mono hB1.size))
   have HOV := hD hov
   have HK := hD (HK.out.below hb2)
   obtain ⟨i0, hi0, _, hi1, _⟩ := info_parts cellP.info
   have q1 : ∀ w : World, (Instr.slice 26 (.slice (some ⟨g, 0, none⟩) ps.length c1) none (some (.int .i64 (i : Int))) none).run Tryz.prog w = .ok (.slice (some ⟨g, 0, none⟩) i c1) w :=
    fun w => run_slice_to (P := Tryz.prog) Tryz.underlying26 hi0 (some ⟨g, 0, none⟩) ps.length c1 i (by omega) w
   have q2 : ∀ w : World, (Instr.slice 26 (.slice (some ⟨g, 0, none⟩) ps.length c1) (some (.int .i64 ((i : Int) + 1))) none none).run Tryz.prog w = .ok (.slice (cutS (some ⟨g, 0, none⟩) c1 (i + 1) 2) (ps.length - (i + 1)) (c1 - (i + 1))) w :=
    fun w => by have := run_slice_fromS_ (P := Tryz.prog) Tryz.underlying26 hi0 hi1 (some ⟨g, 0, none⟩) ps.length c1 (i + 1) (by omega) w; rwa [show (((i + 1 : Nat)) : Int) = (i : Int) + 1 by omega] at this
   have hw1 : IntKind.i64.wrap ((i : Int) + 1) = (i : Int) + 1 := IntWalk.i64_in _ (by omega)
   have HR2 := hD ((Rd.ownS hrow2 (by omega)).dropS (k := i + 1) (c := c1) (by omega) hcap).drew
   have HPRE := hD (own_drew (own_prefix hrow2 (k := i) (by omega)))
   have HONE := hD hown.one
   clear hrow hown hB1 hb1 hov hcv hi0 hi1 hg1 hg2 hrow2 hown2 hb2
   go_upto_region 6 with fail
   clear hcell
   obtain ⟨x0, x1, x2, f0, f1, f2⟩ := three HK.out
   have HROWd := hD (own_drew HROW.out)
   have HBd := hD HB2.out.drew
   go_region_law (refine step_append_S (W := w) (A := some ⟨g, 0, none⟩) (n := i) (c := c1) (A' := cutS (some ⟨g, 0, none⟩) c1 (i + 1) 2) (m := ps.length - (i + 1)) (c' := c1 - (i + 1)) cellP (.tmp 25) (.tmp 29) rfl rfl (by simp [Act.eval, Act.put]) HPRE.out (by simp [Act.eval, Act.put]) HR2.out (fun u hu => HONE.out u (List.mem_of_mem_drop hu)) (by omega) (by omega) HBd.out ?_
                  intro A3 c3 w3 hown3 hB3 hg3
                  have HK3 := hD (HK.out.drew.apart_own HPRE.out (by decide) hg3)
                  clear x0 x1 x2 f0 f1 f2
                  obtain ⟨x0, x1, x2, f0, f1, f2⟩ := three HK3.out)
   all_goals go_wp2
   all_goals
    have hel : (ps.eraseIdx i).length = i + (ps.length - (i + 1)) := by rw [List.length_eraseIdx_of_lt (by omega)]; omega
    obtain ⟨k1, k2, k3⟩ := put3 HK3.out (.int .i64 0) (.slice A2 p.2.length c2) (.int .i64 0)
    refine bodyPost_ret (results_tmp_cell_row rfl _ _ _ _ _ _ rfl k1 Tryz.underlying77 rfl (by kernel_rfl)) rfl ?_
    have ho3 : OwnP w w3 A3 (i + (ps.length - (i + 1))) c3 (ps.eraseIdx i) := ⟨_, hown3, by
     rw [flat_erase]
     exact (((HOWN.out.take (i * 2)).append (HOWN.out.drop ((i + 1) * 2))).below (Below.refl _ _).drew).grownP HPRE.out hg3⟩
    have hv3 := own_grown_t (w := w2.drew) (own_drew HOV.out) HPRE.out (by decide) hg3
    have h3 := k2 w lR hB3
    exact ⟨A3, c3, A2, c2, by rw [hel]; rfl, by rw [hel]; exact ho3.put3 HK3.out (by decide) (by decide) _ _ _, k3 _ _ _ _ _ _ hv3 (by decide), h3, h3⟩
 · rw [if_neg hk, if_neg hk, if_neg hk]
   have HE := hD (Mp.place_no hk)
   clear hk
   go_enter Tryz.func114, Tryz.ntmps114
   go_wp2_with fail
   refine (refPairs_any (W := w) hn HL.out (H.out.below b0) b0).mono ?_
   rintro e w1 ⟨A1, c1, rfl, ho1, hB1, hb1⟩
   have HK := hD ((Blk.new w 77 zeroR).below hb1)
   go_wp2_with fail
   refine (refKey_bel _ (k := k) hn HB.out HBK.out (H.out.below hB1) (H'.out.below hB1)).mono ?_
   rintro e w2 ⟨rfl, hb2⟩
   rw [HE.out]
   go_wp2_with (first
    | (go_at_call 98; refine (bad_any _ 5).mono ?_; rintro e w3 ⟨rfl, hb3⟩; unfold resV; have HK := hD ((HK.out.below hb2).below hb3); obtain ⟨x0, x1, x2, f0, f1, f2⟩ := three HK.out)
    | fail)
   obtain ⟨k1, k2, k3⟩ := put3 HK.out (.int .i64 5) (.slice none 0 0) (.int .i64 0)
   refine bodyPost_ret (results_tmp_cell_row rfl _ _ _ _ _ _ rfl k1 Tryz.underlying77 rfl (by kernel_rfl)) rfl ?_
   have hB2 := hB1.trans (hb2.mono hB1.size)
   have h3 := k2 w lR (hB2.trans (hb3.mono hB2.size))
   exact ⟨A1, c1, none, 0, rfl, ((ho1.below hb2).below hb3).put3 HK.out (by decide) (by decide) _ _ _, own_nil _ _, h3, h3⟩
theorem refDel_any {W w : World} {ps : List Pr} {k : List Nat} {A A' : Option Addr} {n c n' c' B B' : Nat} (hn : n <= 100000) (hL : LimP ps) (hb : BytesP ps) (hbk : ∀ x ∈ k, x < 256) (h : RdP w B A n ps) (h' : Rd w B' A' n' (bv k)) (hB : Below W.heap.size W w) :
 Calls Tryz.prog 114 #[.slice A n c, .slice A' n' c'] w (GotPR W w (Mp.delS ps k) (Mp.getE ps k) (Mp.getV ps k) 0) :=
 (refDel_raw hn hL hb hbk h h').mono fun e w' h => GotPR.of hB h
def hole (vs : List Value) (i : Nat) (x y : Value) : List Value := vs.take (i * 2) ++ [x, y] ++ vs.drop (i * 2)
theorem hole_set {vs : List Value} {i : Nat} {x y a b : Value} (h : i * 2 <= vs.length) : ((hole vs i x y).set (i * 2) a).set (i * 2 + 1) b = hole vs i a b := by
 unfold hole
 have e : (vs.take (i * 2)).length = i * 2 := by rw [List.length_take]; omega
 rw [List.append_assoc, List.append_assoc, List.set_append_right _ _ (by omega), e, Nat.sub_self, List.set_append_right _ _ (by omega), e, show i * 2 + 1 - i * 2 = 1 by omega]
 rfl
theorem hole_back {vs : List Value} {i : Nat} {a b : Value} (h1 : vs[i * 2]? = some a) (h2 : vs[i * 2 + 1]? = some b) : hole vs (i + 1) a b = hole vs i a b := by
 unfold hole
 have e1 : vs.take ((i + 1) * 2) = vs.take (i * 2) ++ [a, b] := by
  rw [show (i + 1) * 2 = i * 2 + 1 + 1 by omega, List.take_add_one, List.take_add_one, h1, h2]; simp
 have e2 : vs.drop (i * 2) = a :: b :: vs.drop ((i + 1) * 2) := by
  rw [show (i + 1) * 2 = i * 2 + 1 + 1 by omega]
  rw [List.drop_eq_getElem?_toList_append, h1, List.drop_eq_getElem?_toList_append (i := i * 2 + 1), h2]; rfl
 rw [e1, e2]; simp
theorem hole_at {vs : List Value} {i j : Nat} {x y : Value} (h : j < i * 2) (hl : i * 2 <= vs.length) : (hole vs i x y)[j]? = vs[j]? := by
 unfold hole
 rw [List.append_assoc, List.getElem?_append_left (by rw [List.length_take]; omega), List.getElem?_take_of_lt h]
theorem hole_end {vs : List Value} {n : Nat} {x y : Value} (h : vs.length = n * 2) : vs ++ [x, y] = hole vs n x y := by
 unfold hole
 rw [<- h, List.take_length, List.drop_length]; simp
theorem Owns.set {W w : World} {vs : List Value} {qs : List (List Nat)} {A : Option Addr} {c : Nat} {l : List Nat} (h : Owns W w vs qs) (ho : OwnB W w A l.length c l) (i : Nat) : Owns W w (vs.set i (.slice A l.length c)) (qs.set i l) :=
 ⟨by simp [h.len], fun j l' hl => by
   by_cases hij : i = j
   · subst hij
     have hlt : i < qs.length := by
      rcases Nat.lt_or_ge i qs.length with h' | h'
      · exact h'
      · rw [List.getElem?_eq_none (by simpa using h')] at hl; cases hl
     rw [List.getElem?_set_self hlt] at hl
     injection hl with hl
     subst hl
     exact ⟨A, c, by rw [List.getElem?_set_self (by rw [h.len]; exact hlt)], ho⟩
   · rw [List.getElem?_set_ne hij] at hl |-
     exact h.cell j l' hl⟩
theorem flat_setval {ps : List Pr} {i : Nat} {p : Pr} {k v : List Nat} (h : ps[i]? = some p) (hk : p.1 = k) : flat (ps.set i (k, v)) = (flat ps).set (i * 2 + 1) v := by
 induction ps generalizing i with
 | nil => simp at h
 | cons q ps ih =>
   cases i with
   | zero => simp at h; subst h; subst hk; rfl
   | succ i =>
     rw [List.set_cons_succ, flat_cons, flat_cons, ih (by simpa using h), show (i + 1) * 2 + 1 = (i * 2 + 1) + 1 + 1 by omega]; rfl
theorem flat_insert (ps : List Pr) (i : Nat) (k v : List Nat) : flat (ps.take i ++ (k, v) :: ps.drop i) = (flat ps).take (i * 2) ++ [k, v] ++ (flat ps).drop (i * 2) := by
 rw [flat_append, flat_cons, flat_take, flat_drop]; simp
theorem bytesLess_strB {l m : List Nat} (hl : ∀ x ∈ l, x < 256) (hm : ∀ x ∈ m, x < 256) : Go.Op.bytesLess (strB l).toList (strB m).toList = Mp.ltB l m := by
 have e : ∀ l : List Nat, (strB l).toList = l.map UInt8.ofNat := fun l => by
  rw [ByteArray.toList_eq]; unfold strB strOfNums; simp [Function.comp_def]
 rw [e, e]
 induction l generalizing m with
 | nil => cases m <;> rfl
 | cons a l ih =>
   cases m with
   | nil => rfl
   | cons b m =>
     have ha := hl a (by simp)
     have hb := hm b (by simp)
     simp only [List.map_cons, Go.Op.bytesLess, Mp.ltB]
     rw [ih (fun x hx => hl x (by simp [hx])) (fun x hx => hm x (by simp [hx]))]
     have h1 : decide (UInt8.ofNat a < UInt8.ofNat b) = decide (a < b) := by
      rw [decide_eq_decide, UInt8.lt_iff_toNat_lt]; simp; omega
     have h2 : (UInt8.ofNat a == UInt8.ofNat b) = decide (a = b) := by
      rw [Bool.eq_iff_iff, beq_iff_eq, decide_eq_true_iff]
      constructor
      · intro h; have := congrArg UInt8.toNat h; simp at this; omega
      · intro h; rw [h]
     rw [h1, h2]
end Go.Proofs.YtmekamgohonffaaGreat
