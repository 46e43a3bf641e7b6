/- MapsCode4 MapsCode5 ObjsApply SessCode2 -/
import Derived.Test.YtaknfmionkkdjaaGreatFO06
import Derived.Test.YtaknfmionkkdjaaGreatFO11
import Derived.Test.YtaknfmionkkdjaaGreatFO24
import Derived.Test.YtaknfmionkkdjaaGreatFO32
import Derived.Test.YtaknfmionkkdjaaGreatFO34
import Derived.Test.YtaknfmionkkdjaaGreatFO40
import Derived.Test.YtaknfmionkkdjaaGreatFO43
import Derived.Lib.Overlaps
import Derived.Deep.CutBlock
import Derived.Deep.RegionHeld3
namespace Go.Proofs.YtaknfmionkkdjaaGreat
open Go.RowKit
set_option linter.unusedVariables false
set_option maxHeartbeats 1000000 in
theorem withoutM_raw {w : World} {ps : List Pr} {k : List Nat} {A A' : Option Addr} {n c n' c' B B' : Nat} (hn : n ≤ 100000) (hL : LimP ps) (hb : BytesP ps) (hbk : ∀ x ∈ k, x < 256) (hrise : Mp.Rises ps) (h : RdP w B A n ps) (h' : Rd w B' A' n' (bv k)) :
    Calls Tryz.prog 120 #[.slice A n c, .slice A' n' c'] w fun e w' => ∃ g c2, e = .returned (.slice (some ⟨g, 0, none⟩) (Mp.delS ps k).length c2) ∧ (Mp.delS ps k).length < c2 ∧ OwnP w w' (some ⟨g, 0, none⟩) (Mp.delS ps k).length c2 (Mp.delS ps k) ∧ Below w.heap.size w w' := by
  obtain rfl := h.length
  have b1 : Below w.heap.size w (w.alloc (.cells #[.slice A' n' c'] 26)) := (Below.refl _ _).alloc (Nat.le_refl _) _
  have H := Lib.hid (h.fit.below b1)
  have H' := Lib.hid (h'.fit.below b1)
  have HL := Lib.hid hL
  have HB := Lib.hid hb
  have HBK := Lib.hid hbk
  have HR := Lib.hid hrise
  have HC := Lib.hid ((Blk.new w 26 #[.slice A' n' c']).cell 0)
  have HB1 := Lib.hid b1
  obtain ⟨wb, hwb⟩ : ∃ wb, w.alloc (.cells #[.slice A' n' c'] 26) = wb := ⟨_, rfl⟩
  rw [hwb] at H H' HC HB1
  have HW := Lib.hid hwb
  clear h h' hL hb hbk hrise b1 hwb
  go_enter Tryz.func120, Tryz.ntmps120
  go_wp2_with (first
    | (go_at_call 119; rw [HW.out]; refine (copiedM_any (W := wb) hn HL.out H.out (Below.refl _ _)).mono ?_; rintro e w1 ⟨g, rfl, ho1, hB1, _⟩
       have HD := Lib.hid (deleteFunc_any (W := wb) (kb := w.heap.size) hn (by omega) HB.out HBK.out HR.out ho1 HC.out H'.out hB1))
    | (go_at_call 126; refine HD.out.mono ?_; rintro e w2 ⟨rfl, ho2, hB2⟩)
    | fail)
  go_ret
  have hs : w.heap.size ≤ wb.heap.size := HB1.out.size
  refine ⟨g, ps.length + 1, rfl, ?_, ho2.of hs, HB1.out.trans (hB2.mono hs)⟩
  unfold Mp.delS
  split
  · have := (List.eraseIdx_sublist ps (Mp.idx (Mp.keys ps) k)).length_le; omega
  · omega
theorem withoutM_any {W w : World} {ps : List Pr} {k : List Nat} {A A' : Option Addr} {n c n' c' B B' : Nat} (hn : n ≤ 100000) (hL : LimP ps) (hb : BytesP ps) (hbk : ∀ x ∈ k, x < 256) (hrise : Mp.Rises ps) (h : RdP w B A n ps) (h' : Rd w B' A' n' (bv k)) (hB : Below W.heap.size W w) :
    Calls Tryz.prog 120 #[.slice A n c, .slice A' n' c'] w fun e w' => ∃ g c2, e = .returned (.slice (some ⟨g, 0, none⟩) (Mp.delS ps k).length c2) ∧ (Mp.delS ps k).length < c2 ∧ OwnP W w' (some ⟨g, 0, none⟩) (Mp.delS ps k).length c2 (Mp.delS ps k) ∧ Below W.heap.size W w' ∧ Below w.heap.size w w' :=
  (withoutM_raw hn hL hb hbk hrise h h').mono fun e w' ⟨g, c2, h1, h2, h3, h4⟩ => ⟨g, c2, h1, h2, h3.of hB.size, hB.trans (h4.mono hB.size), h4⟩
section
variable {P : Program}
end
set_option maxHeartbeats 4000000 in
set_option maxRecDepth 100000 in
theorem insert_any {W w : World} {g n c i vb c1 c2 : Nat} {A1 A2 : Option Addr} {ps : List Pr} {k v : List Nat} (hn : n ≤ 100000) (hin : i ≤ n) (hnc : n < c) (hgv : vb ≠ g)
    (h : OwnP W w (some ⟨g, 0, none⟩) n c ps) (hvb : Blk w vb 55 #[.slice A1 k.length c1, .slice A2 v.length c2]) (ho1 : OwnB W w A1 k.length c1 k) (ho2 : OwnB W w A2 v.length c2 v) (hB : Below W.heap.size W w) :
    Calls Tryz.prog 121 #[.slice (some ⟨g, 0, none⟩) n c, .int .i64 (i : Int), .slice (some ⟨vb, 0, none⟩) 1 1] w fun e w' => e = .returned (.slice (some ⟨g, 0, none⟩) (n + 1) c) ∧ OwnP W w' (some ⟨g, 0, none⟩) (n + 1) c (ps.take i ++ (k, v) :: ps.drop i) ∧ Below W.heap.size W w' := by
  obtain rfl := h.length
  obtain ⟨vs, hrow, hown⟩ := h
  have hvl : vs.length = ps.length * 2 := hrow.1
  obtain ⟨cur, hbk, hcs, htk, _, hbase⟩ := own_cur hrow
  obtain ⟨t0, ht0, htz, hts, _⟩ := info_parts cellP.info
  have hcmax : c ≤ 9223372036854775807 := by have := (own_cap hrow).2; unfold maxLen at this; omega
  have hsl := fun (m j : Nat) (hj : j ≤ m) (w : World) => run_slice_fromS_ (P := Tryz.prog) Tryz.underlying28 ht0 hts (some ⟨g, 0, none⟩) m c j hj w
  have hcut : ∀ j, j < c → cutS (some ⟨g, 0, none⟩) c j 2 = some ⟨g, j * 2, none⟩ := fun j hj => by
    unfold cutS; rw [if_neg (by omega), Option.map_some, adr_add, Nat.zero_add]
  have hs1 := hsl ps.length i hin
  rw [hcut i (by omega)] at hs1
  have hz1 : ¬ (1 : Int) = 0 := by omega
  rcases Nat.lt_or_ge i ps.length with hlt | hge
  · have hne : ¬ ((i : Int) = (ps.length : Int)) := by omega
    have hs2 := hsl (ps.length + 1) (i + 1) (by omega)
    rw [hcut (i + 1) (by omega), show ps.length + 1 - (i + 1) = ps.length - i by omega] at hs2
    have hs3 := hsl (ps.length + 1) i (by omega)
    rw [hcut i (by omega)] at hs3
    have hs4 := run_slice_to (P := Tryz.prog) (t := 28) Tryz.underlying28 ht0 (some ⟨g, 0, none⟩) ps.length c (ps.length + 1) (by omega)
    rw [show (((i + 1 : Nat)) : Int) = (i : Int) + 1 by omega] at hs2
    rw [show (((ps.length + 1 : Nat)) : Int) = (ps.length : Int) + 1 by omega] at hs4
    have hw1 : IntKind.i64.wrap ((ps.length : Int) + 1) = (ps.length : Int) + 1 := IntWalk.i64_in _ (by omega)
    have hw2 : IntKind.i64.wrap ((i : Int) + 1) = (i : Int) + 1 := IntWalk.i64_in _ (by omega)
    have hroom : ¬ (c : Int) < (ps.length : Int) + 1 := by omega
    have hcur2 : cur.size = c * 2 := hcs
    have hdl : (vs.drop (i * 2)).length = (ps.length - i) * 2 := by rw [List.length_drop, hvl]; omega
    have hcp1 : ∀ ty dc sc, (Builtin.copy_ #[28, 28] ty #[.slice (some ⟨g, (i + 1) * 2, none⟩) (ps.length - i) dc, .slice (some ⟨g, i * 2, none⟩) (ps.length + 1 - i) sc]).run Tryz.prog w.drew = .ok (.int .i64 ((ps.length - i : Nat) : Int)) (w.drew.setRow g (cur.toList.take ((i + 1) * 2) ++ vs.drop (i * 2) ++ cur.toList.drop ((i + 1) * 2 + (vs.drop (i * 2)).length)).toArray) := fun ty dc sc =>
      run_copy_blk (P := Tryz.prog) w.drew _ _ ty 55 g ((i + 1) * 2) (ps.length - i) dc ⟨g, i * 2, none⟩ (ps.length + 1 - i) sc cur 55 (vs.drop (i * 2)) 2 (ps.length - i) Tryz.underlying28 (by rw [ht0]; simp [hts]) hbk (by simp only [Nat.min_def]; split <;> omega) hdl
        (fun j u hj => by
          rw [List.getElem?_drop] at hj
          rw [adr_add, ← hj]
          have hjl : i * 2 + j < vs.length := (List.getElem?_eq_some_iff.1 hj).1
          exact hrow.cellAt (i * 2 + j) (by omega)) (by rw [hdl]; omega) (fun u hu => hown.one u (List.mem_of_mem_drop hu))
    obtain ⟨cs1, hcs1⟩ : ∃ cs1, (cur.toList.take ((i + 1) * 2) ++ vs.drop (i * 2) ++ cur.toList.drop ((i + 1) * 2 + (vs.drop (i * 2)).length)) = cs1 := ⟨_, rfl⟩
    rw [hcs1] at hcp1
    have hcs1l : cs1.length = c * 2 := by rw [← hcs1]; simp [hdl]; omega
    obtain ⟨W1, hW1⟩ : ∃ W1, w.drew.setRow g cs1.toArray = W1 := ⟨_, rfl⟩
    rw [hW1] at hcp1
    have hbk1 : Blk W1 g 55 cs1.toArray := by rw [← hW1]; exact setRow_heap w.drew g cur _ _ _ hbk
    have hvb1 : Blk W1 vb 55 #[.slice A1 k.length c1, .slice A2 v.length c2] := by rw [← hW1]; exact (setRow_other w.drew g vb _ hgv).trans hvb
    have hcp2 : ∀ ty dc, (Builtin.copy_ #[28, 28] ty #[.slice (some ⟨g, i * 2, none⟩) (ps.length + 1 - i) dc, .slice (some ⟨vb, 0, none⟩) 1 1]).run Tryz.prog W1 = .ok (.int .i64 ((1 : Nat) : Int)) (W1.setRow g (cs1.toArray.toList.take (i * 2) ++ [Value.slice A1 k.length c1, Value.slice A2 v.length c2] ++ cs1.toArray.toList.drop (i * 2 + 2)).toArray) := fun ty dc =>
      run_copy_blk (P := Tryz.prog) W1 _ _ ty 55 g (i * 2) (ps.length + 1 - i) dc ⟨vb, 0, none⟩ 1 1 cs1.toArray 55 [Value.slice A1 k.length c1, Value.slice A2 v.length c2] 2 1 Tryz.underlying28 (by rw [ht0]; simp [hts]) hbk1 (by simp only [Nat.min_def]; split <;> omega) rfl
        (fun j u hj => by rw [adr_add, hvb1.cell, Nat.zero_add]; simpa using hj) (by simp; omega) (by intro u hu; simp at hu; rcases hu with rfl | rfl <;> rfl)
    obtain ⟨cs2, hcs2⟩ : ∃ cs2, (cs1.toArray.toList.take (i * 2) ++ [Value.slice A1 k.length c1, Value.slice A2 v.length c2] ++ cs1.toArray.toList.drop (i * 2 + 2)) = cs2 := ⟨_, rfl⟩
    rw [hcs2] at hcp2
    obtain ⟨W2, hW2⟩ : ∃ W2, W1.setRow g cs2.toArray = W2 := ⟨_, rfl⟩
    rw [hW2] at hcp2
    have hov : ∀ lb cb, (callFunc 128 #[.slice (some ⟨vb, 0, none⟩) 1 1, .slice (some ⟨g, (i + 1) * 2, none⟩) lb cb]).run Tryz.prog w = .ok (.value (.bool false)) w := fun lb cb => by
      rw [run_callFunc_extern Tryz.func128 (by kernel_rfl) (by kernel_rfl) (by kernel_rfl) (e := Extern.SlicesOverlaps.overlaps #[28, 28] #[4]) (by kernel_rfl),
        Lib.run_overlaps_apart w 28 4 55 Tryz.underlying28 2 (fun w => by simp [sizeOf, typeInfo, ht0, hts]) ⟨vb, 0, none⟩ ⟨g, (i + 1) * 2, none⟩ 1 1 lb cb hgv 55 55 2 cur.size
          (by unfold Blk at hvb; simp [World.shape?, hvb]) (by unfold Blk at hbk; simp [World.shape?, hbk]) (by omega) (hvb.frozen 0) (hvb.frozen 2)]
      rfl
    have HFIN : Hid (OwnP W W2 (some ⟨g, 0, none⟩) (ps.length + 1) c (ps.take i ++ (k, v) :: ps.drop i) ∧ Below W.heap.size W W2) := Lib.hid (by
      have hW : W2 = w.drew.setRow g cs2.toArray := by rw [← hW2, ← hW1, setRow_setRow]
      have hc2l : cs2.length = c * 2 := by rw [← hcs2]; simp; omega
      have htk2 : cs2.take ((ps.length + 1) * 2) = vs.take (i * 2) ++ [Value.slice A1 k.length c1, Value.slice A2 v.length c2] ++ vs.drop (i * 2) := by
        have hxl : (cur.toList.take ((i + 1) * 2)).length = (i + 1) * 2 := by simp; omega
        have e1 : cs1.take (i * 2) = vs.take (i * 2) := by
          rw [← hcs1, List.append_assoc, List.take_append_of_le_length (by omega), List.take_take, Nat.min_eq_left (by omega), ← htk, List.take_take, Nat.min_eq_left (by omega)]
        have e2 : cs1.drop (i * 2 + 2) = vs.drop (i * 2) ++ cur.toList.drop ((i + 1) * 2 + (vs.drop (i * 2)).length) := by
          rw [← hcs1, List.append_assoc, show i * 2 + 2 = (i + 1) * 2 by omega, List.drop_append_of_le_length (by omega), List.drop_of_length_le (by omega)]; rfl
        rw [← hcs2]
        rw [e1, e2, ← List.append_assoc, List.take_append_of_le_length (by simp; omega), List.take_of_length_le (by simp; omega)]
      obtain ⟨r1, r2⟩ := own_written (w := w.drew) (own_drew hrow) (n' := ps.length + 1) (vs' := vs.take (i * 2) ++ [Value.slice A1 k.length c1, Value.slice A2 v.length c2] ++ vs.drop (i * 2)) cs2.toArray (by simpa using hc2l) (by omega) (by simp [hvl]; omega) (by simpa using htk2)
      rw [← hW] at r1 r2
      refine ⟨⟨_, r1, ?_⟩, hB.drew.grown r2 hB.size (fun k hk => by injection hk with hk; omega)⟩
      rw [flat_insert]
      have hd : Below w.heap.size w w.drew := (Below.refl _ _).drew
      have hmid : Owns W w.drew [Value.slice A1 k.length c1, Value.slice A2 v.length c2] [k, v] := by
        have := (Owns.nil W w.drew).two (own_below ho1 hd) (own_below ho2 hd)
        simpa using this
      exact ((((hown.below hd).take (i * 2)).append hmid).append ((hown.below hd).drop (i * 2))).grownP (own_drew hrow) r2)
    clear hbk hcs htk ht0 htz hts hsl hcut hrow hown hvb ho1 ho2 hB hdl hcs1 hcs1l hW1 hbk1 hvb1 hcs2 hW2 hcur2 hvl hbase
    go_enter Tryz.func121, Tryz.ntmps121
    go_wp2_with (simp only [hov])
    go_region_law (refine step_copy_known rfl _ _ 28 28 rfl _ _ (by simp [Act.eval, Act.put]) (by simp [Act.eval, Act.put]) (hcp1 _ _ _) ?_)
    go_wp2_with (at_builtin; refine wpList_copy_known _ rfl _ _ 28 28 rfl _ _ rfl rfl (hcp2 _ _) ?_)
    go_ret
    exact ⟨rfl, HFIN.out⟩
  · obtain rfl : i = ps.length := by omega
    have HROW := Lib.hid hrow
    have HOWN := Lib.hid hown
    have HVB := Lib.hid hvb
    have HO1 := Lib.hid ho1
    have HO2 := Lib.hid ho2
    have HBW := Lib.hid hB
    have HSRC : Hid (Rd w w.heap.size (some ⟨vb, 0, none⟩) (1 * 2) [Value.slice A1 k.length c1, Value.slice A2 v.length c2]) := Lib.hid ⟨rfl, fun _ => ⟨vb, 0, rfl, hvb.lt, fun j hj => by rw [Nat.zero_add, hvb.cell]; simp⟩⟩
    clear hbk hcs htk ht0 htz hts hsl hcut hrow hown hvb ho1 ho2 hB hvl hbase
    go_enter Tryz.func121, Tryz.ntmps121
    go_wp2_with (first
      | (at_builtin
         refine wpList_append_fits (W := W) cellP (.tmp 23) (.tmp 24) rfl (by rfl) rfl HROW.out rfl HSRC.out (by intro u hu; simp at hu; rcases hu with rfl | rfl <;> rfl) (by omega) (by omega) HBW.out ?_
         intro w2 hown2 hB2 hg2)
      | fail)
    go_ret
    refine ⟨rfl, ⟨_, hown2, ?_⟩, hB2⟩
    rw [List.take_length, List.drop_length, flat_append]
    exact (HOWN.out.two HO1.out HO2.out).grownP HROW.out hg2
end Go.Proofs.YtaknfmionkkdjaaGreat

namespace Go.Proofs.YtaknfmionkkdjaaGreat
open Go.RowKit
set_option linter.unusedVariables false
set_option maxHeartbeats 1000000 in
theorem del_raw {w : World} {ps : List Pr} {k : List Nat} {A A' : Option Addr} {n c n' c' B B' : Nat} (hn : n ≤ 100000) (hL : LimP ps) (hb : BytesP ps) (hbk : ∀ x ∈ k, x < 256) (hrise : Mp.Rises ps) (h : RdP w B A n ps) (h' : Rd w B' A' n' (bv k)) :
    Calls Tryz.prog 107 #[.slice A n c, .slice A' n' c'] w (GotPR w w (Mp.delS ps k) (Mp.getE ps k) (Mp.getV ps k) 0) := by
  have H := Lib.hid h.fit
  have H' := Lib.hid h'.fit
  have HL := Lib.hid hL
  have HB := Lib.hid hb
  have HBK := Lib.hid hbk
  have HR := Lib.hid hrise
  have b0 : Below w.heap.size w (w.alloc (.cells zeroR 47)) := (Below.refl _ _).alloc (Nat.le_refl _) _
  clear h h' hL hb hbk hrise
  obtain ⟨E, hE⟩ : ∃ E, Mp.getE ps k = E := ⟨_, rfl⟩
  rw [hE]
  have HE := Lib.hid hE
  clear hE
  go_enter Tryz.func107, Tryz.ntmps107
  go_wp2_with (first
    | (go_at_call 120; refine (withoutM_any (W := w) hn HL.out HB.out HBK.out HR.out (H.out.below b0) (H'.out.below b0) b0).mono ?_; rintro e w1 ⟨g, c1, rfl, _, ho1, hB1, hb1⟩)
    | (go_at_call 106; refine (get_any (W := w) hn HL.out HB.out HBK.out (H.out.below hB1) (H'.out.below hB1) hB1).mono ?_; rw [HE.out]; rintro e w2 ⟨A2, c2, rfl, ho2, hB2, hb2⟩; unfold resV; have HK := Lib.hid (((Blk.new w 47 zeroR).below hb1).below hb2); obtain ⟨x0, x1, x2, f0, f1, f2⟩ := three HK.out)
    | fail)
  obtain ⟨k1, k2, k3⟩ := put3 HK.out (.int .i64 E) (.slice A2 (Mp.getV ps k).length c2) (.int .i64 0)
  refine bodyPost_ret (results_tmp_cell_row rfl _ _ _ _ _ _ rfl k1 Tryz.underlying47 rfl (by kernel_rfl)) rfl ?_
  have h3 := k2 w (Nat.le_refl _) hB2
  exact ⟨some ⟨g, 0, none⟩, c1, A2, c2, rfl, (ho1.below hb2).put3 HK.out (by decide) (by decide) _ _ _, k3 _ _ _ _ _ _ ho2 (by decide), h3, h3⟩
theorem delC7 : DelC7 := fun {W w ps k A A' n c n' c' B B'} hnc hI hk hn' h h' hB =>
  (del_raw (w := w) (by have := h.length; have := hI.few; omega) (inv_lim hI) hI.byt hk hI.rise h h').mono fun e w' h => GotPR.of hB h
theorem getC7 : GetC7 := fun {W w ps k A A' n c n' c' B B'} hnc hI hk hn' h h' hB =>
  get_any (W := W) (by have := h.length; have := hI.few; omega) (inv_lim hI) hI.byt hk h h' hB
namespace Mp
theorem idx_at {ps : List Pr} {k : List Nat} (hk : k ∈ keys ps) : ∃ (i : Nat) (p : Pr), idx (keys ps) k = i ∧ i < ps.length ∧ ps[i]? = some p ∧ p.1 = k := by
  obtain ⟨i, _, hi, hix⟩ := place_lt hk
  have h1 : i < ps.length := by
    have h1 : i < (keys ps).length := by
      rcases Nat.lt_or_ge i (keys ps).length with h | h
      · exact h
      · rw [List.getElem?_eq_none h] at hi; cases hi
    simpa [keys] using h1
  have h2 := List.getElem?_eq_getElem h1
  rw [keys_at h2] at hi
  exact ⟨i, ps[i], hix, h1, h2, by injection hi⟩
theorem del_no {ps : List Pr} {k : List Nat} (hr : Rises ps) : k ∉ keys (delS ps k) := by
  unfold delS
  by_cases hk : k ∈ keys ps
  · rw [if_pos hk]
    obtain ⟨i, p, e, hl, hp, hpk⟩ := idx_at hk
    rw [e]
    intro h
    unfold keys at h
    obtain ⟨q, hq, hqk⟩ := List.mem_map.1 h
    obtain ⟨j, hj, hqj⟩ := List.getElem_of_mem hq
    have hj2 : (ps.eraseIdx i)[j]? = some q := by rw [List.getElem?_eq_getElem hj, hqj]
    rw [List.getElem?_eraseIdx] at hj2
    split at hj2
    · rename_i hji
      exact rises_other hr hj2 hp hji (by rw [hpk, hqk])
    · rename_i hji
      exact rises_other hr hp hj2 (by omega) (by rw [hpk, hqk])
  · rw [if_neg hk]; exact hk
/-- what Put leaves, as the code makes it -/
theorem put_made {ps : List Pr} {k v : List Nat} (hr : Rises ps) (hlong : ¬ (8 < k.length ∨ 16 < v.length)) (hf : k ∈ keys ps ∨ ps.length < 8) :
    (delS ps k).take (cut (delS ps k) k) ++ (k, v) :: (delS ps k).drop (cut (delS ps k) k) = putS ps k v ∧ putE ps k v = 0 ∧ putV ps k v = getV ps k ∧ putN ps k v = (((delS ps k).length + 1 : Nat) : Int) := by
  unfold putS putE putV putN getV delS
  rw [if_neg hlong, if_neg hlong, if_neg hlong, if_neg hlong]
  by_cases hk : k ∈ keys ps
  · simp only [if_pos hk]
    obtain ⟨i, p, e, hl, hp, hpk⟩ := idx_at hk
    rw [e]
    have hc : cut (ps.eraseIdx i) k = i := by
      refine cut_is (by rw [List.length_eraseIdx_of_lt hl]; omega) (fun j q hj hq => ?_) (fun q hq => ?_)
      · rw [List.getElem?_eraseIdx, if_pos hj] at hq
        obtain ⟨h1, e1⟩ := List.getElem?_eq_some_iff.1 hq
        obtain ⟨h2, e2⟩ := List.getElem?_eq_some_iff.1 hp
        have := List.pairwise_iff_getElem.1 hr j i h1 h2 hj
        rw [e1, e2, hpk] at this
        exact this
      · rw [List.getElem?_eraseIdx, if_neg (by omega)] at hq
        obtain ⟨h1, e1⟩ := List.getElem?_eq_some_iff.1 hq
        obtain ⟨h2, e2⟩ := List.getElem?_eq_some_iff.1 hp
        have := List.pairwise_iff_getElem.1 hr i (i + 1) h2 h1 (by omega)
        rw [e1, e2, hpk] at this
        exact ltB_asymm this
    rw [hc]
    refine ⟨?_, trivial, trivial, by rw [List.length_eraseIdx_of_lt hl]; omega⟩
    rw [List.set_eq_take_append_cons_drop, if_pos hl, List.eraseIdx_eq_take_drop_succ]
    have h1 : (ps.take i).length = i := by rw [List.length_take]; omega
    rw [List.take_append_of_le_length (by omega), List.take_of_length_le (by omega), List.drop_append_of_le_length (by omega), List.drop_of_length_le (by omega)]
    rfl
  · have h8 : ¬ 8 ≤ ps.length := by rcases hf with h | h; exact absurd h hk; omega
    simp only [if_neg hk, if_neg h8]
    exact ⟨trivial, trivial, trivial, trivial⟩
end Mp
set_option maxHeartbeats 4000000 in
set_option maxRecDepth 100000 in
theorem put_refused {w : World} {ps : List Pr} {k v : List Nat} {A A' A'' : Option Addr} {n c n' c' n'' c'' B B' B'' : Nat} (hn : n ≤ 100000) (hL : LimP ps) (hb : BytesP ps) (hbk : ∀ x ∈ k, x < 256) (hno : (8 < k.length ∨ 16 < v.length) ∨ (k ∉ Mp.keys ps ∧ 8 ≤ ps.length))
    (h : RdP w B A n ps) (h' : Rd w B' A' n' (bv k)) (h'' : Rd w B'' A'' n'' (bv v)) :
    Calls Tryz.prog 105 #[.slice A n c, .slice A' n' c', .slice A'' n'' c''] w (GotPR w w ps (if 8 < k.length ∨ 16 < v.length then 1 else 3) [] 0) := by
  obtain rfl := h.length
  obtain rfl := h'.length
  obtain rfl := h''.length
  have H := Lib.hid h.fit
  have H' := Lib.hid h'.fit
  have H'' := Lib.hid h''.fit
  have HL := Lib.hid hL
  have HB := Lib.hid hb
  have HBK := Lib.hid hbk
  have b0 : Below w.heap.size w (w.alloc (.cells zeroR 47)) := (Below.refl _ _).alloc (Nat.le_refl _) _
  clear h h' h'' hL hb hbk
  by_cases h8 : 8 < k.length
  · rw [if_pos (.inl h8)]
    have h8i : (8 : Int) < (k.length : Int) := by omega
    clear hno
    go_enter Tryz.func105, Tryz.ntmps105
    go_wp2_with (first
      | (go_at_call 119; refine (copiedM_any (W := w) hn HL.out (H.out.below b0) b0).mono ?_; rintro e w1 ⟨g, rfl, ho1, hB1, hb1⟩; have HK := Lib.hid ((Blk.new w 47 zeroR).below hb1); obtain ⟨x0, x1, x2, f0, f1, f2⟩ := three HK.out)
      | fail)
    obtain ⟨k1, k2, k3⟩ := put3 HK.out (.int .i64 1) (.slice none 0 0) (.int .i64 0)
    refine bodyPost_ret (results_tmp_cell_row rfl _ _ _ _ _ _ rfl k1 Tryz.underlying47 rfl (by kernel_rfl)) rfl ?_
    have h3 := k2 w (Nat.le_refl _) hB1
    exact ⟨some ⟨g, 0, none⟩, _, none, 0, rfl, ho1.put3 HK.out (by decide) (by decide) _ _ _, own_nil _ _, h3, h3⟩
  · have h8i : ¬ (8 : Int) < (k.length : Int) := by omega
    by_cases h16 : 16 < v.length
    · rw [if_pos (.inr h16)]
      have h16i : (16 : Int) < (v.length : Int) := by omega
      clear hno
      go_enter Tryz.func105, Tryz.ntmps105
      go_wp2_with (first
        | (go_at_call 119; refine (copiedM_any (W := w) hn HL.out (H.out.below b0) b0).mono ?_; rintro e w1 ⟨g, rfl, ho1, hB1, hb1⟩; have HK := Lib.hid ((Blk.new w 47 zeroR).below hb1); obtain ⟨x0, x1, x2, f0, f1, f2⟩ := three HK.out)
        | fail)
      obtain ⟨k1, k2, k3⟩ := put3 HK.out (.int .i64 1) (.slice none 0 0) (.int .i64 0)
      refine bodyPost_ret (results_tmp_cell_row rfl _ _ _ _ _ _ rfl k1 Tryz.underlying47 rfl (by kernel_rfl)) rfl ?_
      have h3 := k2 w (Nat.le_refl _) hB1
      exact ⟨some ⟨g, 0, none⟩, _, none, 0, rfl, ho1.put3 HK.out (by decide) (by decide) _ _ _, own_nil _ _, h3, h3⟩
    · rw [if_neg (by omega)]
      have h16i : ¬ (16 : Int) < (v.length : Int) := by omega
      obtain ⟨hnk, hfull⟩ : k ∉ Mp.keys ps ∧ 8 ≤ ps.length := by rcases hno with h | h; omega; exact h
      have hfi : (8 : Int) ≤ (ps.length : Int) := by omega
      have HE := Lib.hid (show Mp.getE ps k = 5 from by unfold Mp.getE; rw [if_neg hnk])
      clear hno hnk
      go_enter Tryz.func105, Tryz.ntmps105
      go_wp2_with (first
        | (go_at_call 106; refine (get_any (W := w) hn HL.out HB.out HBK.out (H.out.below b0) (H'.out.below b0) b0).mono ?_; rw [HE.out]; rintro e w1 ⟨A1, c1, rfl, ho1, hB1, hb1⟩; unfold resV
           have hbd : Below w1.heap.size w1 (w1.alloc (.cells #[.int .i64 5, .slice A1 (Mp.getV ps k).length c1, .int .i64 0] 47)) := (Below.refl _ _).alloc (Nat.le_refl _) _)
        | (go_at_call 119; refine (copiedM_any (W := w) hn HL.out (H.out.below (hB1.alloc hB1.size _)) (hB1.alloc hB1.size _)).mono ?_; rintro e w2 ⟨g, rfl, ho2, hB2, hb2⟩; have HK := Lib.hid ((((Blk.new w 47 zeroR).below hb1).below hbd).below hb2); obtain ⟨x0, x1, x2, f0, f1, f2⟩ := three HK.out)
        | fail)
      obtain ⟨k1, k2, k3⟩ := put3 HK.out (.int .i64 3) (.slice none 0 0) (.int .i64 0)
      refine bodyPost_ret (results_tmp_cell_row rfl _ _ _ _ _ _ rfl k1 Tryz.underlying47 rfl (by kernel_rfl)) rfl ?_
      have h3 := k2 w (Nat.le_refl _) hB2
      exact ⟨some ⟨g, 0, none⟩, _, none, 0, rfl, ho2.put3 HK.out (by decide) (by decide) _ _ _, own_nil _ _, h3, h3⟩
set_option maxHeartbeats 4000000 in
set_option maxRecDepth 100000 in
theorem put_done {w : World} {ps : List Pr} {k v : List Nat} {A A' A'' : Option Addr} {n c n' c' n'' c'' B B' B'' : Nat} (hn : n ≤ 1000) (hL : LimP ps) (hb : BytesP ps) (hbk : ∀ x ∈ k, x < 256) (hr : Mp.Rises ps) (hlong : ¬ (8 < k.length ∨ 16 < v.length)) (hf : k ∈ Mp.keys ps ∨ ps.length < 8)
    (h : RdP w B A n ps) (h' : Rd w B' A' n' (bv k)) (h'' : Rd w B'' A'' n'' (bv v)) :
    Calls Tryz.prog 105 #[.slice A n c, .slice A' n' c', .slice A'' n'' c''] w (GotPR w w (Mp.putS ps k v) 0 (Mp.getV ps k) (((Mp.delS ps k).length + 1 : Nat) : Int)) := by
  obtain rfl := h.length
  obtain rfl := h'.length
  obtain rfl := h''.length
  have H := Lib.hid h.fit
  have H' := Lib.hid h'.fit
  have H'' := Lib.hid h''.fit
  have HL := Lib.hid hL
  have HB := Lib.hid hb
  have HBK := Lib.hid hbk
  have HR := Lib.hid hr
  have b0 : Below w.heap.size w (w.alloc (.cells zeroR 47)) := (Below.refl _ _).alloc (Nat.le_refl _) _
  have h8i : ¬ (8 : Int) < (k.length : Int) := by omega
  have h16i : ¬ (16 : Int) < (v.length : Int) := by omega
  have hlk : Lim 0 k.length := by unfold Lim; omega
  have hlv : Lim 0 v.length := by unfold Lim; omega
  have hn5 : ps.length ≤ 100000 := by omega
  obtain ⟨hm, _, _, _⟩ := Mp.put_made (v := v) hr hlong hf
  obtain ⟨D, hD⟩ : ∃ D, Mp.delS ps k = D := ⟨_, rfl⟩
  have hDl : D.length ≤ ps.length := by
    rw [← hD]; unfold Mp.delS; split
    · exact (List.eraseIdx_sublist ps _).length_le
    · exact Nat.le_refl _
  have hno := Mp.del_no (k := k) hr
  have hDb : BytesP D := by
    rw [← hD]; unfold Mp.delS; split
    · intro p hp; exact hb p ((List.eraseIdx_sublist ps _).subset hp)
    · exact hb
  rw [hD] at hm hno
  have hPl : (Mp.putS ps k v).length = D.length + 1 := by
    rw [← hm]; have := Mp.cut_le D k; simp; omega
  have HM := Lib.hid hm
  have HNO := Lib.hid hno
  have HD := Lib.hid hD
  have HDB := Lib.hid hDb
  have HPL := Lib.hid hPl
  have hDn : D.length ≤ 100000 := by omega
  rw [hD]
  clear h h' h'' hL hb hbk hr hlong hm hno hDb hD hPl
  by_cases hk : k ∈ Mp.keys ps
  · have HE := Lib.hid (show Mp.getE ps k = 0 from by unfold Mp.getE; rw [if_pos hk])
    clear hk hf
    go_enter Tryz.func105, Tryz.ntmps105
    go_wp2_with (first
      | (go_at_call 106; refine (get_any (W := w) hn5 HL.out HB.out HBK.out (H.out.below b0) (H'.out.below b0) b0).mono ?_; rw [HE.out]; rintro e w1 ⟨A1, c1, rfl, ho1, hB1, hb1⟩; unfold resV
         have hbd : Below w1.heap.size w1 (w1.alloc (.cells #[.int .i64 0, .slice A1 (Mp.getV ps k).length c1, .int .i64 0] 47)) := (Below.refl _ _).alloc (Nat.le_refl _) _
         have hBD := hB1.trans (hbd.mono hB1.size)
         have HK := Lib.hid (((Blk.new w 47 zeroR).below hb1).below hbd)
         have HW8 := Lib.hid (Blk.new w1 47 #[.int .i64 0, .slice A1 (Mp.getV ps k).length c1, .int .i64 0]))
      | (go_at_call 120; refine (withoutM_any (W := w1.alloc (.cells #[.int .i64 0, .slice A1 (Mp.getV ps k).length c1, .int .i64 0] 47)) hn5 HL.out HB.out HBK.out HR.out (H.out.below hBD) (H'.out.below hBD) (Below.refl _ _)).mono ?_; rw [HD.out]; rintro e w2 ⟨g, c2, rfl, hroom, ho2, hB2, _⟩)
      | (go_at_call 122; refine (placeM_any w2 hDn HDB.out HBK.out HNO.out ho2.rd (H'.out.below (hBD.trans (hB2.mono hBD.size)))).mono ?_; rintro e w3 ⟨rfl, hb3⟩; have hB3 := hB2.trans (hb3.mono hB2.size))
      | (go_at_call_of 64 A'; refine (clone_any (W := w1.alloc (.cells #[.int .i64 0, .slice A1 (Mp.getV ps k).length c1, .int .i64 0] 47)) hlk (H'.out.below (hBD.trans (hB3.mono hBD.size))) hB3).mono ?_; rintro e w4 ⟨A4, c4, rfl, ho4, hB4, hb4⟩)
      | (go_at_call_of 64 A''; refine (clone_any (W := w1.alloc (.cells #[.int .i64 0, .slice A1 (Mp.getV ps k).length c1, .int .i64 0] 47)) hlv (H''.out.below (hBD.trans (hB4.mono hBD.size))) hB4).mono ?_; rintro e w5 ⟨A5, c5, rfl, ho5, hB5, hb5⟩
         have b6 : Below w5.heap.size w5 (w5.alloc (.cells #[.slice A4 k.length c4, .slice A5 v.length c5] 55)) := (Below.refl _ _).alloc (Nat.le_refl _) _
         have ho2' := ((ho2.below hb3).below hb4).below hb5)
      | (go_at_call 121
         refine (insert_any (W := w1.alloc (.cells #[.int .i64 0, .slice A1 (Mp.getV ps k).length c1, .int .i64 0] 47)) hDn (Mp.cut_le D k) hroom (by obtain ⟨q, q1, _⟩ := ho2'; obtain ⟨_, q2, _⟩ := own_cur q1; have := q2.lt; omega) (ho2'.below b6) (Blk.new w5 55 #[.slice A4 k.length c4, .slice A5 v.length c5]) (own_below (own_below ho4 hb5) b6) (own_below ho5 b6) (hB5.trans (b6.mono hB5.size))).mono ?_
         rintro e w6 ⟨rfl, ho6, hB6⟩
         have HO6 := Lib.hid ho6
         have HBD := Lib.hid hBD
         have HB6 := Lib.hid hB6
         have HK6 := Lib.hid (HK.out.below hB6)
         have HW6 := Lib.hid (HW8.out.below hB6)
         have HV6 := Lib.hid (own_below (own_below ho1 hbd) hB6)
         clear ho6 hBD hB6 HK HW8 ho1 hbd hB1 hb1 ho2 hB2 hb3 hB3 ho4 hB4 hb4 ho5 hB5 hb5 b6 ho2' H H' H''
         obtain ⟨x0, x1, x2, f0, f1, f2⟩ := three HK6.out
         obtain ⟨y0, y1, y2, h0, h1, h2⟩ := three HW6.out)
      | fail)
    go_region
    go_wp2_with fail
    obtain ⟨k1, k2, k3⟩ := put3 HK6.out (.int .i64 0) (.slice A1 (Mp.getV ps k).length c1) (.int .i64 ((D.length : Int) + 1))
    refine bodyPost_ret (results_tmp_cell_row rfl _ _ _ _ _ _ rfl k1.drew Tryz.underlying47 rfl (by kernel_rfl)) rfl ?_
    have hB7 := HBD.out.trans (HB6.out.mono HBD.out.size)
    have h3 := (k2 w (Nat.le_refl _) hB7).drew
    have ho7 := (HO6.out.of HBD.out.size).put3 HK6.out (by decide) (by decide) (.int .i64 0) (.slice A1 (Mp.getV ps k).length c1) (.int .i64 ((D.length : Int) + 1))
    rw [HM.out] at ho7
    exact ⟨some ⟨g, 0, none⟩, c2, A1, c1, by rw [HPL.out]; push_cast; rfl, by rw [HPL.out]; exact ho7.below (Below.refl _ _).drew, own_below (k3 _ _ _ _ _ _ HV6.out (by decide)) (Below.refl _ _).drew, h3, h3⟩
  · have HE := Lib.hid (show Mp.getE ps k = 5 from by unfold Mp.getE; rw [if_neg hk])
    have h8n : ¬ (8 : Int) ≤ (ps.length : Int) := by rcases hf with h | h; exact absurd h hk; omega
    clear hk hf
    go_enter Tryz.func105, Tryz.ntmps105
    go_wp2_with (first
      | (go_at_call 106; refine (get_any (W := w) hn5 HL.out HB.out HBK.out (H.out.below b0) (H'.out.below b0) b0).mono ?_; rw [HE.out]; rintro e w1 ⟨A1, c1, rfl, ho1, hB1, hb1⟩; unfold resV
         have hbd : Below w1.heap.size w1 (w1.alloc (.cells #[.int .i64 5, .slice A1 (Mp.getV ps k).length c1, .int .i64 0] 47)) := (Below.refl _ _).alloc (Nat.le_refl _) _
         have hBD := hB1.trans (hbd.mono hB1.size)
         have HK := Lib.hid (((Blk.new w 47 zeroR).below hb1).below hbd)
         have HW8 := Lib.hid (Blk.new w1 47 #[.int .i64 5, .slice A1 (Mp.getV ps k).length c1, .int .i64 0]))
      | (go_at_call 120; refine (withoutM_any (W := w1.alloc (.cells #[.int .i64 5, .slice A1 (Mp.getV ps k).length c1, .int .i64 0] 47)) hn5 HL.out HB.out HBK.out HR.out (H.out.below hBD) (H'.out.below hBD) (Below.refl _ _)).mono ?_; rw [HD.out]; rintro e w2 ⟨g, c2, rfl, hroom, ho2, hB2, _⟩)
      | (go_at_call 122; refine (placeM_any w2 hDn HDB.out HBK.out HNO.out ho2.rd (H'.out.below (hBD.trans (hB2.mono hBD.size)))).mono ?_; rintro e w3 ⟨rfl, hb3⟩; have hB3 := hB2.trans (hb3.mono hB2.size))
      | (go_at_call_of 64 A'; refine (clone_any (W := w1.alloc (.cells #[.int .i64 5, .slice A1 (Mp.getV ps k).length c1, .int .i64 0] 47)) hlk (H'.out.below (hBD.trans (hB3.mono hBD.size))) hB3).mono ?_; rintro e w4 ⟨A4, c4, rfl, ho4, hB4, hb4⟩)
      | (go_at_call_of 64 A''; refine (clone_any (W := w1.alloc (.cells #[.int .i64 5, .slice A1 (Mp.getV ps k).length c1, .int .i64 0] 47)) hlv (H''.out.below (hBD.trans (hB4.mono hBD.size))) hB4).mono ?_; rintro e w5 ⟨A5, c5, rfl, ho5, hB5, hb5⟩
         have b6 : Below w5.heap.size w5 (w5.alloc (.cells #[.slice A4 k.length c4, .slice A5 v.length c5] 55)) := (Below.refl _ _).alloc (Nat.le_refl _) _
         have ho2' := ((ho2.below hb3).below hb4).below hb5)
      | (go_at_call 121
         refine (insert_any (W := w1.alloc (.cells #[.int .i64 5, .slice A1 (Mp.getV ps k).length c1, .int .i64 0] 47)) hDn (Mp.cut_le D k) hroom (by obtain ⟨q, q1, _⟩ := ho2'; obtain ⟨_, q2, _⟩ := own_cur q1; have := q2.lt; omega) (ho2'.below b6) (Blk.new w5 55 #[.slice A4 k.length c4, .slice A5 v.length c5]) (own_below (own_below ho4 hb5) b6) (own_below ho5 b6) (hB5.trans (b6.mono hB5.size))).mono ?_
         rintro e w6 ⟨rfl, ho6, hB6⟩
         have HO6 := Lib.hid ho6
         have HBD := Lib.hid hBD
         have HB6 := Lib.hid hB6
         have HK6 := Lib.hid (HK.out.below hB6)
         have HW6 := Lib.hid (HW8.out.below hB6)
         have HV6 := Lib.hid (own_below (own_below ho1 hbd) hB6)
         clear ho6 hBD hB6 HK HW8 ho1 hbd hB1 hb1 ho2 hB2 hb3 hB3 ho4 hB4 hb4 ho5 hB5 hb5 b6 ho2' H H' H''
         obtain ⟨x0, x1, x2, f0, f1, f2⟩ := three HK6.out
         obtain ⟨y0, y1, y2, h0, h1, h2⟩ := three HW6.out)
      | fail)
    go_region
    go_wp2_with fail
    obtain ⟨k1, k2, k3⟩ := put3 HK6.out (.int .i64 0) (.slice A1 (Mp.getV ps k).length c1) (.int .i64 ((D.length : Int) + 1))
    refine bodyPost_ret (results_tmp_cell_row rfl _ _ _ _ _ _ rfl k1.drew Tryz.underlying47 rfl (by kernel_rfl)) rfl ?_
    have hB7 := HBD.out.trans (HB6.out.mono HBD.out.size)
    have h3 := (k2 w (Nat.le_refl _) hB7).drew
    have ho7 := (HO6.out.of HBD.out.size).put3 HK6.out (by decide) (by decide) (.int .i64 0) (.slice A1 (Mp.getV ps k).length c1) (.int .i64 ((D.length : Int) + 1))
    rw [HM.out] at ho7
    exact ⟨some ⟨g, 0, none⟩, c2, A1, c1, by rw [HPL.out]; push_cast; rfl, by rw [HPL.out]; exact ho7.below (Below.refl _ _).drew, own_below (k3 _ _ _ _ _ _ HV6.out (by decide)) (Below.refl _ _).drew, h3, h3⟩
theorem putC7 : PutC7 := fun {W w ps k v A A' A'' n c n' c' n'' c'' B B' B''} hnc hI hk hv hn' hn'' h h' h'' hB => by
  have hn : n ≤ 8 := by have := h.length; have := hI.few; omega
  by_cases hlong : 8 < k.length ∨ 16 < v.length
  · have := put_refused (c := c) (c' := c') (c'' := c'') (by omega) (inv_lim hI) hI.byt hk (.inl hlong) h h' h''
    rw [if_pos hlong] at this
    have e1 : Mp.putS ps k v = ps := by unfold Mp.putS; rw [if_pos hlong]
    have e2 : Mp.putE ps k v = 1 := by unfold Mp.putE; rw [if_pos hlong]
    have e3 : Mp.putV ps k v = [] := by unfold Mp.putV; rw [if_pos hlong]
    have e4 : Mp.putN ps k v = 0 := by unfold Mp.putN; rw [if_pos hlong]
    rw [e1, e2, e3, e4]
    exact this.mono fun e w' h => GotPR.of hB h
  · by_cases hf : k ∉ Mp.keys ps ∧ 8 ≤ ps.length
    · have := put_refused (c := c) (c' := c') (c'' := c'') (by omega) (inv_lim hI) hI.byt hk (.inr hf) h h' h''
      rw [if_neg hlong] at this
      have e1 : Mp.putS ps k v = ps := by unfold Mp.putS; rw [if_neg hlong, if_neg hf.1, if_pos hf.2]
      have e2 : Mp.putE ps k v = 3 := by unfold Mp.putE; rw [if_neg hlong, if_neg hf.1, if_pos hf.2]
      have e3 : Mp.putV ps k v = [] := by unfold Mp.putV; rw [if_neg hlong, if_neg hf.1]
      have e4 : Mp.putN ps k v = 0 := by unfold Mp.putN; rw [if_neg hlong, if_neg hf.1, if_pos hf.2]
      rw [e1, e2, e3, e4]
      exact this.mono fun e w' h => GotPR.of hB h
    · have hf' : k ∈ Mp.keys ps ∨ ps.length < 8 := by
        by_cases hk : k ∈ Mp.keys ps
        · exact .inl hk
        · refine .inr ?_
          rcases Nat.lt_or_ge ps.length 8 with h | h
          · exact h
          · exact absurd ⟨hk, h⟩ hf
      obtain ⟨_, e2, e3, e4⟩ := Mp.put_made (v := v) hI.rise hlong hf'
      rw [e2, e3, e4]
      exact (put_done (c := c) (c' := c') (c'' := c'') (by omega) (inv_lim hI) hI.byt hk hI.rise hlong hf' h h' h'').mono fun e w' h => GotPR.of hB h
end Go.Proofs.YtaknfmionkkdjaaGreat

namespace Go.Proofs.YtaknfmionkkdjaaGreat
open Go.RowKit
set_option linter.unusedVariables false
/-- the variables of Apply: s, c, the two answers', next -/
structure VarsN (w wx : World) (b h : Nat) (a0 : OA) (s0 : Ob) (a : OA) (s : Ob) (ca : CA) (c : Cm) : Prop where
  vs : Blk wx b 30 (objC a0 s0)
  vc : Blk wx (b + 1) 38 (cmdC ca c)
  v2 : Blk wx (b + 1 + 1) 30 #[.slice none 0 0, .slice none 0 0, .slice none 0 0, .slice none 0 0]
  v3 : Blk wx (b + 1 + 1 + 1) 47 zeroR
  nx : Blk wx h 30 (objC a s)
  own : OwnO w wx a s
  bel : Below w.heap.size w wx
  lt : b + 1 + 1 + 1 < h
theorem VarsN.below {w wx wy : World} {b h : Nat} {a0 a : OA} {s0 s : Ob} {ca : CA} {c : Cm} (H : VarsN w wx b h a0 s0 a s ca c) (hb : Below wx.heap.size wx wy) : VarsN w wy b h a0 s0 a s ca c :=
  ⟨H.vs.below hb, H.vc.below hb, H.v2.below hb, H.v3.below hb, H.nx.below hb, H.own.below hb, H.bel.trans (hb.mono H.bel.size), H.lt⟩
section
variable {w wx : World} {b h g : Nat} {a0 a : OA} {s0 s : Ob} {ca : CA} {c : Cm} {x0 x1 x2 : Value}
/-- one cell of the answer's variable is written -/
theorem VarsN.res0 (H : VarsN w wx b h a0 s0 a s ca c) (hw : w.heap.size ≤ g) (hk : Blk wx g 47 #[x0, x1, x2]) (hg : g ≠ b + 1 + 1 + 1) (x : Value) :
    VarsN w (wx.setCell ⟨g, 0, none⟩ x) b h a0 s0 a s ca c ∧ Blk (wx.setCell ⟨g, 0, none⟩ x) g 47 #[x, x1, x2] := by
  have q1 : 5 ≠ 47 := by decide
  have q2 : 26 ≠ 47 := by decide
  have q3 : 3 ≠ 47 := by decide
  have q4 : 55 ≠ 47 := by decide
  have n0 : b ≠ g := H.vs.apart hk (by decide)
  have n1 : b + 1 ≠ g := H.vc.apart hk (by decide)
  have n2 : b + 1 + 1 ≠ g := H.v2.apart hk (by decide)
  have n3 : h ≠ g := H.nx.apart hk (by decide)
  exact ⟨⟨H.vs.set_other n0, H.vc.set_other n1, H.v2.set_other n2, H.v3.set_other hg.symm, H.nx.set_other n3,
    H.own.set_t hk q1 q2 q3 q4, H.bel.setCell (p := ⟨g, 0, none⟩) hw _, H.lt⟩, hk.set_ 0 x⟩
/-- the answer's variable is written -/
theorem VarsN.res (H : VarsN w wx b h a0 s0 a s ca c) (hw : w.heap.size ≤ g) (hk : Blk wx g 47 #[x0, x1, x2]) (hg : g ≠ b + 1 + 1 + 1) (x y z : Value) :
    VarsN w (((wx.setCell ⟨g, 0, none⟩ x).setCell ⟨g, 1, none⟩ y).setCell ⟨g, 2, none⟩ z) b h a0 s0 a s ca c ∧ Blk (((wx.setCell ⟨g, 0, none⟩ x).setCell ⟨g, 1, none⟩ y).setCell ⟨g, 2, none⟩ z) g 47 #[x, y, z] := by
  have q1 : 5 ≠ 47 := by decide
  have q2 : 26 ≠ 47 := by decide
  have q3 : 3 ≠ 47 := by decide
  have q4 : 55 ≠ 47 := by decide
  have n0 : b ≠ g := H.vs.apart hk (by decide)
  have n1 : b + 1 ≠ g := H.vc.apart hk (by decide)
  have n2 : b + 1 + 1 ≠ g := H.v2.apart hk (by decide)
  have n3 : h ≠ g := H.nx.apart hk (by decide)
  have k1 := hk.set_ 0 x
  have k2 := k1.set_ 1 y
  exact ⟨⟨((H.vs.set_other n0).set_other n0).set_other n0, ((H.vc.set_other n1).set_other n1).set_other n1, ((H.v2.set_other n2).set_other n2).set_other n2, ((H.v3.set_other hg.symm).set_other hg.symm).set_other hg.symm, ((H.nx.set_other n3).set_other n3).set_other n3,
    ((H.own.set_t hk q1 q2 q3 q4).set_t k1 q1 q2 q3 q4).set_t k2 q1 q2 q3 q4, ((H.bel.setCell (p := ⟨g, 0, none⟩) hw _).setCell (p := ⟨g, 1, none⟩) hw _).setCell (p := ⟨g, 2, none⟩) hw _, H.lt⟩, k2.set_ 2 z⟩
/-- next is written -/
theorem VarsN.set (H : VarsN w wx b h a0 s0 a s ca c) (hw : w.heap.size ≤ b) (i : Nat) (u : Value) {a' : OA} {s' : Ob} (hc : (objC a s).setIfInBounds i u = objC a' s') (ho : OwnO w wx a' s') : VarsN w (wx.setCell ⟨h, i, none⟩ u) b h a0 s0 a' s' ca c := by
  have q1 : 5 ≠ 30 := by decide
  have k1 := H.nx.set_ i u
  rw [hc] at k1
  have hl := H.lt
  have hwh : w.heap.size ≤ h := by omega
  exact ⟨H.vs.set_other (by omega), H.vc.set_other (by omega), H.v2.set_other (by omega), H.v3.set_other (by omega), k1, ho.set_t H.nx q1 (by decide) (by decide) (by decide), H.bel.setCell (p := ⟨h, i, none⟩) hwh _, hl⟩
/-- the walk's end behind a call that only answers -/
theorem VarsN.done (H : VarsN w wx b h a0 s0 a s ca c) (hk : Blk wx g 47 #[x0, x1, x2]) (hg : h ≠ g ∧ w.heap.size ≤ g ∧ g ≠ b + 1 + 1 + 1) {Ar : Option Addr} {cr : Nat} {v : List Nat} {e n : Int} (hv : OwnB w wx Ar v.length cr v) {r : Ans} (hr : r = ⟨s, e, v, n⟩) :
    ∃ a' Ar' cr', Hid (VarsN w (((wx.setCell ⟨g, 0, none⟩ (.int .i64 e)).setCell ⟨g, 1, none⟩ (.slice Ar v.length cr)).setCell ⟨g, 2, none⟩ (.int .i64 n)) b h a0 s0 a' r.s ca c) ∧
      Hid (Blk (((wx.setCell ⟨g, 0, none⟩ (.int .i64 e)).setCell ⟨g, 1, none⟩ (.slice Ar v.length cr)).setCell ⟨g, 2, none⟩ (.int .i64 n)) g 47 #[.int .i64 r.e, .slice Ar' r.v.length cr', .int .i64 r.n]) ∧
      Hid (OwnB w (((wx.setCell ⟨g, 0, none⟩ (.int .i64 e)).setCell ⟨g, 1, none⟩ (.slice Ar v.length cr)).setCell ⟨g, 2, none⟩ (.int .i64 n)) Ar' r.v.length cr' r.v) := by
  subst hr
  obtain ⟨q1, q2⟩ := H.res hg.2.1 hk hg.2.2 (.int .i64 e) (.slice Ar v.length cr) (.int .i64 n)
  exact ⟨a, Ar, cr, Lib.hid q1, Lib.hid q2, Lib.hid (own_res hv hk _ _ _)⟩
/-- .. that makes one of the objects anew -/
theorem VarsN.doneSet (H : VarsN w wx b h a0 s0 a s ca c) (hk : Blk wx g 47 #[x0, x1, x2]) (hg : h ≠ g ∧ w.heap.size ≤ g ∧ g ≠ b + 1 + 1 + 1) (hw : w.heap.size ≤ b) (i : Nat) (u : Value) (a' : OA) (s' : Ob) (hc : (objC a s).setIfInBounds i u = objC a' s') (ho : OwnO w wx a' s')
    {Ar : Option Addr} {cr : Nat} {v : List Nat} {e n : Int} (hv : OwnB w wx Ar v.length cr v) {r : Ans} (hr : r = ⟨s', e, v, n⟩) :
    ∃ a' Ar' cr', Hid (VarsN w ((((wx.setCell ⟨h, i, none⟩ u).setCell ⟨g, 0, none⟩ (.int .i64 e)).setCell ⟨g, 1, none⟩ (.slice Ar v.length cr)).setCell ⟨g, 2, none⟩ (.int .i64 n)) b h a0 s0 a' r.s ca c) ∧
      Hid (Blk ((((wx.setCell ⟨h, i, none⟩ u).setCell ⟨g, 0, none⟩ (.int .i64 e)).setCell ⟨g, 1, none⟩ (.slice Ar v.length cr)).setCell ⟨g, 2, none⟩ (.int .i64 n)) g 47 #[.int .i64 r.e, .slice Ar' r.v.length cr', .int .i64 r.n]) ∧
      Hid (OwnB w ((((wx.setCell ⟨h, i, none⟩ u).setCell ⟨g, 0, none⟩ (.int .i64 e)).setCell ⟨g, 1, none⟩ (.slice Ar v.length cr)).setCell ⟨g, 2, none⟩ (.int .i64 n)) Ar' r.v.length cr' r.v) :=
  VarsN.done (H.set hw i u hc ho) (hk.set_other hg.1.symm) hg (own_set_t hv H.nx (by decide)) hr
/-- the two answers' variables are written -/
theorem VarsN.end_ (H : VarsN w wx b h a0 s0 a s ca c) (hw : w.heap.size ≤ b) {Ar : Option Addr} {cr n : Nat} {v : List Nat} (hv : OwnB w wx Ar n cr v) (x0 x1 x2 x3 y0 y1 y2 : Value) :
    let wy := (((((((wx.setCell ⟨b + 1 + 1, 0, none⟩ x0).setCell ⟨b + 1 + 1, 1, none⟩ x1).setCell ⟨b + 1 + 1, 2, none⟩ x2).setCell ⟨b + 1 + 1, 3, none⟩ x3).setCell ⟨b + 1 + 1 + 1, 0, none⟩ y0).setCell ⟨b + 1 + 1 + 1, 1, none⟩ y1).setCell ⟨b + 1 + 1 + 1, 2, none⟩ y2)
    Blk wy (b + 1 + 1) 30 #[x0, x1, x2, x3] ∧ Blk wy (b + 1 + 1 + 1) 47 #[y0, y1, y2] ∧ OwnO w wy a s ∧ OwnB w wy Ar n cr v ∧ Below w.heap.size w wy := by
  intro wy
  have k0 := H.v2
  have k1 := k0.set_ 0 x0
  have k2 := k1.set_ 1 x1
  have k3 := k2.set_ 2 x2
  have k4 := k3.set_ 3 x3
  have l0 := (((H.v3.set_other (i := 0) (u := x0) (b := b + 1 + 1) (by omega)).set_other (i := 1) (u := x1) (b := b + 1 + 1) (by omega)).set_other (i := 2) (u := x2) (b := b + 1 + 1) (by omega)).set_other (i := 3) (u := x3) (b := b + 1 + 1) (by omega)
  have l1 := l0.set_ 0 y0
  have l2 := l1.set_ 1 y1
  have l3 := l2.set_ 2 y2
  have q1 : 5 ≠ 30 := by decide
  have q2 : 26 ≠ 30 := by decide
  have q3 : 3 ≠ 30 := by decide
  have q4 : 55 ≠ 30 := by decide
  have r1 : 5 ≠ 47 := by decide
  have r2 : 26 ≠ 47 := by decide
  have r3 : 3 ≠ 47 := by decide
  have r4 : 55 ≠ 47 := by decide
  have hw2 : w.heap.size ≤ b + 1 + 1 := by omega
  have hw3 : w.heap.size ≤ b + 1 + 1 + 1 := by omega
  refine ⟨((k4.set_other (i := 0) (u := y0) (b := b + 1 + 1 + 1) (by omega)).set_other (i := 1) (u := y1) (b := b + 1 + 1 + 1) (by omega)).set_other (i := 2) (u := y2) (b := b + 1 + 1 + 1) (by omega), l3,
    ((((((H.own.set_t k0 q1 q2 q3 q4).set_t k1 q1 q2 q3 q4).set_t k2 q1 q2 q3 q4).set_t k3 q1 q2 q3 q4).set_t l0 r1 r2 r3 r4).set_t l1 r1 r2 r3 r4).set_t l2 r1 r2 r3 r4,
    own_set_t (own_set_t (own_set_t (own_set_t (own_set_t (own_set_t (own_set_t hv k0 q1) k1 q1) k2 q1) k3 q1) l0 r1) l1 r1) l2 r1,
    ((((((H.bel.setCell (p := ⟨b + 1 + 1, 0, none⟩) hw2 _).setCell (p := ⟨b + 1 + 1, 1, none⟩) hw2 _).setCell (p := ⟨b + 1 + 1, 2, none⟩) hw2 _).setCell (p := ⟨b + 1 + 1, 3, none⟩) hw2 _).setCell (p := ⟨b + 1 + 1 + 1, 0, none⟩) hw3 _).setCell (p := ⟨b + 1 + 1 + 1, 1, none⟩) hw3 _).setCell (p := ⟨b + 1 + 1 + 1, 2, none⟩) hw3 _⟩
end
/-- a command that can't be handed on -/
theorem Ob.apply_bad {s : Ob} {c : Cm} (h : c.known = false) : s.apply c = ⟨s, 7, [], 0⟩ := by
  have h := of_decide_eq_false h
  unfold Ob.apply
  rw [if_neg (by omega), if_neg (by omega), if_neg (by omega), if_neg (by omega), if_neg (by omega), if_neg (by omega), if_neg (by omega), if_neg (by omega), if_neg (by omega), if_neg (by omega), if_neg (by omega)]
set_option maxHeartbeats 8000000 in
set_option maxRecDepth 100000 in
theorem apply8_raw {w : World} {a : OA} {ca : CA} {s : Ob} {c : Cm} {B B' : Nat} (hI : s.Inv) (hc : c.Fits) (h : RdO w B a s) (h' : RdC w B' ca c) :
    Calls Tryz.prog 66 #[objV a s, cmdV ca c] w (GotO w w (s.apply c)) := by
  obtain ⟨A0, c0, A1, c1, A2, c2, A3, c3⟩ := a
  obtain ⟨Ak, ck, Av, cv, Ao, co⟩ := ca
  have HI := Lib.hid hI
  have HF := Lib.hid hc
  obtain ⟨b, hb⟩ : ∃ b, w.heap.size = b := ⟨_, rfl⟩
  obtain ⟨wz, hwz⟩ : ∃ wz, (((w.alloc (.cells (objC ⟨A0, c0, A1, c1, A2, c2, A3, c3⟩ s) 30)).alloc (.cells (cmdC ⟨Ak, ck, Av, cv, Ao, co⟩ c) 38)).alloc (.cells #[.slice none 0 0, .slice none 0 0, .slice none 0 0, .slice none 0 0] 30)).alloc (.cells zeroR 47) = wz := ⟨_, rfl⟩
  have hbz : Below w.heap.size w wz := by
    rw [← hwz]; exact ((((Below.refl _ _).alloc (Nat.le_refl _) _).alloc (by simp) _).alloc (by simp; omega) _).alloc (by simp; omega) _
  have H := Lib.hid ((h.fit.below hbz).fit)
  have H' := Lib.hid ((h'.fit.below hbz).fit)
  have HC0 := Lib.hid h'.fit
  have HS0 := Lib.hid h.fit
  have HBZ := Lib.hid hbz
  have HV : Hid (Blk wz b 30 (objC ⟨A0, c0, A1, c1, A2, c2, A3, c3⟩ s) ∧ Blk wz (b + 1) 38 (cmdC ⟨Ak, ck, Av, cv, Ao, co⟩ c) ∧ Blk wz (b + 1 + 1) 30 #[.slice none 0 0, .slice none 0 0, .slice none 0 0, .slice none 0 0] ∧ Blk wz (b + 1 + 1 + 1) 47 zeroR) := Lib.hid (by
    subst hb
    rw [← hwz]
    refine ⟨(((Blk.new _ _ _).alloc _).alloc _).alloc _, ?_, ?_, ?_⟩
    · have := ((Blk.new (w.alloc (.cells (objC ⟨A0, c0, A1, c1, A2, c2, A3, c3⟩ s) 30)) 38 (cmdC ⟨Ak, ck, Av, cv, Ao, co⟩ c)).alloc (.cells #[.slice none 0 0, .slice none 0 0, .slice none 0 0, .slice none 0 0] 30)).alloc (.cells zeroR 47)
      rwa [World.size_alloc] at this
    · have := (Blk.new ((w.alloc (.cells (objC ⟨A0, c0, A1, c1, A2, c2, A3, c3⟩ s) 30)).alloc (.cells (cmdC ⟨Ak, ck, Av, cv, Ao, co⟩ c) 38)) 30 #[.slice none 0 0, .slice none 0 0, .slice none 0 0, .slice none 0 0]).alloc (.cells zeroR 47)
      rwa [World.size_alloc, World.size_alloc] at this
    · have := Blk.new (((w.alloc (.cells (objC ⟨A0, c0, A1, c1, A2, c2, A3, c3⟩ s) 30)).alloc (.cells (cmdC ⟨Ak, ck, Av, cv, Ao, co⟩ c) 38)).alloc (.cells #[.slice none 0 0, .slice none 0 0, .slice none 0 0, .slice none 0 0] 30)) 47 zeroR
      rwa [World.size_alloc, World.size_alloc, World.size_alloc] at this)
  have HW := Lib.hid hwz
  have HBB := Lib.hid hb
  clear h h' hI hc hbz hwz hb
  unfold objV cmdV
  simp only [objC, cmdC] at HW ⊢
  go_enter Tryz.func66, Tryz.ntmps66
  go_upto_region 1 with fail
  rw [HBB.out]
  rw [HW.out]
  have hv := HV.out.1
  simp only [objC] at hv
  obtain ⟨p0, p1, p2, p3, _, _, _, _⟩ := four hv
  clear hv
  go_upto_region 3 with (first
    | (go_at_call 61; refine (copied8 (W := w) (a := ⟨A0, c0, A1, c1, A2, c2, A3, c3⟩) HI.out H.out HBZ.out).mono ?_; rintro e w1 ⟨⟨A5, c5, A6, c6, A7, c7, A8, c8⟩, rfl, ho1, hB1, hb1⟩; unfold objV; simp only [objC])
    | fail)
  have HWB := Lib.hid (show w.heap.size ≤ b by have := HBB.out; omega)
  obtain ⟨h, hh⟩ : ∃ x, w1.heap.size = x := ⟨_, rfl⟩
  have hb2 : Below w1.heap.size w1 (w1.alloc (.cells #[.slice A5 s.reg.length c5, .slice A6 s.q.length c6, .slice A7 s.lk.length c7, .slice A8 s.mp.length c8] 30)) := (Below.refl _ _).alloc (Nat.le_refl _) _
  have hb3 := hb2.alloc (Nat.le_of_lt (by simp)) (.cells zeroR 47)
  have HX3 : Hid (VarsN w ((w1.alloc (.cells #[.slice A5 s.reg.length c5, .slice A6 s.q.length c6, .slice A7 s.lk.length c7, .slice A8 s.mp.length c8] 30)).alloc (.cells zeroR 47)) b h ⟨A0, c0, A1, c1, A2, c2, A3, c3⟩ s ⟨A5, c5, A6, c6, A7, c7, A8, c8⟩ s ⟨Ak, ck, Av, cv, Ao, co⟩ c) := Lib.hid (by
    have hbb := hb1.trans (hb3.mono hb1.size)
    have k1 := HV.out.2.2.2.lt
    have k2 := hb1.size
    refine ⟨HV.out.1.below hbb, HV.out.2.1.below hbb, HV.out.2.2.1.below hbb, HV.out.2.2.2.below hbb, ?_, ho1.below hb3, hB1.trans (hb3.mono hB1.size), by omega⟩
    rw [← hh]
    exact (Blk.new _ _ _).alloc _)
  have HK3 : Hid (Blk ((w1.alloc (.cells #[.slice A5 s.reg.length c5, .slice A6 s.q.length c6, .slice A7 s.lk.length c7, .slice A8 s.mp.length c8] 30)).alloc (.cells zeroR 47)) (h + 1) 47 zeroR) := Lib.hid (by
    have := Blk.new (w1.alloc (.cells #[.slice A5 s.reg.length c5, .slice A6 s.q.length c6, .slice A7 s.lk.length c7, .slice A8 s.mp.length c8] 30)) 47 zeroR
    rwa [World.size_alloc, hh] at this)
  have HGB : Hid (h ≠ h + 1 ∧ w.heap.size ≤ h + 1 ∧ h + 1 ≠ b + 1 + 1 + 1) := Lib.hid (by have h1 := HX3.out.lt; have h3 := HWB.out; omega)
  rw [hh]
  obtain ⟨w3, hw3⟩ : ∃ x, (w1.alloc (.cells #[.slice A5 s.reg.length c5, .slice A6 s.q.length c6, .slice A7 s.lk.length c7, .slice A8 s.mp.length c8] 30)).alloc (.cells zeroR 47) = x := ⟨_, rfl⟩
  rw [hw3] at HX3 HK3 ⊢
  have HHG := Lib.hid (show h + 1 = h + 1 from rfl)
  obtain ⟨g, hg⟩ : ∃ x, h + 1 = x := ⟨_, rfl⟩
  rw [hg] at HK3 HGB ⊢
  clear hw3 hb1 hb2 hb3 ho1 hB1 hh hg HHG H H' HV HW HBZ p0 p1 p2 p3
  have hy := HX3.out.vc
  simp only [cmdC] at hy
  obtain ⟨y0, y1, y2, y3, y4⟩ := five hy
  clear hy
  have hkn : ∀ w, Calls Tryz.prog 96 #[.agg #[.int .i64 c.kind, .int .i64 c.who, .slice Ak c.key.length ck, .slice Av c.val.length cv, .slice Ao c.old.length co]] w fun e w' => e = .returned (.bool c.known) ∧ Below w.heap.size w w' := fun w => isKnown_any w ⟨Ak, ck, Av, cv, Ao, co⟩ c
  have hgh : g ≠ h := HGB.out.1.symm
  have hhg : h ≠ g := HGB.out.1
  cases hq : c.known with
  | false =>
    rw [hq] at hkn
    have HKN := Lib.hid hkn
    have HQ0 := Lib.hid (Ob.apply_bad (s := s) hq)
    clear hkn hq
    go_upto_region 5 with (first
      | (go_at_call 96; refine (HKN.out _).mono ?_; rintro e w4 ⟨rfl, hb4⟩; have HX4 := Lib.hid (HX3.out.below hb4); have HK4 := Lib.hid (HK3.out.below hb4); obtain ⟨z0, z1, z2, d0, d1, d2⟩ := three HK4.out)
      | fail)
    have hrr := HX4.out.res0 HGB.out.2.1 HK4.out HGB.out.2.2 (.int .i64 7)
    obtain ⟨r, hr⟩ : ∃ r, s.apply c = r := ⟨_, rfl⟩
    have hr2 : r = ⟨s, 7, [], 0⟩ := hr.symm.trans HQ0.out
    obtain ⟨w5, hw5⟩ : ∃ x, w4.setCell ⟨g, 0, none⟩ (.int .i64 7) = x := ⟨_, rfl⟩
    rw [hw5] at hrr ⊢
    have HX5 : Hid (VarsN w w5 b h ⟨A0, c0, A1, c1, A2, c2, A3, c3⟩ s ⟨A5, c5, A6, c6, A7, c7, A8, c8⟩ r.s ⟨Ak, ck, Av, cv, Ao, co⟩ c) := Lib.hid (by rw [hr2]; exact hrr.1)
    have HK5 : Hid (Blk w5 g 47 #[.int .i64 r.e, .slice none r.v.length 0, .int .i64 r.n]) := Lib.hid (by rw [hr2]; exact hrr.2)
    have HV5 : Hid (OwnB w w5 none r.v.length 0 r.v) := Lib.hid (by rw [hr2]; exact own_nil _ _)
    have HR := Lib.hid hr
    have hsl : s = r.s := by rw [hr2]
    obtain ⟨A5', h5⟩ : ∃ x, A5 = x := ⟨_, rfl⟩
    obtain ⟨A6', h6⟩ : ∃ x, A6 = x := ⟨_, rfl⟩
    obtain ⟨A7', h7⟩ : ∃ x, A7 = x := ⟨_, rfl⟩
    obtain ⟨A8', h8⟩ : ∃ x, A8 = x := ⟨_, rfl⟩
    obtain ⟨c5', k5⟩ : ∃ x, c5 = x := ⟨_, rfl⟩
    obtain ⟨c6', k6⟩ : ∃ x, c6 = x := ⟨_, rfl⟩
    obtain ⟨c7', k7⟩ : ∃ x, c7 = x := ⟨_, rfl⟩
    obtain ⟨c8', k8⟩ : ∃ x, c8 = x := ⟨_, rfl⟩
    rw [h5, h6, h7, h8, k5, k6, k7, k8] at HX5
    obtain ⟨Ar, hAr⟩ : ∃ x : Option Addr, none = x := ⟨_, rfl⟩
    obtain ⟨cr, hcr⟩ : ∃ x : Nat, 0 = x := ⟨_, rfl⟩
    rw [hAr, hcr] at HK5 HV5
    obtain ⟨v0, v1, v2, v3, e0, e1, e2, e3⟩ := four HX5.out.v2
    obtain ⟨t0, t1, t2, d0, d1, d2⟩ := three HX5.out.v3
    have hx := HX5.out.nx
    simp only [objC] at hx
    obtain ⟨p0, p1, p2, p3, _, _, _, _⟩ := four hx
    obtain ⟨z0, z1, z2, _, _, _⟩ := three HK5.out
    have n1 : ¬ g = b + 1 + 1 := fun e => HX5.out.v2.apart HK5.out (by decide) e.symm
    have n2 : ¬ g = b + 1 + 1 + 1 := HGB.out.2.2
    clear hrr hw5 hr hr2 hsl h5 h6 h7 h8 k5 k6 k7 k8 hAr hcr hx HX3 HK3 HX4 HK4 hb4 HQ0 HKN HC0 HS0 HI HF y0 y1 y2 y3 y4 hgh hhg
    refine wp_region_held_drew (S := fun w' => Blk w' h 30 #[.slice A5' r.s.reg.length c5', .slice A6' r.s.q.length c6', .slice A7' r.s.lk.length c7', .slice A8' r.s.mp.length c8'] ∧ Blk w' g 47 #[.int .i64 r.e, .slice Ar r.v.length cr, .int .i64 r.n]) (by kernel_rfl) ⟨HX5.out.nx.drew, HK5.out.drew⟩ (fun _ => ?_)
    have hl := HX5.out.lt
    have HX6 := Lib.hid (HX5.out.below (Below.refl _ _).drew)
    have HV6 := Lib.hid (own_below HV5.out (Below.refl w5.heap.size w5).drew)
    have HS := Lib.hid (And.intro HX5.out.nx.drew HK5.out.drew)
    simp only [objC] at HS
    clear HX5 HK5 HV5 p0 p1 p2 p3 z0 z1 z2 v0 v1 v2 v3 e0 e1 e2 e3 t0 t1 t2 d0 d1 d2
    generalize w5.drew = w6 at HX6 HV6 HS ⊢
    obtain ⟨v0, v1, v2, v3, e0, e1, e2, e3⟩ := four HX6.out.v2
    refine wpAnyH_take (i := 0) (v := .agg #[.slice A5' r.s.reg.length c5', .slice A6' r.s.q.length c6', .slice A7' r.s.lk.length c7', .slice A8' r.s.mp.length c8']) rfl (by kernel_rfl) (by kernel_rfl) (by kernel_rfl) (fun _ _ _ h => h) (Or.inl ⟨by kernel_rfl, fun w h => by obtain ⟨p0, p1, p2, p3, _, _, _, _⟩ := four h.1; go_simp⟩) HS.out ?_
    refine wpAnyH_take (i := 1) (v := .agg #[.int .i64 r.e, .slice Ar r.v.length cr, .int .i64 r.n]) rfl (by kernel_rfl) (by kernel_rfl) (by kernel_rfl) (fun _ _ _ h => h) (Or.inl ⟨by kernel_rfl, fun w h => by obtain ⟨p0, p1, p2, _, _, _⟩ := three h.2; go_simp⟩) HS.out ?_
    have HS2 := Lib.hid (show Blk ((((w6.setCell ⟨b + 1 + 1, 0, none⟩ (.slice A5' r.s.reg.length c5')).setCell ⟨b + 1 + 1, 1, none⟩ (.slice A6' r.s.q.length c6')).setCell ⟨b + 1 + 1, 2, none⟩ (.slice A7' r.s.lk.length c7')).setCell ⟨b + 1 + 1, 3, none⟩ (.slice A8' r.s.mp.length c8')) h 30 #[.slice A5' r.s.reg.length c5', .slice A6' r.s.q.length c6', .slice A7' r.s.lk.length c7', .slice A8' r.s.mp.length c8'] ∧ Blk ((((w6.setCell ⟨b + 1 + 1, 0, none⟩ (.slice A5' r.s.reg.length c5')).setCell ⟨b + 1 + 1, 1, none⟩ (.slice A6' r.s.q.length c6')).setCell ⟨b + 1 + 1, 2, none⟩ (.slice A7' r.s.lk.length c7')).setCell ⟨b + 1 + 1, 3, none⟩ (.slice A8' r.s.mp.length c8')) g 47 #[.int .i64 r.e, .slice Ar r.v.length cr, .int .i64 r.n] from
      ⟨(((HS.out.1.set_other (by omega)).set_other (by omega)).set_other (by omega)).set_other (by omega), (((HS.out.2.set_other n1).set_other n1).set_other n1).set_other n1⟩)
    refine wpAnyH_ready (rs := [2]) (by kernel_rfl) (by simp) ?_
    refine AllReadyH.cons rfl (fun K hK => ?_) AllReadyH.nil
    go_simp
    refine hK.out _ _ HS2.out (fun _ => ?_)
    clear hK K v0 v1 v2 v3 e0 e1 e2 e3
    obtain ⟨t0, t1, t2, d0, d1, d2⟩ := three ((((HX6.out.v3.set_other (i := 0) (u := .slice A5' r.s.reg.length c5') (b := b + 1 + 1) (by omega)).set_other (i := 1) (u := .slice A6' r.s.q.length c6') (b := b + 1 + 1) (by omega)).set_other (i := 2) (u := .slice A7' r.s.lk.length c7') (b := b + 1 + 1) (by omega)).set_other (i := 3) (u := .slice A8' r.s.mp.length c8') (b := b + 1 + 1) (by omega))
    obtain ⟨q1, q2, q3, q4, q5⟩ := HX6.out.end_ HWB.out HV6.out (.slice A5' r.s.reg.length c5') (.slice A6' r.s.q.length c6') (.slice A7' r.s.lk.length c7') (.slice A8' r.s.mp.length c8') (.int .i64 r.e) (.slice Ar r.v.length cr) (.int .i64 r.n)
    have HQ := Lib.hid (And.intro q1 (And.intro q2 (And.intro q3 (And.intro q4 q5))))
    have HS3 := Lib.hid (And.intro (((HS2.out.1.set_other (i := 0) (u := .int .i64 r.e) (b := b + 1 + 1 + 1) (by omega)).set_other (i := 1) (u := .slice Ar r.v.length cr) (b := b + 1 + 1 + 1) (by omega)).set_other (i := 2) (u := .int .i64 r.n) (b := b + 1 + 1 + 1) (by omega)) (((HS2.out.2.set_other (i := 0) (u := .int .i64 r.e) n2).set_other (i := 1) (u := .slice Ar r.v.length cr) n2).set_other (i := 2) (u := .int .i64 r.n) n2))
    clear q1 q2 q3 q4 q5 HX6 HV6 HS
    generalize (((w6.setCell ⟨b + 1 + 1, 0, none⟩ (.slice A5' r.s.reg.length c5')).setCell ⟨b + 1 + 1, 1, none⟩ (.slice A6' r.s.q.length c6')).setCell ⟨b + 1 + 1, 2, none⟩ (.slice A7' r.s.lk.length c7')).setCell ⟨b + 1 + 1, 3, none⟩ (.slice A8' r.s.mp.length c8') = w7 at HQ HS2 HS3 t0 t1 t2 d0 d1 d2 ⊢
    refine wpAnyH_ready (rs := [3]) (by kernel_rfl) (by simp) ?_
    refine AllReadyH.cons rfl (fun K hK => ?_) AllReadyH.nil
    go_simp
    refine hK.out _ _ HS3.out (fun _ => ?_)
    clear hK K t0 t1 t2 d0 d1 d2
    refine wpAnyH_done (by kernel_rfl) ?_ _
    go_wp2_with fail
    refine bodyPost_ret (results_cells2 rfl _ _ _ _ _ _ _ _ _ _ rfl rfl HQ.out.1 HQ.out.2.1 Tryz.underlying30 rfl (by kernel_rfl) Tryz.underlying47 rfl (by kernel_rfl)) rfl ?_
    rw [HR.out]
    exact ⟨⟨A5', c5', A6', c6', A7', c7', A8', c8'⟩, Ar, cr, rfl, HQ.out.2.2.1, HQ.out.2.2.2.1, HQ.out.2.2.2.2, HQ.out.2.2.2.2⟩
  | true =>
    rw [hq] at hkn
    have HKN := Lib.hid hkn
    have HKW := Lib.hid (of_decide_eq_true hq)
    clear hkn hq
    go_upto_block 0 with (first
      | (go_at_call 96; refine (HKN.out _).mono ?_; rintro e w4 ⟨rfl, hb4⟩
         have HX4 := Lib.hid (HX3.out.below hb4)
         have HK4 := Lib.hid (HK3.out.below hb4)
         have hy := HX4.out.vc
         simp only [cmdC] at hy
         obtain ⟨y0, y1, y2, y3, y4⟩ := five hy
         clear hy)
      | fail)
    clear HX3 HK3 hb4 HKN
    obtain ⟨w3', hw3⟩ : ∃ x, w4 = x := ⟨_, rfl⟩
    rw [hw3] at HX4 HK4 y0 y1 y2 y3 y4 ⊢
    clear hw3
    have HX3 := HX4
    have HK3 := HK4
    clear HX4 HK4
    have hx := HX3.out.vs
    simp only [objC] at hx
    obtain ⟨p0, p1, p2, p3, _, _, _, _⟩ := four hx
    clear hx
    go_cut [] from 18 to 124 (fun wx => ∃ a' Ar cr, Hid (VarsN w wx b h ⟨A0, c0, A1, c1, A2, c2, A3, c3⟩ s a' (s.apply c).s ⟨Ak, ck, Av, cv, Ao, co⟩ c) ∧ Hid (Blk wx g 47 #[.int .i64 (s.apply c).e, .slice Ar (s.apply c).v.length cr, .int .i64 (s.apply c).n]) ∧ Hid (OwnB w wx Ar (s.apply c).v.length cr (s.apply c).v))
    case first =>
      by_cases hkk : c.kind = 1
      · have k1 : (c.kind == 1) = true := by simp; omega
        obtain ⟨r, hr⟩ : ∃ r, s.apply c = r := ⟨_, rfl⟩
        have hr2 := hr
        unfold Ob.apply at hr2
        rw [if_pos (by omega)] at hr2
        have hcall := read_any (W := w) (c := c0) (by have := HI.out.reg; unfold Lim; omega) (HS0.out.below HX3.out.bel).r0 HX3.out.bel
        have HR := Lib.hid (hr.trans hr2.symm)
        have HCALL := Lib.hid hcall
        clear hr hr2 hkk hcall
        go_wp2_with (first
          | (go_at_call 97; refine HCALL.out.mono ?_; rintro e w4 ⟨Ar, cr, rfl, hv4, hB4, hb4⟩; unfold resV; have HX4 := Lib.hid (HX3.out.below hb4); have HK4 := Lib.hid (HK3.out.below hb4); have hx := HX4.out.nx; simp only [objC] at hx; obtain ⟨p0, p1, p2, p3, e0, e1, e2, e3⟩ := four hx; obtain ⟨z0, z1, z2, d0, d1, d2⟩ := three HK4.out; clear hx)
          | fail)
        go_meet
        exact HX4.out.done HK4.out HGB.out hv4 HR.out
      by_cases hkk : c.kind = 2
      · have k1 : (c.kind == 1) = false := by simp; omega
        have k2 : (c.kind == 2) = true := by simp; omega
        obtain ⟨r, hr⟩ : ∃ r, s.apply c = r := ⟨_, rfl⟩
        have hr2 := hr
        unfold Ob.apply at hr2
        rw [if_neg (by omega), if_pos (by omega)] at hr2
        have hcall := write_any (W := w) (c := c0) (c' := cv) (by have := HI.out.reg; unfold Lim; omega) (by have := HF.out.val.1; unfold Lim; omega) (HS0.out.below HX3.out.bel).r0 (HC0.out.below HX3.out.bel).rv HX3.out.bel
        obtain ⟨l2, hl2⟩ : ∃ x, (if c.val.length ≤ 16 then c.val else s.reg) = x := ⟨_, rfl⟩
        obtain ⟨e2, he2⟩ : ∃ x, (if c.val.length ≤ 16 then (0 : Int) else 1) = x := ⟨_, rfl⟩
        rw [hl2, he2] at hr2 hcall
        have HR := Lib.hid (hr.trans hr2.symm)
        have HCALL := Lib.hid hcall
        clear hr hr2 hkk hcall hl2 he2
        go_wp2_with (first
          | (go_at_call 98; refine HCALL.out.mono ?_; rintro e w4 ⟨An, cn, Ar, cr, rfl, ho4, hv4, hB4, hb4⟩; unfold resV; have HX4 := Lib.hid (HX3.out.below hb4); have HK4 := Lib.hid (HK3.out.below hb4); have hx := HX4.out.nx; simp only [objC] at hx; obtain ⟨p0, p1, p2, p3, e0, e1, e2, e3⟩ := four hx; obtain ⟨z0, z1, z2, d0, d1, d2⟩ := three HK4.out; clear hx)
          | fail)
        go_meet
        exact HX4.out.doneSet HK4.out HGB.out HWB.out 0 (.slice An l2.length cn) ⟨An, cn, A6, c6, A7, c7, A8, c8⟩ { s with reg := l2 } rfl ⟨ho4, HX4.out.own.o1, HX4.out.own.o2, HX4.out.own.o3⟩ hv4 HR.out
      by_cases hkk : c.kind = 3
      · have k1 : (c.kind == 1) = false := by simp; omega
        have k2 : (c.kind == 2) = false := by simp; omega
        have k3 : (c.kind == 3) = true := by simp; omega
        obtain ⟨r, hr⟩ : ∃ r, s.apply c = r := ⟨_, rfl⟩
        have hr2 := hr
        unfold Ob.apply at hr2
        rw [if_neg (by omega), if_neg (by omega), if_pos (by omega)] at hr2
        have hcall := cas_any (W := w) (c := c0) (c' := cv) (c2 := co) (by have := HI.out.reg; unfold Lim; omega) (by have := HF.out.val.1; unfold Lim; omega) HI.out.regb HF.out.old.2 (HS0.out.below HX3.out.bel).r0 (HC0.out.below HX3.out.bel).rv (HC0.out.below HX3.out.bel).ro HX3.out.bel
        obtain ⟨l2, hl2⟩ : ∃ x, casS s.reg c.old c.val = x := ⟨_, rfl⟩
        obtain ⟨e2, he2⟩ : ∃ x, casE s.reg c.old c.val = x := ⟨_, rfl⟩
        obtain ⟨v2, hv2⟩ : ∃ x, casV s.reg c.old c.val = x := ⟨_, rfl⟩
        rw [hl2, he2, hv2] at hr2 hcall
        have HR := Lib.hid (hr.trans hr2.symm)
        have HCALL := Lib.hid hcall
        clear hr hr2 hkk hcall hl2 he2 hv2
        go_wp2_with (first
          | (go_at_call 99; refine HCALL.out.mono ?_; rintro e w4 ⟨An, cn, Ar, cr, rfl, ho4, hv4, hB4, hb4⟩; unfold resV; have HX4 := Lib.hid (HX3.out.below hb4); have HK4 := Lib.hid (HK3.out.below hb4); have hx := HX4.out.nx; simp only [objC] at hx; obtain ⟨p0, p1, p2, p3, e0, e1, e2, e3⟩ := four hx; obtain ⟨z0, z1, z2, d0, d1, d2⟩ := three HK4.out; clear hx)
          | fail)
        go_meet
        exact HX4.out.doneSet HK4.out HGB.out HWB.out 0 (.slice An l2.length cn) ⟨An, cn, A6, c6, A7, c7, A8, c8⟩ { s with reg := l2 } rfl ⟨ho4, HX4.out.own.o1, HX4.out.own.o2, HX4.out.own.o3⟩ hv4 HR.out
      by_cases hkk : c.kind = 4
      · have k1 : (c.kind == 1) = false := by simp; omega
        have k2 : (c.kind == 2) = false := by simp; omega
        have k3 : (c.kind == 3) = false := by simp; omega
        have k4 : (c.kind == 4) = true := by simp; omega
        obtain ⟨r, hr⟩ : ∃ r, s.apply c = r := ⟨_, rfl⟩
        have hr2 := hr
        unfold Ob.apply at hr2
        rw [if_neg (by omega), if_neg (by omega), if_neg (by omega), if_pos (by omega)] at hr2
        have hcall := push_any (W := w) (c := c1) (c' := cv) (by have := HI.out.ql; omega) (fun l hl => by have := HI.out.qv l hl; unfold Lim; omega) (by have := HF.out.val.1; unfold Lim; omega) (HS0.out.below HX3.out.bel).r1 (HC0.out.below HX3.out.bel).rv HX3.out.bel
        obtain ⟨l2, hl2⟩ : ∃ x, pushS s.q c.val = x := ⟨_, rfl⟩
        obtain ⟨e2, he2⟩ : ∃ x, pushE s.q c.val = x := ⟨_, rfl⟩
        obtain ⟨n2, hn2⟩ : ∃ x, pushN s.q c.val = x := ⟨_, rfl⟩
        rw [hl2, he2, hn2] at hr2 hcall
        have HR := Lib.hid (hr.trans hr2.symm)
        have HCALL := Lib.hid hcall
        clear hr hr2 hkk hcall hl2 he2 hn2
        go_wp2_with (first
          | (go_at_call 100; refine HCALL.out.mono ?_; rintro e w4 ⟨An, cn, Ar, cr, rfl, ho4, hv4, hB4, hb4⟩; unfold resV; have HX4 := Lib.hid (HX3.out.below hb4); have HK4 := Lib.hid (HK3.out.below hb4); have hx := HX4.out.nx; simp only [objC] at hx; obtain ⟨p0, p1, p2, p3, e0, e1, e2, e3⟩ := four hx; obtain ⟨z0, z1, z2, d0, d1, d2⟩ := three HK4.out; clear hx)
          | fail)
        go_meet
        exact HX4.out.doneSet HK4.out HGB.out HWB.out 1 (.slice An l2.length cn) ⟨A5, c5, An, cn, A7, c7, A8, c8⟩ { s with q := l2 } rfl ⟨HX4.out.own.o0, ho4, HX4.out.own.o2, HX4.out.own.o3⟩ hv4 HR.out
      by_cases hkk : c.kind = 5
      · have k1 : (c.kind == 1) = false := by simp; omega
        have k2 : (c.kind == 2) = false := by simp; omega
        have k3 : (c.kind == 3) = false := by simp; omega
        have k4 : (c.kind == 4) = false := by simp; omega
        have k5 : (c.kind == 5) = true := by simp; omega
        obtain ⟨r, hr⟩ : ∃ r, s.apply c = r := ⟨_, rfl⟩
        have hr2 := hr
        unfold Ob.apply at hr2
        rw [if_neg (by omega), if_neg (by omega), if_neg (by omega), if_neg (by omega), if_pos (by omega)] at hr2
        have hcall := pop_any (W := w) (c := c1) (by have := HI.out.ql; omega) (HS0.out.below HX3.out.bel).l1 (fun l hl => by have := HI.out.qv l hl; unfold Lim; omega) (HS0.out.below HX3.out.bel).r1 HX3.out.bel
        obtain ⟨l2, hl2⟩ : ∃ x, s.q.tail = x := ⟨_, rfl⟩
        obtain ⟨e2, he2⟩ : ∃ x, popE s.q = x := ⟨_, rfl⟩
        obtain ⟨v2, hv2⟩ : ∃ x, popV s.q = x := ⟨_, rfl⟩
        rw [hl2, he2, hv2] at hr2 hcall
        have HR := Lib.hid (hr.trans hr2.symm)
        have HCALL := Lib.hid hcall
        clear hr hr2 hkk hcall hl2 he2 hv2
        go_wp2_with (first
          | (go_at_call 101; refine HCALL.out.mono ?_; rintro e w4 ⟨An, cn, Ar, cr, rfl, ho4, hv4, hB4, hb4⟩; unfold resV; have HX4 := Lib.hid (HX3.out.below hb4); have HK4 := Lib.hid (HK3.out.below hb4); have hx := HX4.out.nx; simp only [objC] at hx; obtain ⟨p0, p1, p2, p3, e0, e1, e2, e3⟩ := four hx; obtain ⟨z0, z1, z2, d0, d1, d2⟩ := three HK4.out; clear hx)
          | fail)
        go_meet
        exact HX4.out.doneSet HK4.out HGB.out HWB.out 1 (.slice An l2.length cn) ⟨A5, c5, An, cn, A7, c7, A8, c8⟩ { s with q := l2 } rfl ⟨HX4.out.own.o0, ho4, HX4.out.own.o2, HX4.out.own.o3⟩ hv4 HR.out
      by_cases hkk : c.kind = 6
      · have k1 : (c.kind == 1) = false := by simp; omega
        have k2 : (c.kind == 2) = false := by simp; omega
        have k3 : (c.kind == 3) = false := by simp; omega
        have k4 : (c.kind == 4) = false := by simp; omega
        have k5 : (c.kind == 5) = false := by simp; omega
        have k6 : (c.kind == 6) = true := by simp; omega
        obtain ⟨r, hr⟩ : ∃ r, s.apply c = r := ⟨_, rfl⟩
        have hr2 := hr
        have hkw := HKW.out.2.2 (by omega)
        unfold Ob.apply at hr2
        rw [if_neg (by omega), if_neg (by omega), if_neg (by omega), if_neg (by omega), if_neg (by omega), if_pos (by omega)] at hr2
        have hcall := take_any (W := w) (c := c2) c.who (by have := HI.out.lkl; omega) (HS0.out.below HX3.out.bel).l2 (HS0.out.below HX3.out.bel).r2 HX3.out.bel
        obtain ⟨l2, hl2⟩ : ∃ x, takeS s.lk c.who = x := ⟨_, rfl⟩
        obtain ⟨e2, he2⟩ : ∃ x, takeE s.lk c.who = x := ⟨_, rfl⟩
        obtain ⟨n2, hn2⟩ : ∃ x, takeN s.lk c.who = x := ⟨_, rfl⟩
        rw [hl2, he2, hn2] at hr2 hcall
        have HR := Lib.hid (hr.trans hr2.symm)
        have HCALL := Lib.hid hcall
        clear hr hr2 hkk hcall hl2 he2 hn2 hkw
        go_wp2_with (first
          | (go_at_call 102; refine HCALL.out.mono ?_; rintro e w4 ⟨An, cn, Ar, cr, rfl, ho4, hv4, hB4, hb4⟩; unfold resV; have HX4 := Lib.hid (HX3.out.below hb4); have HK4 := Lib.hid (HK3.out.below hb4); have hx := HX4.out.nx; simp only [objC] at hx; obtain ⟨p0, p1, p2, p3, e0, e1, e2, e3⟩ := four hx; obtain ⟨z0, z1, z2, d0, d1, d2⟩ := three HK4.out; clear hx)
          | fail)
        go_meet
        exact HX4.out.doneSet HK4.out HGB.out HWB.out 2 (.slice An l2.length cn) ⟨A5, c5, A6, c6, An, cn, A8, c8⟩ { s with lk := l2 } rfl ⟨HX4.out.own.o0, HX4.out.own.o1, ho4, HX4.out.own.o3⟩ hv4 HR.out
      by_cases hkk : c.kind = 7
      · have k1 : (c.kind == 1) = false := by simp; omega
        have k2 : (c.kind == 2) = false := by simp; omega
        have k3 : (c.kind == 3) = false := by simp; omega
        have k4 : (c.kind == 4) = false := by simp; omega
        have k5 : (c.kind == 5) = false := by simp; omega
        have k6 : (c.kind == 6) = false := by simp; omega
        have k7 : (c.kind == 7) = true := by simp; omega
        obtain ⟨r, hr⟩ : ∃ r, s.apply c = r := ⟨_, rfl⟩
        have hr2 := hr
        have hkw := HKW.out.2.2 (by omega)
        unfold Ob.apply at hr2
        rw [if_neg (by omega), if_neg (by omega), if_neg (by omega), if_neg (by omega), if_neg (by omega), if_neg (by omega), if_pos (by omega)] at hr2
        have hcall := free_any (W := w) (c := c2) c.who (by have := HI.out.lkl; omega) (HS0.out.below HX3.out.bel).l2 HI.out.lkn (HS0.out.below HX3.out.bel).r2 HX3.out.bel
        obtain ⟨l2, hl2⟩ : ∃ x, s.lk.erase c.who = x := ⟨_, rfl⟩
        obtain ⟨e2, he2⟩ : ∃ x, freeE s.lk c.who = x := ⟨_, rfl⟩
        obtain ⟨n2, hn2⟩ : ∃ x, freeN s.lk c.who = x := ⟨_, rfl⟩
        rw [hl2, he2, hn2] at hr2 hcall
        have HR := Lib.hid (hr.trans hr2.symm)
        have HCALL := Lib.hid hcall
        clear hr hr2 hkk hcall hl2 he2 hn2 hkw
        go_wp2_with (first
          | (go_at_call 103; refine HCALL.out.mono ?_; rintro e w4 ⟨An, cn, Ar, cr, rfl, ho4, hv4, hB4, hb4⟩; unfold resV; have HX4 := Lib.hid (HX3.out.below hb4); have HK4 := Lib.hid (HK3.out.below hb4); have hx := HX4.out.nx; simp only [objC] at hx; obtain ⟨p0, p1, p2, p3, e0, e1, e2, e3⟩ := four hx; obtain ⟨z0, z1, z2, d0, d1, d2⟩ := three HK4.out; clear hx)
          | fail)
        go_meet
        exact HX4.out.doneSet HK4.out HGB.out HWB.out 2 (.slice An l2.length cn) ⟨A5, c5, A6, c6, An, cn, A8, c8⟩ { s with lk := l2 } rfl ⟨HX4.out.own.o0, HX4.out.own.o1, ho4, HX4.out.own.o3⟩ hv4 HR.out
      by_cases hkk : c.kind = 8
      · have k1 : (c.kind == 1) = false := by simp; omega
        have k2 : (c.kind == 2) = false := by simp; omega
        have k3 : (c.kind == 3) = false := by simp; omega
        have k4 : (c.kind == 4) = false := by simp; omega
        have k5 : (c.kind == 5) = false := by simp; omega
        have k6 : (c.kind == 6) = false := by simp; omega
        have k7 : (c.kind == 7) = false := by simp; omega
        have k8 : (c.kind == 8) = true := by simp; omega
        obtain ⟨r, hr⟩ : ∃ r, s.apply c = r := ⟨_, rfl⟩
        have hr2 := hr
        unfold Ob.apply at hr2
        rw [if_neg (by omega), if_neg (by omega), if_neg (by omega), if_neg (by omega), if_neg (by omega), if_neg (by omega), if_neg (by omega), if_pos (by omega)] at hr2
        have hcall := owner_any (W := w) (c := c2) (by have := HI.out.lkl; omega) (HS0.out.below HX3.out.bel).l2 (HS0.out.below HX3.out.bel).r2 HX3.out.bel
        obtain ⟨e2, he2⟩ : ∃ x, ownerE s.lk = x := ⟨_, rfl⟩
        obtain ⟨n2, hn2⟩ : ∃ x, ownerN s.lk = x := ⟨_, rfl⟩
        rw [he2, hn2] at hr2 hcall
        have HR := Lib.hid (hr.trans hr2.symm)
        have HCALL := Lib.hid hcall
        clear hr hr2 hkk hcall he2 hn2
        go_wp2_with (first
          | (go_at_call 104; refine HCALL.out.mono ?_; rintro e w4 ⟨Ar, cr, rfl, hv4, hB4, hb4⟩; unfold resV; have HX4 := Lib.hid (HX3.out.below hb4); have HK4 := Lib.hid (HK3.out.below hb4); have hx := HX4.out.nx; simp only [objC] at hx; obtain ⟨p0, p1, p2, p3, e0, e1, e2, e3⟩ := four hx; obtain ⟨z0, z1, z2, d0, d1, d2⟩ := three HK4.out; clear hx)
          | fail)
        go_meet
        exact HX4.out.done HK4.out HGB.out hv4 HR.out
      by_cases hkk : c.kind = 9
      · have k1 : (c.kind == 1) = false := by simp; omega
        have k2 : (c.kind == 2) = false := by simp; omega
        have k3 : (c.kind == 3) = false := by simp; omega
        have k4 : (c.kind == 4) = false := by simp; omega
        have k5 : (c.kind == 5) = false := by simp; omega
        have k6 : (c.kind == 6) = false := by simp; omega
        have k7 : (c.kind == 7) = false := by simp; omega
        have k8 : (c.kind == 8) = false := by simp; omega
        have k9 : (c.kind == 9) = true := by simp; omega
        obtain ⟨r, hr⟩ : ∃ r, s.apply c = r := ⟨_, rfl⟩
        have hr2 := hr
        unfold Ob.apply at hr2
        rw [if_neg (by omega), if_neg (by omega), if_neg (by omega), if_neg (by omega), if_neg (by omega), if_neg (by omega), if_neg (by omega), if_neg (by omega), if_pos (by omega)] at hr2
        have hcall := putC7 (W := w) (c := c3) (c' := ck) (c'' := cv) (HS0.out.below HX3.out.bel).l3 HI.out.mp HF.out.key.2 HF.out.val.2 (by have := HF.out.key.1; omega) (by have := HF.out.val.1; omega) (HS0.out.below HX3.out.bel).r3 (HC0.out.below HX3.out.bel).rk (HC0.out.below HX3.out.bel).rv HX3.out.bel
        obtain ⟨l2, hl2⟩ : ∃ x, Mp.putS s.mp c.key c.val = x := ⟨_, rfl⟩
        obtain ⟨e2, he2⟩ : ∃ x, Mp.putE s.mp c.key c.val = x := ⟨_, rfl⟩
        obtain ⟨v2, hv2⟩ : ∃ x, Mp.putV s.mp c.key c.val = x := ⟨_, rfl⟩
        obtain ⟨n2, hn2⟩ : ∃ x, Mp.putN s.mp c.key c.val = x := ⟨_, rfl⟩
        rw [hl2, he2, hv2, hn2] at hr2 hcall
        have HR := Lib.hid (hr.trans hr2.symm)
        have HCALL := Lib.hid hcall
        clear hr hr2 hkk hcall hl2 he2 hv2 hn2
        go_wp2_with (first
          | (go_at_call 105; refine HCALL.out.mono ?_; rintro e w4 ⟨An, cn, Ar, cr, rfl, ho4, hv4, hB4, hb4⟩; unfold resV; have HX4 := Lib.hid (HX3.out.below hb4); have HK4 := Lib.hid (HK3.out.below hb4); have hx := HX4.out.nx; simp only [objC] at hx; obtain ⟨p0, p1, p2, p3, e0, e1, e2, e3⟩ := four hx; obtain ⟨z0, z1, z2, d0, d1, d2⟩ := three HK4.out; clear hx)
          | fail)
        go_meet
        exact HX4.out.doneSet HK4.out HGB.out HWB.out 3 (.slice An l2.length cn) ⟨A5, c5, A6, c6, A7, c7, An, cn⟩ { s with mp := l2 } rfl ⟨HX4.out.own.o0, HX4.out.own.o1, HX4.out.own.o2, ho4⟩ hv4 HR.out
      by_cases hkk : c.kind = 10
      · have k1 : (c.kind == 1) = false := by simp; omega
        have k2 : (c.kind == 2) = false := by simp; omega
        have k3 : (c.kind == 3) = false := by simp; omega
        have k4 : (c.kind == 4) = false := by simp; omega
        have k5 : (c.kind == 5) = false := by simp; omega
        have k6 : (c.kind == 6) = false := by simp; omega
        have k7 : (c.kind == 7) = false := by simp; omega
        have k8 : (c.kind == 8) = false := by simp; omega
        have k9 : (c.kind == 9) = false := by simp; omega
        have k10 : (c.kind == 10) = true := by simp; omega
        obtain ⟨r, hr⟩ : ∃ r, s.apply c = r := ⟨_, rfl⟩
        have hr2 := hr
        unfold Ob.apply at hr2
        rw [if_neg (by omega), if_neg (by omega), if_neg (by omega), if_neg (by omega), if_neg (by omega), if_neg (by omega), if_neg (by omega), if_neg (by omega), if_neg (by omega), if_pos (by omega)] at hr2
        have hcall := getC7 (W := w) (c := c3) (c' := ck) (HS0.out.below HX3.out.bel).l3 HI.out.mp HF.out.key.2 (by have := HF.out.key.1; omega) (HS0.out.below HX3.out.bel).r3 (HC0.out.below HX3.out.bel).rk HX3.out.bel
        obtain ⟨e2, he2⟩ : ∃ x, Mp.getE s.mp c.key = x := ⟨_, rfl⟩
        obtain ⟨v2, hv2⟩ : ∃ x, Mp.getV s.mp c.key = x := ⟨_, rfl⟩
        rw [he2, hv2] at hr2 hcall
        have HR := Lib.hid (hr.trans hr2.symm)
        have HCALL := Lib.hid hcall
        clear hr hr2 hkk hcall he2 hv2
        go_wp2_with (first
          | (go_at_call 106; refine HCALL.out.mono ?_; rintro e w4 ⟨Ar, cr, rfl, hv4, hB4, hb4⟩; unfold resV; have HX4 := Lib.hid (HX3.out.below hb4); have HK4 := Lib.hid (HK3.out.below hb4); have hx := HX4.out.nx; simp only [objC] at hx; obtain ⟨p0, p1, p2, p3, e0, e1, e2, e3⟩ := four hx; obtain ⟨z0, z1, z2, d0, d1, d2⟩ := three HK4.out; clear hx)
          | fail)
        go_meet
        exact HX4.out.done HK4.out HGB.out hv4 HR.out
      have hkk : c.kind = 11 := by have := HKW.out; omega
      have k1 : (c.kind == 1) = false := by simp; omega
      have k2 : (c.kind == 2) = false := by simp; omega
      have k3 : (c.kind == 3) = false := by simp; omega
      have k4 : (c.kind == 4) = false := by simp; omega
      have k5 : (c.kind == 5) = false := by simp; omega
      have k6 : (c.kind == 6) = false := by simp; omega
      have k7 : (c.kind == 7) = false := by simp; omega
      have k8 : (c.kind == 8) = false := by simp; omega
      have k9 : (c.kind == 9) = false := by simp; omega
      have k10 : (c.kind == 10) = false := by simp; omega
      have k11 : (c.kind == 11) = true := by simp; omega
      obtain ⟨r, hr⟩ : ∃ r, s.apply c = r := ⟨_, rfl⟩
      have hr2 := hr
      unfold Ob.apply at hr2
      rw [if_neg (by omega), if_neg (by omega), if_neg (by omega), if_neg (by omega), if_neg (by omega), if_neg (by omega), if_neg (by omega), if_neg (by omega), if_neg (by omega), if_neg (by omega), if_pos (by omega)] at hr2
      have hcall := delC7 (W := w) (c := c3) (c' := ck) (HS0.out.below HX3.out.bel).l3 HI.out.mp HF.out.key.2 (by have := HF.out.key.1; omega) (HS0.out.below HX3.out.bel).r3 (HC0.out.below HX3.out.bel).rk HX3.out.bel
      obtain ⟨l2, hl2⟩ : ∃ x, Mp.delS s.mp c.key = x := ⟨_, rfl⟩
      obtain ⟨e2, he2⟩ : ∃ x, Mp.getE s.mp c.key = x := ⟨_, rfl⟩
      obtain ⟨v2, hv2⟩ : ∃ x, Mp.getV s.mp c.key = x := ⟨_, rfl⟩
      rw [hl2, he2, hv2] at hr2 hcall
      have HR := Lib.hid (hr.trans hr2.symm)
      have HCALL := Lib.hid hcall
      clear hr hr2 hkk hcall hl2 he2 hv2
      go_wp2_with (first
        | (go_at_call 107; refine HCALL.out.mono ?_; rintro e w4 ⟨An, cn, Ar, cr, rfl, ho4, hv4, hB4, hb4⟩; unfold resV; have HX4 := Lib.hid (HX3.out.below hb4); have HK4 := Lib.hid (HK3.out.below hb4); have hx := HX4.out.nx; simp only [objC] at hx; obtain ⟨p0, p1, p2, p3, e0, e1, e2, e3⟩ := four hx; obtain ⟨z0, z1, z2, d0, d1, d2⟩ := three HK4.out; clear hx)
        | fail)
      go_meet
      exact HX4.out.doneSet HK4.out HGB.out HWB.out 3 (.slice An l2.length cn) ⟨A5, c5, A6, c6, A7, c7, An, cn⟩ { s with mp := l2 } rfl ⟨HX4.out.own.o0, HX4.out.own.o1, HX4.out.own.o2, ho4⟩ hv4 HR.out
    case rest =>
      obtain ⟨⟨A5', c5', A6', c6', A7', c7', A8', c8'⟩, Ar, cr, HX5, HK5, HV5⟩ := hcut
      rename World => w5
      obtain ⟨r, hr⟩ : ∃ r, s.apply c = r := ⟨_, rfl⟩
      rw [hr] at HX5 HK5 HV5
      have HR := Lib.hid hr
      have hx := HX5.out.nx
      simp only [objC] at hx
      obtain ⟨p0, p1, p2, p3, _, _, _, _⟩ := four hx
      obtain ⟨z0, z1, z2, _, _, _⟩ := three HK5.out
      obtain ⟨v0, v1, v2, v3, e0, e1, e2, e3⟩ := four HX5.out.v2
      obtain ⟨t0, t1, t2, d0, d1, d2⟩ := three HX5.out.v3
      have n1 : ¬ g = b + 1 + 1 := fun e => HX5.out.v2.apart HK5.out (by decide) e.symm
      have n2 : ¬ g = b + 1 + 1 + 1 := HGB.out.2.2
      clear hx hr HX3 HK3 HC0 HS0 HI HF HKW y0 y1 y2 y3 y4 hgh hhg
      go_upto_region 29 with fail
      refine wp_region_held_drew (S := fun w' => Blk w' h 30 #[.slice A5' r.s.reg.length c5', .slice A6' r.s.q.length c6', .slice A7' r.s.lk.length c7', .slice A8' r.s.mp.length c8'] ∧ Blk w' g 47 #[.int .i64 r.e, .slice Ar r.v.length cr, .int .i64 r.n]) (by kernel_rfl) ⟨HX5.out.nx.drew, HK5.out.drew⟩ (fun _ => ?_)
      have hl := HX5.out.lt
      have HX6 := Lib.hid (HX5.out.below (Below.refl _ _).drew)
      have HV6 := Lib.hid (own_below HV5.out (Below.refl w5.heap.size w5).drew)
      have HS := Lib.hid (And.intro HX5.out.nx.drew HK5.out.drew)
      simp only [objC] at HS
      clear HX5 HK5 HV5 p0 p1 p2 p3 z0 z1 z2 v0 v1 v2 v3 e0 e1 e2 e3 t0 t1 t2 d0 d1 d2
      generalize w5.drew = w6 at HX6 HV6 HS ⊢
      obtain ⟨v0, v1, v2, v3, e0, e1, e2, e3⟩ := four HX6.out.v2
      refine wpAnyH_take (i := 0) (v := .agg #[.slice A5' r.s.reg.length c5', .slice A6' r.s.q.length c6', .slice A7' r.s.lk.length c7', .slice A8' r.s.mp.length c8']) rfl (by kernel_rfl) (by kernel_rfl) (by kernel_rfl) (fun _ _ _ h => h) (Or.inl ⟨by kernel_rfl, fun w h => by obtain ⟨p0, p1, p2, p3, _, _, _, _⟩ := four h.1; go_simp⟩) HS.out ?_
      refine wpAnyH_take (i := 1) (v := .agg #[.int .i64 r.e, .slice Ar r.v.length cr, .int .i64 r.n]) rfl (by kernel_rfl) (by kernel_rfl) (by kernel_rfl) (fun _ _ _ h => h) (Or.inl ⟨by kernel_rfl, fun w h => by obtain ⟨p0, p1, p2, _, _, _⟩ := three h.2; go_simp⟩) HS.out ?_
      have HS2 := Lib.hid (show Blk ((((w6.setCell ⟨b + 1 + 1, 0, none⟩ (.slice A5' r.s.reg.length c5')).setCell ⟨b + 1 + 1, 1, none⟩ (.slice A6' r.s.q.length c6')).setCell ⟨b + 1 + 1, 2, none⟩ (.slice A7' r.s.lk.length c7')).setCell ⟨b + 1 + 1, 3, none⟩ (.slice A8' r.s.mp.length c8')) h 30 #[.slice A5' r.s.reg.length c5', .slice A6' r.s.q.length c6', .slice A7' r.s.lk.length c7', .slice A8' r.s.mp.length c8'] ∧ Blk ((((w6.setCell ⟨b + 1 + 1, 0, none⟩ (.slice A5' r.s.reg.length c5')).setCell ⟨b + 1 + 1, 1, none⟩ (.slice A6' r.s.q.length c6')).setCell ⟨b + 1 + 1, 2, none⟩ (.slice A7' r.s.lk.length c7')).setCell ⟨b + 1 + 1, 3, none⟩ (.slice A8' r.s.mp.length c8')) g 47 #[.int .i64 r.e, .slice Ar r.v.length cr, .int .i64 r.n] from
        ⟨(((HS.out.1.set_other (by omega)).set_other (by omega)).set_other (by omega)).set_other (by omega), (((HS.out.2.set_other n1).set_other n1).set_other n1).set_other n1⟩)
      refine wpAnyH_ready (rs := [2]) (by kernel_rfl) (by simp) ?_
      refine AllReadyH.cons rfl (fun K hK => ?_) AllReadyH.nil
      go_simp
      refine hK.out _ _ HS2.out (fun _ => ?_)
      clear hK K v0 v1 v2 v3 e0 e1 e2 e3
      obtain ⟨t0, t1, t2, d0, d1, d2⟩ := three ((((HX6.out.v3.set_other (i := 0) (u := .slice A5' r.s.reg.length c5') (b := b + 1 + 1) (by omega)).set_other (i := 1) (u := .slice A6' r.s.q.length c6') (b := b + 1 + 1) (by omega)).set_other (i := 2) (u := .slice A7' r.s.lk.length c7') (b := b + 1 + 1) (by omega)).set_other (i := 3) (u := .slice A8' r.s.mp.length c8') (b := b + 1 + 1) (by omega))
      obtain ⟨q1, q2, q3, q4, q5⟩ := HX6.out.end_ HWB.out HV6.out (.slice A5' r.s.reg.length c5') (.slice A6' r.s.q.length c6') (.slice A7' r.s.lk.length c7') (.slice A8' r.s.mp.length c8') (.int .i64 r.e) (.slice Ar r.v.length cr) (.int .i64 r.n)
      have HQ := Lib.hid (And.intro q1 (And.intro q2 (And.intro q3 (And.intro q4 q5))))
      have HS3 := Lib.hid (And.intro (((HS2.out.1.set_other (i := 0) (u := .int .i64 r.e) (b := b + 1 + 1 + 1) (by omega)).set_other (i := 1) (u := .slice Ar r.v.length cr) (b := b + 1 + 1 + 1) (by omega)).set_other (i := 2) (u := .int .i64 r.n) (b := b + 1 + 1 + 1) (by omega)) (((HS2.out.2.set_other (i := 0) (u := .int .i64 r.e) n2).set_other (i := 1) (u := .slice Ar r.v.length cr) n2).set_other (i := 2) (u := .int .i64 r.n) n2))
      clear q1 q2 q3 q4 q5 HX6 HV6 HS
      generalize (((w6.setCell ⟨b + 1 + 1, 0, none⟩ (.slice A5' r.s.reg.length c5')).setCell ⟨b + 1 + 1, 1, none⟩ (.slice A6' r.s.q.length c6')).setCell ⟨b + 1 + 1, 2, none⟩ (.slice A7' r.s.lk.length c7')).setCell ⟨b + 1 + 1, 3, none⟩ (.slice A8' r.s.mp.length c8') = w7 at HQ HS2 HS3 t0 t1 t2 d0 d1 d2 ⊢
      refine wpAnyH_ready (rs := [3]) (by kernel_rfl) (by simp) ?_
      refine AllReadyH.cons rfl (fun K hK => ?_) AllReadyH.nil
      go_simp
      refine hK.out _ _ HS3.out (fun _ => ?_)
      clear hK K t0 t1 t2 d0 d1 d2
      refine wpAnyH_done (by kernel_rfl) ?_ _
      go_wp2_with fail
      refine bodyPost_ret (results_cells2 rfl _ _ _ _ _ _ _ _ _ _ rfl rfl HQ.out.1 HQ.out.2.1 Tryz.underlying30 rfl (by kernel_rfl) Tryz.underlying47 rfl (by kernel_rfl)) rfl ?_
      rw [HR.out]
      exact ⟨⟨A5', c5', A6', c6', A7', c7', A8', c8'⟩, Ar, cr, rfl, HQ.out.2.2.1, HQ.out.2.2.2.1, HQ.out.2.2.2.2, HQ.out.2.2.2.2⟩
theorem apply8 : ApplyC8 := fun {W w a ca s c B B'} hI hc h h' hB => (apply8_raw hI hc h h').mono fun e w' h => GotO.of hB h
end Go.Proofs.YtaknfmionkkdjaaGreat

namespace Go.Proofs.YtaknfmionkkdjaaGreat
open Go.RowKit
set_option linter.unusedVariables false
set_option maxHeartbeats 4000000 in
set_option maxRecDepth 100000 in
theorem look9_raw {w : World} {ls : List Ls} {A : Option Addr} {n c B : Nat} (s q : Int) (hn : n ≤ 100000) (hL : LimLs ls) (h : RdL w B A n ls) :
    Calls Tryz.prog 65 #[.slice A n c, .int .i64 s, .int .i64 q] w (GotRK w w (Tb.look ls s q).e (Tb.look ls s q).v (Tb.look ls s q).n (Tb.look ls s q).k) := by
  obtain rfl := h.length
  have hs0 : w.heap.size < (w.alloc (.cells #[.int .i64 s] 3)).heap.size := by simp
  have b0 : Below w.heap.size w ((w.alloc (.cells #[.int .i64 s] 3)).alloc (.cells zeroR 47)) := ((Below.refl _ _).alloc (Nat.le_refl _) _).alloc (by simp) _
  have H := Lib.hid (h.fit.below b0)
  have HLI := Lib.hid hL
  have HB := Lib.hid b0
  have HK := Lib.hid (Blk.new (w.alloc (.cells #[.int .i64 s] 3)) 47 zeroR)
  have HS := Lib.hid (((Blk.new w 3 #[.int .i64 s]).alloc (.cells zeroR 47)))
  rw [World.size_alloc] at HK
  clear h hL b0 hs0
  generalize hres : Tb.look ls s q = r
  have HRES := Lib.hid hres
  clear hres
  by_cases h1 : 1 ≤ s ∧ s ≤ 1073741824
  · have HD1 := Lib.hid (decide_eq_true h1)
    by_cases h2 : 1 ≤ q ∧ q ≤ 1073741824
    · have HD2 := Lib.hid (decide_eq_true h2)
      have HNM : Hid (Tb.named s q) := Lib.hid ⟨h1.1, h2.1, h1.2, h2.2⟩
      clear h1 h2
      go_enter Tryz.func65, Tryz.ntmps65
      go_upto_region 1 with fail
      generalize (w.alloc (.cells #[.int .i64 s] 3)).alloc (.cells #[.int .i64 0, .slice none 0 0, .int .i64 0] 47) = wa at H HB HK HS ⊢
      have hsc := HS.out.cell 0
      go_wp2_with (first
        | (go_at_call 91; refine (isNumber_any _ _).mono ?_; (first | rw [HD1.out] | rw [HD2.out]); rintro e w1 ⟨rfl, rfl⟩)
        | fail)
      refine (indexFunc9_any _ hn H.out hsc).mono ?_
      rintro e w3 ⟨hf, hb3⟩
      have HB3 := Lib.hid (HB.out.trans (hb3.mono HB.out.size))
      have HK3 := Lib.hid (HK.out.below hb3)
      have H3 := Lib.hid (H.out.fit.below hb3).fit
      clear hsc hb3
      rcases hf with ⟨j, l, rfl, hj, hl, hls, hhere⟩ | ⟨rfl, hhere⟩
      · have HP := Lib.hid hl
        have hji : ¬ ((j : Int) < 0) := by omega
        obtain ⟨b, o, l', A1, c1, rfl, hl', y0, y1, y2, y3, y4, hrd⟩ := H3.out.at hj
        rw [hl] at hl'
        injection hl' with hl'
        subst hl'
        have HYES : Hid (r = if q < l.q then ⟨8, [], 0, 2⟩ else if q = l.q then ⟨l.e, l.v, l.n, 1⟩ else ⟨0, [], 0, 0⟩) := Lib.hid (by
          rw [← HRES.out]
          unfold Tb.look
          rw [if_pos HNM.out, hhere])
        have hl1 : Lim 0 l.v.length := HLI.out l (List.mem_of_getElem? hl)
        have HRD := Lib.hid hrd
        have hb' : Below w3.heap.size w3 (w3.alloc (.cells #[.int .i64 l.s, .int .i64 l.q, .int .i64 l.e, .slice A1 l.v.length c1, .int .i64 l.n] 57)) := (Below.refl _ _).alloc (Nat.le_refl _) _
        have HK4 := Lib.hid (HK3.out.below hb')
        have HB4 := Lib.hid (HB3.out.trans (hb'.mono HB3.out.size))
        clear hl hls hhere hrd hb'
        by_cases hq : q < l.q
        · have HR : Hid (r = ⟨8, [], 0, 2⟩) := Lib.hid (by rw [HYES.out, if_pos hq])
          go_wp2_with (first
            | (go_at_call 92; refine (refused_any (W := w) _ HB4.out).mono ?_; rintro en w5 ⟨A2, c2, rfl, ho2, hB2, hb2⟩; unfold resV; simp only [List.length_nil]; have HK2 := Lib.hid (HK4.out.below hb2); obtain ⟨x0, x1, x2, f0, f1, f2⟩ := three HK2.out)
            | fail)
          have hr := HR.out
          subst hr
          refine bodyPost_ret (results_cell_tmp rfl _ _ _ _ _ _ rfl (put3 HK2.out _ _ _).1 Tryz.underlying47 rfl (by kernel_rfl)) rfl ?_
          exact lookDoneAt HK2.out (by omega) hB2 ho2 rfl
        · by_cases hq2 : q = l.q
          · subst hq2
            have HR : Hid (r = ⟨l.e, l.v, l.n, 1⟩) := Lib.hid (by rw [HYES.out, if_neg hq, if_pos rfl])
            go_wp2_with (first
              | (go_at_call 90; refine (copied9_any (W := w) _ _ hl1 (HRD.out.fit.alloc (Nat.le_refl _) _) HB4.out).mono ?_; rintro en w5 ⟨A2, c2, rfl, ho2, hB2, hb2⟩; unfold resV; have HK2 := Lib.hid (HK4.out.below hb2); obtain ⟨x0, x1, x2, f0, f1, f2⟩ := three HK2.out)
              | fail)
            have hr := HR.out
            subst hr
            refine bodyPost_ret (results_cell_tmp rfl _ _ _ _ _ _ rfl (put3 HK2.out _ _ _).1 Tryz.underlying47 rfl (by kernel_rfl)) rfl ?_
            exact lookDoneAt HK2.out (by omega) hB2 ho2 rfl
          · have hqb : (q == l.q) = false := by simpa using hq2
            have HR : Hid (r = ⟨0, [], 0, 0⟩) := Lib.hid (by rw [HYES.out, if_neg hq, if_neg hq2])
            obtain ⟨x0, x1, x2, f0, f1, f2⟩ := three HK4.out
            go_wp2_with fail
            have hr := HR.out
            subst hr
            refine bodyPost_ret (results_cell_tmp rfl _ _ _ _ _ _ rfl (put3 HK4.out _ _ _).1 Tryz.underlying47 rfl (by kernel_rfl)) rfl ?_
            exact lookDoneAt HK4.out (by omega) HB4.out (own_nil _ _) rfl
      · obtain ⟨E, hE⟩ : ∃ E, (if 8 ≤ ls.length then (9 : Int) else 0) = E := ⟨_, rfl⟩
        obtain ⟨K, hK⟩ : ∃ K, (if 8 ≤ ls.length then (2 : Int) else 0) = K := ⟨_, rfl⟩
        have HR : Hid (r = ⟨E, [], 0, K⟩) := Lib.hid (by
          rw [← HRES.out, ← hE, ← hK]
          unfold Tb.look
          rw [if_pos HNM.out, hhere]
          simp only []
          split <;> rfl)
        have HLF := Lib.hid (lookFirst_any (W := w) A ls.length c hn HB3.out)
        rw [hE, hK] at HLF
        clear hhere hE hK
        go_wp2_with (first
          | (go_at_call 95; refine HLF.out.mono ?_; rintro en w5 ⟨A2, c2, rfl, ho2, hB2, hb2⟩; unfold resV; simp only [List.length_nil]; have HK2 := Lib.hid (HK3.out.below hb2); obtain ⟨x0, x1, x2, f0, f1, f2⟩ := three HK2.out)
          | fail)
        have hr := HR.out
        subst hr
        refine bodyPost_ret (results_cell_tmp rfl _ _ _ _ _ _ rfl (put3 HK2.out _ _ _).1 Tryz.underlying47 rfl (by kernel_rfl)) rfl ?_
        exact lookDoneAt HK2.out (by omega) hB2 ho2 rfl
    · have HD2 := Lib.hid (decide_eq_false h2)
      have HR : Hid (r = ⟨10, [], 0, 2⟩) := Lib.hid (by rw [← HRES.out]; unfold Tb.look; rw [if_neg (by rintro ⟨_, _, _, _⟩; omega)])
      clear h1 h2
      go_enter Tryz.func65, Tryz.ntmps65
      go_upto_region 1 with fail
      generalize (w.alloc (.cells #[.int .i64 s] 3)).alloc (.cells #[.int .i64 0, .slice none 0 0, .int .i64 0] 47) = wa at H HB HK HS ⊢
      have hsc := HS.out.cell 0
      go_wp2_with (first
        | (go_at_call 91; refine (isNumber_any _ _).mono ?_; (first | rw [HD1.out] | rw [HD2.out]); rintro e w1 ⟨rfl, rfl⟩)
        | (go_at_call 92; refine (refused_any (W := w) _ HB.out).mono ?_; rintro en w2 ⟨A2, c2, rfl, ho2, hB2, hb2⟩; unfold resV; simp only [List.length_nil]; have HK2 := Lib.hid (HK.out.below hb2); obtain ⟨x0, x1, x2, f0, f1, f2⟩ := three HK2.out)
        | fail)
      have hr := HR.out
      subst hr
      refine bodyPost_ret (results_cell_tmp rfl _ _ _ _ _ _ rfl (put3 HK2.out _ _ _).1 Tryz.underlying47 rfl (by kernel_rfl)) rfl ?_
      exact lookDoneAt HK2.out (by omega) hB2 ho2 rfl
  · have HD1 := Lib.hid (decide_eq_false h1)
    have HR : Hid (r = ⟨10, [], 0, 2⟩) := Lib.hid (by rw [← HRES.out]; unfold Tb.look; rw [if_neg (by rintro ⟨_, _, _, _⟩; omega)])
    clear h1
    go_enter Tryz.func65, Tryz.ntmps65
    go_upto_region 1 with fail
    generalize (w.alloc (.cells #[.int .i64 s] 3)).alloc (.cells #[.int .i64 0, .slice none 0 0, .int .i64 0] 47) = wa at H HB HK HS ⊢
    have hsc := HS.out.cell 0
    go_wp2_with (first
      | (go_at_call 91; refine (isNumber_any _ _).mono ?_; rw [HD1.out]; rintro e w1 ⟨rfl, rfl⟩)
      | (go_at_call 92; refine (refused_any (W := w) _ HB.out).mono ?_; rintro en w2 ⟨A2, c2, rfl, ho2, hB2, hb2⟩; unfold resV; simp only [List.length_nil]; have HK2 := Lib.hid (HK.out.below hb2); obtain ⟨x0, x1, x2, f0, f1, f2⟩ := three HK2.out)
      | fail)
    have hr := HR.out
    subst hr
    refine bodyPost_ret (results_cell_tmp rfl _ _ _ _ _ _ rfl (put3 HK2.out _ _ _).1 Tryz.underlying47 rfl (by kernel_rfl)) rfl ?_
    exact lookDoneAt HK2.out (by omega) hB2 ho2 rfl
theorem look9 : LookC9 := fun {W w ls A n c B} s q hok hc h hB =>
  (look9_raw s q (by have := h.length; have := hok.len; omega) hok.lim h).mono fun e w' h => GotRK.of hB h
end Go.Proofs.YtaknfmionkkdjaaGreat

