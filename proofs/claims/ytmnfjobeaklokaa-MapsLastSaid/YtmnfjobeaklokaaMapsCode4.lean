/- The contracts of the code: maps.without, slices.Insert of one pair. -/
import Derived.Test.YtmnfjobeaklokaaMapsCode3
import Derived.Lib.Overlaps
namespace Go.Proofs.Ytmnfjobeaklokaa
open Go.RowKit
set_option linter.unusedVariables false
set_option maxHeartbeats 1000000 in
theorem without_raw {w : World} {ps : List Pr} {k : List Nat} {A A' : Option Addr} {n c n' c' B B' : Nat} (hn : n ≤ 100000) (hL : LimP ps) (hb : BytesP ps) (hbk : ∀ x ∈ k, x < 256) (hrise : Mp.Rises ps) (h : RdP w B A n ps) (h' : Rd w B' A' n' (bv k)) :
    Calls Try.prog 17 #[.slice A n c, .slice A' n' c'] w fun e w' => ∃ g c2, e = .returned (.slice (some ⟨g, 0, none⟩) (Mp.delS ps k).length c2) ∧ (Mp.delS ps k).length < c2 ∧ OwnP w w' (some ⟨g, 0, none⟩) (Mp.delS ps k).length c2 (Mp.delS ps k) ∧ Below w.heap.size w w' := by
  obtain rfl := h.length
  have b1 : Below w.heap.size w (w.alloc (.cells #[.slice A' n' c'] 24)) := (Below.refl _ _).alloc (Nat.le_refl _) _
  have H := Lib.hid (h.fit.below b1)
  have H' := Lib.hid (h'.fit.below b1)
  have HL := Lib.hid hL
  have HB := Lib.hid hb
  have HBK := Lib.hid hbk
  have HR := Lib.hid hrise
  have HC := Lib.hid ((Blk.new w 24 #[.slice A' n' c']).cell 0)
  have HB1 := Lib.hid b1
  obtain ⟨wb, hwb⟩ : ∃ wb, w.alloc (.cells #[.slice A' n' c'] 24) = wb := ⟨_, rfl⟩
  rw [hwb] at H H' HC HB1
  have HW := Lib.hid hwb
  clear h h' hL hb hbk hrise b1 hwb
  go_enter Try.func17, Try.ntmps17
  go_wp2_with (first
    | (go_at_call 16; rw [HW.out]; refine (copied_any (W := wb) hn HL.out H.out (Below.refl _ _)).mono ?_; rintro e w1 ⟨g, rfl, ho1, hB1, _⟩
       have HD := Lib.hid (deleteFunc_any (W := wb) (kb := w.heap.size) hn (by omega) HB.out HBK.out HR.out ho1 HC.out H'.out hB1))
    | (go_at_call 26; refine HD.out.mono ?_; rintro e w2 ⟨rfl, ho2, hB2⟩)
    | fail)
  go_ret
  have hs : w.heap.size ≤ wb.heap.size := HB1.out.size
  refine ⟨g, ps.length + 1, rfl, ?_, ho2.of hs, HB1.out.trans (hB2.mono hs)⟩
  unfold Mp.delS
  split
  · have := (List.eraseIdx_sublist ps (Mp.idx (Mp.keys ps) k)).length_le; omega
  · omega
theorem without_any {W w : World} {ps : List Pr} {k : List Nat} {A A' : Option Addr} {n c n' c' B B' : Nat} (hn : n ≤ 100000) (hL : LimP ps) (hb : BytesP ps) (hbk : ∀ x ∈ k, x < 256) (hrise : Mp.Rises ps) (h : RdP w B A n ps) (h' : Rd w B' A' n' (bv k)) (hB : Below W.heap.size W w) :
    Calls Try.prog 17 #[.slice A n c, .slice A' n' c'] w fun e w' => ∃ g c2, e = .returned (.slice (some ⟨g, 0, none⟩) (Mp.delS ps k).length c2) ∧ (Mp.delS ps k).length < c2 ∧ OwnP W w' (some ⟨g, 0, none⟩) (Mp.delS ps k).length c2 (Mp.delS ps k) ∧ Below W.heap.size W w' ∧ Below w.heap.size w w' :=
  (without_raw hn hL hb hbk hrise h h').mono fun e w' ⟨g, c2, h1, h2, h3, h4⟩ => ⟨g, c2, h1, h2, h3.of hB.size, hB.trans (h4.mono hB.size), h4⟩
section
variable {P : Program}
/-- a copy whose run is known -/
theorem wp_copy_known (w : World) {o : Oper} {a : Act} {K : Act → World → Prop} {Q : Exit → Act → World → Prop} (d s : Operand) (t u : TypeId)
    (ho : o.op = .call { callee := .builtin .copy, args := #[d, s], argTypes := #[t, u] }) (x y : Value) (hd : a.eval d = x) (hs : a.eval s = y) {v : Value} {w' : World}
    (hr : (Builtin.copy_ #[t, u] o.type #[x, y]).run P w = .ok v w') (h : K (a.put o.dst v) w') : o.wp P a w K Q := by
  unfold Oper.wp execOp
  simp only [ho, resolve, invoke, builtin, Sem.run_bind, Sem.run_pure, Result.andThen_ok, List.map_toArray, List.map_cons, List.map_nil, hd, hs, hr]
  exact h
theorem step_copy_known {ops : Array Oper} {o : Oper} {a : Act} {w : World} {K : Act → World → Prop} {Q : Exit → Act → World → Prop} {E : Prop} (hg : o.guard = none) (d s : Operand) (t u : TypeId)
    (ho : o.op = .call { callee := .builtin .copy, args := #[d, s], argTypes := #[t, u] }) (x y : Value) (hd : a.eval d = x) (hs : a.eval s = y) {v : Value} {w' : World}
    (hr : (Builtin.copy_ #[t, u] o.type #[x, y]).run P w = .ok v w') (h : K (a.put o.dst v) w') : if Region.wanted o (yielded ops a.tmps) = true then Oper.wp P o a w K Q else E := by
  rw [if_pos (by simp [Region.wanted, hg])]
  exact wp_copy_known w d s t u ho x y hd hs hr h
theorem wpList_copy_known (w : World) {ops : Array Oper} {rest : List Oper} {o : Oper} {a : Act} {Q : Exit → Act → World → Prop} (hg : o.guard = none) (d s : Operand) (t u : TypeId)
    (ho : o.op = .call { callee := .builtin .copy, args := #[d, s], argTypes := #[t, u] }) (x y : Value) (hd : a.eval d = x) (hs : a.eval s = y) {v : Value} {w' : World}
    (hr : (Builtin.copy_ #[t, u] o.type #[x, y]).run P w = .ok v w') (h : wpList P ops Q rest (a.put o.dst v) w') : wpList P ops Q (o :: rest) a w := by
  unfold wpList
  rw [if_pos (by simp [Region.wanted, hg])]
  exact .inl (wp_copy_known w d s t u ho x y hd hs hr h)
end
set_option maxHeartbeats 4000000 in
set_option maxRecDepth 100000 in
theorem insert_any {W w : World} {g n c i vb c1 c2 : Nat} {A1 A2 : Option Addr} {ps : List Pr} {k v : List Nat} (hn : n ≤ 100000) (hin : i ≤ n) (hnc : n < c) (hgv : vb ≠ g)
    (h : OwnP W w (some ⟨g, 0, none⟩) n c ps) (hvb : Blk w vb 32 #[.slice A1 k.length c1, .slice A2 v.length c2]) (ho1 : OwnB W w A1 k.length c1 k) (ho2 : OwnB W w A2 v.length c2 v) (hB : Below W.heap.size W w) :
    Calls Try.prog 18 #[.slice (some ⟨g, 0, none⟩) n c, .int .i64 (i : Int), .slice (some ⟨vb, 0, none⟩) 1 1] w fun e w' => e = .returned (.slice (some ⟨g, 0, none⟩) (n + 1) c) ∧ OwnP W w' (some ⟨g, 0, none⟩) (n + 1) c (ps.take i ++ (k, v) :: ps.drop i) ∧ Below W.heap.size W w' := by
  obtain rfl := h.length
  obtain ⟨vs, hrow, hown⟩ := h
  have hvl : vs.length = ps.length * 2 := hrow.1
  obtain ⟨cur, hbk, hcs, htk, _, hbase⟩ := own_cur hrow
  obtain ⟨t0, ht0, htz, hts, _⟩ := info_parts cellP.info
  have hcmax : c ≤ 9223372036854775807 := by have := (own_cap hrow).2; unfold maxLen at this; omega
  have hsl := fun (m j : Nat) (hj : j ≤ m) (w : World) => run_slice_fromS_ (P := Try.prog) Try.underlying22 ht0 hts (some ⟨g, 0, none⟩) m c j hj w
  have hcut : ∀ j, j < c → cutS (some ⟨g, 0, none⟩) c j 2 = some ⟨g, j * 2, none⟩ := fun j hj => by
    unfold cutS; rw [if_neg (by omega), Option.map_some, adr_add, Nat.zero_add]
  have hs1 := hsl ps.length i hin
  rw [hcut i (by omega)] at hs1
  have hz1 : ¬ (1 : Int) = 0 := by omega
  rcases Nat.lt_or_ge i ps.length with hlt | hge
  · have hne : ¬ ((i : Int) = (ps.length : Int)) := by omega
    have hs2 := hsl (ps.length + 1) (i + 1) (by omega)
    rw [hcut (i + 1) (by omega), show ps.length + 1 - (i + 1) = ps.length - i by omega] at hs2
    have hs3 := hsl (ps.length + 1) i (by omega)
    rw [hcut i (by omega)] at hs3
    have hs4 := run_slice_to (P := Try.prog) (t := 22) Try.underlying22 ht0 (some ⟨g, 0, none⟩) ps.length c (ps.length + 1) (by omega)
    rw [show (((i + 1 : Nat)) : Int) = (i : Int) + 1 by omega] at hs2
    rw [show (((ps.length + 1 : Nat)) : Int) = (ps.length : Int) + 1 by omega] at hs4
    have hw1 : IntKind.i64.wrap ((ps.length : Int) + 1) = (ps.length : Int) + 1 := IntWalk.i64_in _ (by omega)
    have hw2 : IntKind.i64.wrap ((i : Int) + 1) = (i : Int) + 1 := IntWalk.i64_in _ (by omega)
    have hroom : ¬ (c : Int) < (ps.length : Int) + 1 := by omega
    have hcur2 : cur.size = c * 2 := hcs
    have hdl : (vs.drop (i * 2)).length = (ps.length - i) * 2 := by rw [List.length_drop, hvl]; omega
    have hcp1 : ∀ ty dc sc, (Builtin.copy_ #[22, 22] ty #[.slice (some ⟨g, (i + 1) * 2, none⟩) (ps.length - i) dc, .slice (some ⟨g, i * 2, none⟩) (ps.length + 1 - i) sc]).run Try.prog w.drew = .ok (.int .i64 ((ps.length - i : Nat) : Int)) (w.drew.setRow g (cur.toList.take ((i + 1) * 2) ++ vs.drop (i * 2) ++ cur.toList.drop ((i + 1) * 2 + (vs.drop (i * 2)).length)).toArray) := fun ty dc sc =>
      run_copy_blk (P := Try.prog) w.drew _ _ ty 32 g ((i + 1) * 2) (ps.length - i) dc ⟨g, i * 2, none⟩ (ps.length + 1 - i) sc cur 32 (vs.drop (i * 2)) 2 (ps.length - i) Try.underlying22 (by rw [ht0]; simp [hts]) hbk (by simp only [Nat.min_def]; split <;> omega) hdl
        (fun j u hj => by
          rw [List.getElem?_drop] at hj
          rw [adr_add, ← hj]
          have hjl : i * 2 + j < vs.length := (List.getElem?_eq_some_iff.1 hj).1
          exact hrow.cellAt (i * 2 + j) (by omega)) (by rw [hdl]; omega) (fun u hu => hown.one u (List.mem_of_mem_drop hu))
    obtain ⟨cs1, hcs1⟩ : ∃ cs1, (cur.toList.take ((i + 1) * 2) ++ vs.drop (i * 2) ++ cur.toList.drop ((i + 1) * 2 + (vs.drop (i * 2)).length)) = cs1 := ⟨_, rfl⟩
    rw [hcs1] at hcp1
    have hcs1l : cs1.length = c * 2 := by rw [← hcs1]; simp [hdl]; omega
    obtain ⟨W1, hW1⟩ : ∃ W1, w.drew.setRow g cs1.toArray = W1 := ⟨_, rfl⟩
    rw [hW1] at hcp1
    have hbk1 : Blk W1 g 32 cs1.toArray := by rw [← hW1]; exact setRow_heap w.drew g cur _ _ _ hbk
    have hvb1 : Blk W1 vb 32 #[.slice A1 k.length c1, .slice A2 v.length c2] := by rw [← hW1]; exact (setRow_other w.drew g vb _ hgv).trans hvb
    have hcp2 : ∀ ty dc, (Builtin.copy_ #[22, 22] ty #[.slice (some ⟨g, i * 2, none⟩) (ps.length + 1 - i) dc, .slice (some ⟨vb, 0, none⟩) 1 1]).run Try.prog W1 = .ok (.int .i64 ((1 : Nat) : Int)) (W1.setRow g (cs1.toArray.toList.take (i * 2) ++ [Value.slice A1 k.length c1, Value.slice A2 v.length c2] ++ cs1.toArray.toList.drop (i * 2 + 2)).toArray) := fun ty dc =>
      run_copy_blk (P := Try.prog) W1 _ _ ty 32 g (i * 2) (ps.length + 1 - i) dc ⟨vb, 0, none⟩ 1 1 cs1.toArray 32 [Value.slice A1 k.length c1, Value.slice A2 v.length c2] 2 1 Try.underlying22 (by rw [ht0]; simp [hts]) hbk1 (by simp only [Nat.min_def]; split <;> omega) rfl
        (fun j u hj => by rw [adr_add, hvb1.cell, Nat.zero_add]; simpa using hj) (by simp; omega) (by intro u hu; simp at hu; rcases hu with rfl | rfl <;> rfl)
    obtain ⟨cs2, hcs2⟩ : ∃ cs2, (cs1.toArray.toList.take (i * 2) ++ [Value.slice A1 k.length c1, Value.slice A2 v.length c2] ++ cs1.toArray.toList.drop (i * 2 + 2)) = cs2 := ⟨_, rfl⟩
    rw [hcs2] at hcp2
    obtain ⟨W2, hW2⟩ : ∃ W2, W1.setRow g cs2.toArray = W2 := ⟨_, rfl⟩
    rw [hW2] at hcp2
    have hov : ∀ lb cb, (callFunc 28 #[.slice (some ⟨vb, 0, none⟩) 1 1, .slice (some ⟨g, (i + 1) * 2, none⟩) lb cb]).run Try.prog w = .ok (.value (.bool false)) w := fun lb cb => by
      rw [run_callFunc_extern Try.func28 (by kernel_rfl) (by kernel_rfl) (by kernel_rfl) (e := Extern.SlicesOverlaps.overlaps #[22, 22] #[4]) (by kernel_rfl),
        Lib.run_overlaps_apart w 22 4 32 Try.underlying22 2 (fun w => by simp [sizeOf, typeInfo, ht0, hts]) ⟨vb, 0, none⟩ ⟨g, (i + 1) * 2, none⟩ 1 1 lb cb hgv 32 32 2 cur.size
          (by unfold Blk at hvb; simp [World.shape?, hvb]) (by unfold Blk at hbk; simp [World.shape?, hbk]) (by omega) (hvb.frozen 0) (hvb.frozen 2)]
      rfl
    have HFIN : Hid (OwnP W W2 (some ⟨g, 0, none⟩) (ps.length + 1) c (ps.take i ++ (k, v) :: ps.drop i) ∧ Below W.heap.size W W2) := Lib.hid (by
      have hW : W2 = w.drew.setRow g cs2.toArray := by rw [← hW2, ← hW1, setRow_setRow]
      have hc2l : cs2.length = c * 2 := by rw [← hcs2]; simp; omega
      have htk2 : cs2.take ((ps.length + 1) * 2) = vs.take (i * 2) ++ [Value.slice A1 k.length c1, Value.slice A2 v.length c2] ++ vs.drop (i * 2) := by
        have hxl : (cur.toList.take ((i + 1) * 2)).length = (i + 1) * 2 := by simp; omega
        have e1 : cs1.take (i * 2) = vs.take (i * 2) := by
          rw [← hcs1, List.append_assoc, List.take_append_of_le_length (by omega), List.take_take, Nat.min_eq_left (by omega), ← htk, List.take_take, Nat.min_eq_left (by omega)]
        have e2 : cs1.drop (i * 2 + 2) = vs.drop (i * 2) ++ cur.toList.drop ((i + 1) * 2 + (vs.drop (i * 2)).length) := by
          rw [← hcs1, List.append_assoc, show i * 2 + 2 = (i + 1) * 2 by omega, List.drop_append_of_le_length (by omega), List.drop_of_length_le (by omega)]; rfl
        rw [← hcs2]
        rw [e1, e2, ← List.append_assoc, List.take_append_of_le_length (by simp; omega), List.take_of_length_le (by simp; omega)]
      obtain ⟨r1, r2⟩ := own_written (w := w.drew) (own_drew hrow) (n' := ps.length + 1) (vs' := vs.take (i * 2) ++ [Value.slice A1 k.length c1, Value.slice A2 v.length c2] ++ vs.drop (i * 2)) cs2.toArray (by simpa using hc2l) (by omega) (by simp [hvl]; omega) (by simpa using htk2)
      rw [← hW] at r1 r2
      refine ⟨⟨_, r1, ?_⟩, hB.drew.grown r2 hB.size (fun k hk => by injection hk with hk; omega)⟩
      rw [flat_insert]
      have hd : Below w.heap.size w w.drew := (Below.refl _ _).drew
      have hmid : Owns W w.drew [Value.slice A1 k.length c1, Value.slice A2 v.length c2] [k, v] := by
        have := (Owns.nil W w.drew).two (own_below ho1 hd) (own_below ho2 hd)
        simpa using this
      exact ((((hown.below hd).take (i * 2)).append hmid).append ((hown.below hd).drop (i * 2))).grownP (own_drew hrow) r2)
    clear hbk hcs htk ht0 htz hts hsl hcut hrow hown hvb ho1 ho2 hB hdl hcs1 hcs1l hW1 hbk1 hvb1 hcs2 hW2 hcur2 hvl hbase
    go_enter Try.func18, Try.ntmps18
    go_wp2_with (simp only [hov])
    go_region_law (refine step_copy_known rfl _ _ 22 22 rfl _ _ (by simp [Act.eval, Act.put]) (by simp [Act.eval, Act.put]) (hcp1 _ _ _) ?_)
    go_wp2_with (at_builtin; refine wpList_copy_known _ rfl _ _ 22 22 rfl _ _ rfl rfl (hcp2 _ _) ?_)
    go_ret
    exact ⟨rfl, HFIN.out⟩
  · obtain rfl : i = ps.length := by omega
    have HROW := Lib.hid hrow
    have HOWN := Lib.hid hown
    have HVB := Lib.hid hvb
    have HO1 := Lib.hid ho1
    have HO2 := Lib.hid ho2
    have HBW := Lib.hid hB
    have HSRC : Hid (Rd w w.heap.size (some ⟨vb, 0, none⟩) (1 * 2) [Value.slice A1 k.length c1, Value.slice A2 v.length c2]) := Lib.hid ⟨rfl, fun _ => ⟨vb, 0, rfl, hvb.lt, fun j hj => by rw [Nat.zero_add, hvb.cell]; simp⟩⟩
    clear hbk hcs htk ht0 htz hts hsl hcut hrow hown hvb ho1 ho2 hB hvl hbase
    go_enter Try.func18, Try.ntmps18
    go_wp2_with (first
      | (at_builtin
         refine wpList_append_fits (W := W) cellP (.tmp 23) (.tmp 24) rfl (by rfl) rfl HROW.out rfl HSRC.out (by intro u hu; simp at hu; rcases hu with rfl | rfl <;> rfl) (by omega) (by omega) HBW.out ?_
         intro w2 hown2 hB2 hg2)
      | fail)
    go_ret
    refine ⟨rfl, ⟨_, hown2, ?_⟩, hB2⟩
    rw [List.take_length, List.drop_length, flat_append]
    exact (HOWN.out.two HO1.out HO2.out).grownP HROW.out hg2
end Go.Proofs.Ytmnfjobeaklokaa
