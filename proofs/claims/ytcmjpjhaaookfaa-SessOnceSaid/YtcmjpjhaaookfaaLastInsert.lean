/- slices.Insert of a call into a row of the call's own. -/
import Derived.Test.YtcmjpjhaaookfaaSessRef3
import Derived.Test.YtcmjpjhaaookfaaInPlaceKit
import Derived.Lib.Overlaps
namespace Go.Proofs.Ytcmjpjhaaookfaa
open Go.RowKit
set_option linter.unusedVariables false
section
variable {P : Program}
/-- a copy whose run is known -/
theorem wp_copy_knownL (w : World) {o : Oper} {a : Act} {K : Act → World → Prop} {Q : Exit → Act → World → Prop} (d s : Operand) (t u : TypeId)
    (ho : o.op = .call { callee := .builtin .copy, args := #[d, s], argTypes := #[t, u] }) (x y : Value) (hd : a.eval d = x) (hs : a.eval s = y) {v : Value} {w' : World}
    (hr : (Builtin.copy_ #[t, u] o.type #[x, y]).run P w = .ok v w') (h : K (a.put o.dst v) w') : o.wp P a w K Q := by
  unfold Oper.wp execOp
  simp only [ho, resolve, invoke, builtin, Sem.run_bind, Sem.run_pure, Result.andThen_ok, List.map_toArray, List.map_cons, List.map_nil, hd, hs, hr]
  exact h
theorem step_copy_knownL {ops : Array Oper} {o : Oper} {a : Act} {w : World} {K : Act → World → Prop} {Q : Exit → Act → World → Prop} {E : Prop} (hg : o.guard = none) (d s : Operand) (t u : TypeId)
    (ho : o.op = .call { callee := .builtin .copy, args := #[d, s], argTypes := #[t, u] }) (x y : Value) (hd : a.eval d = x) (hs : a.eval s = y) {v : Value} {w' : World}
    (hr : (Builtin.copy_ #[t, u] o.type #[x, y]).run P w = .ok v w') (h : K (a.put o.dst v) w') : if Region.wanted o (yielded ops a.tmps) = true then Oper.wp P o a w K Q else E := by
  rw [if_pos (by simp [Region.wanted, hg])]
  exact wp_copy_knownL w d s t u ho x y hd hs hr h
theorem wpList_copy_knownL (w : World) {ops : Array Oper} {rest : List Oper} {o : Oper} {a : Act} {Q : Exit → Act → World → Prop} (hg : o.guard = none) (d s : Operand) (t u : TypeId)
    (ho : o.op = .call { callee := .builtin .copy, args := #[d, s], argTypes := #[t, u] }) (x y : Value) (hd : a.eval d = x) (hs : a.eval s = y) {v : Value} {w' : World}
    (hr : (Builtin.copy_ #[t, u] o.type #[x, y]).run P w = .ok v w') (h : wpList P ops Q rest (a.put o.dst v) w') : wpList P ops Q (o :: rest) a w := by
  unfold wpList
  rw [if_pos (by simp [Region.wanted, hg])]
  exact .inl (wp_copy_knownL w d s t u ho x y hd hs hr h)
end
theorem own_drewL {w : World} {base n size : Nat} {e : TypeId} {v : Value} {vs : List Value} (h : w.ownsRow base e size v n vs) : w.drew.ownsRow base e size v n vs := ownsRow_below h (Below.refl _ _).drew
set_option maxHeartbeats 4000000 in
set_option maxRecDepth 100000 in
theorem insertL_any {W w : World} {g n c i vb c1 : Nat} {A1 : Option Addr} {ps : List Ls} {l : Ls} (hn : n ≤ 100000) (hin : i ≤ n) (hnc : n < c) (hgv : vb ≠ g)
    (h : OwnL W w (some ⟨g, 0, none⟩) n c ps) (hvb : Blk w vb 57 #[.int .i64 l.s, .int .i64 l.q, .int .i64 l.e, .slice A1 l.v.length c1, .int .i64 l.n]) (ho1 : OwnB W w A1 l.v.length c1 l.v) (hB : Below W.heap.size W w) :
    Calls Try.prog 74 #[.slice (some ⟨g, 0, none⟩) n c, .int .i64 (i : Int), .slice (some ⟨vb, 0, none⟩) 1 1] w fun e w' => e = .returned (.slice (some ⟨g, 0, none⟩) (n + 1) c) ∧ OwnL W w' (some ⟨g, 0, none⟩) (n + 1) c (ps.take i ++ l :: ps.drop i) ∧ Below W.heap.size W w' := by
  obtain rfl := h.length
  obtain ⟨vs, hrow, hown⟩ := h
  have hvl : vs.length = ps.length * 5 := hrow.1
  obtain ⟨cur, hbk, hcs, htk, _, hbase⟩ := own_cur hrow
  obtain ⟨t0, ht0, htz, hts, _⟩ := info_parts cellL.info
  have hcmax : c ≤ 9223372036854775807 := by have := (own_cap hrow).2; unfold maxLen at this; omega
  have hsl := fun (m j : Nat) (hj : j ≤ m) (w : World) => run_slice_fromS_ (P := Try.prog) Try.underlying52 ht0 hts (some ⟨g, 0, none⟩) m c j hj w
  have hcut : ∀ j, j < c → cutS (some ⟨g, 0, none⟩) c j 5 = some ⟨g, j * 5, none⟩ := fun j hj => by
    unfold cutS; rw [if_neg (by omega), Option.map_some, adr_add, Nat.zero_add]
  have hs1 := hsl ps.length i hin
  rw [hcut i (by omega)] at hs1
  have hz1 : ¬ (1 : Int) = 0 := by omega
  rcases Nat.lt_or_ge i ps.length with hlt | hge
  · have hne : ¬ ((i : Int) = (ps.length : Int)) := by omega
    have hs2 := hsl (ps.length + 1) (i + 1) (by omega)
    rw [hcut (i + 1) (by omega), show ps.length + 1 - (i + 1) = ps.length - i by omega] at hs2
    have hs3 := hsl (ps.length + 1) i (by omega)
    rw [hcut i (by omega)] at hs3
    have hs4 := run_slice_to (P := Try.prog) (t := 52) Try.underlying52 ht0 (some ⟨g, 0, none⟩) ps.length c (ps.length + 1) (by omega)
    rw [show (((i + 1 : Nat)) : Int) = (i : Int) + 1 by omega] at hs2
    rw [show (((ps.length + 1 : Nat)) : Int) = (ps.length : Int) + 1 by omega] at hs4
    have hw1 : IntKind.i64.wrap ((ps.length : Int) + 1) = (ps.length : Int) + 1 := IntWalk.i64_in _ (by omega)
    have hw2 : IntKind.i64.wrap ((i : Int) + 1) = (i : Int) + 1 := IntWalk.i64_in _ (by omega)
    have hroom : ¬ (c : Int) < (ps.length : Int) + 1 := by omega
    have hcur2 : cur.size = c * 5 := hcs
    have hdl : (vs.drop (i * 5)).length = (ps.length - i) * 5 := by rw [List.length_drop, hvl]; omega
    have hcp1 : ∀ ty dc sc, (Builtin.copy_ #[52, 52] ty #[.slice (some ⟨g, (i + 1) * 5, none⟩) (ps.length - i) dc, .slice (some ⟨g, i * 5, none⟩) (ps.length + 1 - i) sc]).run Try.prog w.drew = .ok (.int .i64 ((ps.length - i : Nat) : Int)) (w.drew.setRow g (cur.toList.take ((i + 1) * 5) ++ vs.drop (i * 5) ++ cur.toList.drop ((i + 1) * 5 + (vs.drop (i * 5)).length)).toArray) := fun ty dc sc =>
      run_copy_blk (P := Try.prog) w.drew _ _ ty 57 g ((i + 1) * 5) (ps.length - i) dc ⟨g, i * 5, none⟩ (ps.length + 1 - i) sc cur 57 (vs.drop (i * 5)) 5 (ps.length - i) Try.underlying52 (by rw [ht0]; simp [hts]) hbk (by simp only [Nat.min_def]; split <;> omega) hdl
        (fun j u hj => by
          rw [List.getElem?_drop] at hj
          rw [adr_add, ← hj]
          have hjl : i * 5 + j < vs.length := (List.getElem?_eq_some_iff.1 hj).1
          exact hrow.cellAt (i * 5 + j) (by omega)) (by rw [hdl]; omega) (fun u hu => hown.one u (List.mem_of_mem_drop hu))
    obtain ⟨cs1, hcs1⟩ : ∃ cs1, (cur.toList.take ((i + 1) * 5) ++ vs.drop (i * 5) ++ cur.toList.drop ((i + 1) * 5 + (vs.drop (i * 5)).length)) = cs1 := ⟨_, rfl⟩
    rw [hcs1] at hcp1
    have hcs1l : cs1.length = c * 5 := by rw [← hcs1]; simp [hdl]; omega
    obtain ⟨W1, hW1⟩ : ∃ W1, w.drew.setRow g cs1.toArray = W1 := ⟨_, rfl⟩
    rw [hW1] at hcp1
    have hbk1 : Blk W1 g 57 cs1.toArray := by rw [← hW1]; exact setRow_heap w.drew g cur _ _ _ hbk
    have hvb1 : Blk W1 vb 57 #[.int .i64 l.s, .int .i64 l.q, .int .i64 l.e, .slice A1 l.v.length c1, .int .i64 l.n] := by rw [← hW1]; exact (setRow_other w.drew g vb _ hgv).trans hvb
    have hcp2 : ∀ ty dc, (Builtin.copy_ #[52, 52] ty #[.slice (some ⟨g, i * 5, none⟩) (ps.length + 1 - i) dc, .slice (some ⟨vb, 0, none⟩) 1 1]).run Try.prog W1 = .ok (.int .i64 ((1 : Nat) : Int)) (W1.setRow g (cs1.toArray.toList.take (i * 5) ++ lastC A1 c1 l ++ cs1.toArray.toList.drop (i * 5 + 5)).toArray) := fun ty dc =>
      run_copy_blk (P := Try.prog) W1 _ _ ty 57 g (i * 5) (ps.length + 1 - i) dc ⟨vb, 0, none⟩ 1 1 cs1.toArray 57 (lastC A1 c1 l) 5 1 Try.underlying52 (by rw [ht0]; simp [hts]) hbk1 (by simp only [Nat.min_def]; split <;> omega) rfl
        (fun j u hj => by rw [adr_add, hvb1.cell, Nat.zero_add]; simpa [lastC] using hj) (by simp [lastC_length]; omega) (lastC_one A1 c1 l)
    obtain ⟨cs2, hcs2⟩ : ∃ cs2, (cs1.toArray.toList.take (i * 5) ++ lastC A1 c1 l ++ cs1.toArray.toList.drop (i * 5 + 5)) = cs2 := ⟨_, rfl⟩
    rw [hcs2] at hcp2
    obtain ⟨W2, hW2⟩ : ∃ W2, W1.setRow g cs2.toArray = W2 := ⟨_, rfl⟩
    rw [hW2] at hcp2
    have hov : ∀ lb cb, (callFunc 95 #[.slice (some ⟨vb, 0, none⟩) 1 1, .slice (some ⟨g, (i + 1) * 5, none⟩) lb cb]).run Try.prog w = .ok (.value (.bool false)) w := fun lb cb => by
      rw [run_callFunc_extern Try.func95 (by kernel_rfl) (by kernel_rfl) (by kernel_rfl) (e := Extern.SlicesOverlaps.overlaps #[52, 52] #[4]) (by kernel_rfl),
        Lib.run_overlaps_apart w 52 4 57 Try.underlying52 5 (fun w => by simp [sizeOf, typeInfo, ht0, hts]) ⟨vb, 0, none⟩ ⟨g, (i + 1) * 5, none⟩ 1 1 lb cb hgv 57 57 5 cur.size
          (by unfold Blk at hvb; simp [World.shape?, hvb]) (by unfold Blk at hbk; simp [World.shape?, hbk]) (by omega) (hvb.frozen 0) (hvb.frozen 5)]
      rfl
    have HFIN : Hid (OwnL W W2 (some ⟨g, 0, none⟩) (ps.length + 1) c (ps.take i ++ l :: ps.drop i) ∧ Below W.heap.size W W2) := Lib.hid (by
      have hW : W2 = w.drew.setRow g cs2.toArray := by rw [← hW2, ← hW1, setRow_setRow]
      have hc2l : cs2.length = c * 5 := by rw [← hcs2]; simp [lastC_length]; omega
      have htk2 : cs2.take ((ps.length + 1) * 5) = vs.take (i * 5) ++ lastC A1 c1 l ++ vs.drop (i * 5) := by
        have hxl : (cur.toList.take ((i + 1) * 5)).length = (i + 1) * 5 := by simp; omega
        have e1 : cs1.take (i * 5) = vs.take (i * 5) := by
          rw [← hcs1, List.append_assoc, List.take_append_of_le_length (by omega), List.take_take, Nat.min_eq_left (by omega), ← htk, List.take_take, Nat.min_eq_left (by omega)]
        have e2 : cs1.drop (i * 5 + 5) = vs.drop (i * 5) ++ cur.toList.drop ((i + 1) * 5 + (vs.drop (i * 5)).length) := by
          rw [← hcs1, List.append_assoc, show i * 5 + 5 = (i + 1) * 5 by omega, List.drop_append_of_le_length (by omega), List.drop_of_length_le (by omega)]; rfl
        rw [← hcs2]
        rw [e1, e2, ← List.append_assoc, List.take_append_of_le_length (by simp [lastC_length]; omega), List.take_of_length_le (by simp [lastC_length]; omega)]
      obtain ⟨r1, r2⟩ := own_written (w := w.drew) (own_drewL hrow) (n' := ps.length + 1) (vs' := vs.take (i * 5) ++ lastC A1 c1 l ++ vs.drop (i * 5)) cs2.toArray (by simpa using hc2l) (by omega) (by simp [hvl, lastC_length]; omega) (by simpa using htk2)
      rw [← hW] at r1 r2
      refine ⟨⟨_, r1, ?_⟩, hB.drew.grown r2 hB.size (fun k hk => by injection hk with hk; omega)⟩
      have hd : Below w.heap.size w w.drew := (Below.refl _ _).drew
      have hmid : OwnsL W w.drew (lastC A1 c1 l) [l] := CellsL.one5 (R := fun A c l => OwnB W w.drew A l.length c l) (own_below ho1 hd)
      have h9 := OwnsL.grown (CellsL.append (CellsL.append (OwnsL.below (CellsL.take hown i) hd) hmid) (OwnsL.below (CellsL.drop hown i) hd)) (by decide) (own_drewL hrow) r2
      rw [List.append_assoc (ps.take i), List.singleton_append] at h9
      exact h9)
    clear hbk hcs htk ht0 htz hts hsl hcut hrow hown hvb ho1 hB hdl hcs1 hcs1l hW1 hbk1 hvb1 hcs2 hW2 hcur2 hvl hbase
    go_enter Try.func74, Try.ntmps74
    go_wp2_with (simp only [hov])
    go_region_law (refine step_copy_knownL rfl _ _ 52 52 rfl _ _ (by simp [Act.eval, Act.put]) (by simp [Act.eval, Act.put]) (hcp1 _ _ _) ?_)
    go_wp2_with (at_builtin; refine wpList_copy_knownL _ rfl _ _ 52 52 rfl _ _ rfl rfl (hcp2 _ _) ?_)
    go_ret
    exact ⟨rfl, HFIN.out⟩
  · obtain rfl : i = ps.length := by omega
    have HROW := Lib.hid hrow
    have HOWN := Lib.hid hown
    have HVB := Lib.hid hvb
    have HO1 := Lib.hid ho1
    have HBW := Lib.hid hB
    have HSRC : Hid (Rd w w.heap.size (some ⟨vb, 0, none⟩) (1 * 5) (lastC A1 c1 l)) := Lib.hid ⟨rfl, fun _ => ⟨vb, 0, rfl, hvb.lt, fun j hj => by rw [Nat.zero_add, hvb.cell]; simp [lastC]⟩⟩
    clear hbk hcs htk ht0 htz hts hsl hcut hrow hown hvb ho1 hB hvl hbase
    go_enter Try.func74, Try.ntmps74
    go_wp2_with (first
      | (at_builtin
         refine wpList_append_fits (W := W) cellL (.tmp 23) (.tmp 24) rfl (by rfl) rfl HROW.out rfl HSRC.out (lastC_one A1 c1 l) (by omega) (by omega) HBW.out ?_
         intro w2 hown2 hB2 hg2)
      | fail)
    go_ret
    refine ⟨rfl, ⟨_, hown2, ?_⟩, hB2⟩
    rw [List.take_length, List.drop_length]
    exact OwnsL.grown (OwnsL.snoc HOWN.out HO1.out) (by decide) HROW.out hg2
end Go.Proofs.Ytcmjpjhaaookfaa
