/- ChainKit -/
import Derived.Test.YtneehnoolhadbaaGF29
namespace Go.Proofs.Ytneehnoolhadbaa
open Go.RowKit
set_option linter.unusedVariables false
section
variable {P : Program} {ops : Array Oper} {Q : Exit → Act → World → Prop} {a : Act} {w w' : World} {rest : List Oper} {o : Oper} {v : Value}
theorem ch_region {id : Nat} {l m n : List Oper} (hn : l.append m = n) (h : wpList P n.toArray Q n a w) : (Code.region id (l.append m).toArray false).wp P Q a w := by subst hn; exact wp_region_lit h
theorem ch_val (hw : Region.wanted o (yielded ops a.tmps) = true) (h : (execOp a.eval o).run P w = .ok (.value v) w') (hn : wpList P ops Q rest (a.put o.dst v) w') : wpList P ops Q (o :: rest) a w := by
  unfold wpList; rw [if_pos hw]; exact Or.inl (wp_of_run h hn)
theorem ch_no (hw : Region.wanted o (yielded ops a.tmps) = false) (hn : wpList P ops Q rest (a.put o.dst undef) w) : wpList P ops Q (o :: rest) a w := by
  unfold wpList; rw [if_neg (by rw [hw]; exact Bool.false_ne_true)]; exact hn
theorem ch_free (hg : o.guard = none) : Region.wanted o (yielded ops a.tmps) = true := by unfold Region.wanted; rw [hg]
theorem ch_want {j s : Nat} {c : Bool} (hg : o.guard = some (j, true)) (hd : (ops[j]?).bind (·.dst) = some s) (hs : a.tmps[s]? = some (.bool c)) : Region.wanted o (yielded ops a.tmps) = c := by
  unfold Region.wanted yielded
  rw [hg]
  simp only [hd, Option.bind_some, hs]
  cases c <;> rfl
theorem ch_put_ne {d j : Nat} (h : d ≠ j) : (a.put (some d) v).tmps[j]? = a.tmps[j]? := by
  unfold Act.put; simp [h]
theorem ch_put_eq {d : Nat} (h : d < a.tmps.size) : (a.put (some d) v).tmps[d]? = some v := by
  unfold Act.put; simp [h]
theorem ch_put_size {d : Nat} : (a.put (some d) v).tmps.size = a.tmps.size := by unfold Act.put; simp
theorem ch_put_def {d : Option Nat} : (a.put d v).defers = a.defers := by cases d <;> rfl
theorem ch_eval {t : Nat} (h : a.tmps[t]? = some v) : a.eval (.tmp t) = v := by unfold Act.eval; simp [h]
theorem ch_move {x : Operand} (ho : o.op = .move x) (hx : a.eval x = v) : (execOp a.eval o).run P w = .ok (.value v) w := by unfold execOp; rw [ho, ← hx]; rfl
theorem ch_assign {x : Operand} (ho : o.op = .assign x) (hx : a.eval x = v) : (execOp a.eval o).run P w = .ok (.value v) w := by unfold execOp; rw [ho, ← hx]; rfl
theorem ch_pick {c x y : Operand} {b : Bool} (ho : o.op = .pick c x y) (hc : a.eval c = .bool b) : (execOp a.eval o).run P w = .ok (.value (if b then a.eval x else a.eval y)) w := by unfold execOp; rw [ho]; simp only [hc]; cases b <;> rfl
theorem ch_field {ty : TypeId} {x : Operand} {i : Nat} {p : Value} (ho : o.op = .fieldAddr ty x i) (hx : a.eval x = p) (hf : (Instr.fieldAt ty p i).run P w = .ok v w) : (execOp a.eval o).run P w = .ok (.value v) w := by
  unfold execOp; simp only [ho, hx, Sem.run_bind, hf, Result.andThen_ok, Sem.run_pure]
theorem ch_load {ty : TypeId} {x : Operand} {p : Value} (ho : o.op = .load ty x) (hx : a.eval x = p) (hf : (Instr.loadAt ty p).run P w = .ok v w) : (execOp a.eval o).run P w = .ok (.value v) w := by
  unfold execOp; simp only [ho, hx, Sem.run_bind, hf, Result.andThen_ok, Sem.run_pure]
theorem ch_conv {s d : TypeId} {x : Operand} {p : Value} (ho : o.op = .convert s d x) (hx : a.eval x = p) (hf : (convert s d p).run P w = .ok v w) : (execOp a.eval o).run P w = .ok (.value v) w := by
  unfold execOp; simp only [ho, hx, Sem.run_bind, hf, Result.andThen_ok, Sem.run_pure]
theorem ch_bin {op : BinOp} {ty ty' : TypeId} {x y : Operand} {p q : Value} (ho : o.op = .binOp op ty x y ty') (hx : a.eval x = p) (hy : a.eval y = q) (hf : (eqGuard op ty x y p q).run P w = .ok () w) (hb : (binOp op ty p q).run P w = .ok v w) : (execOp a.eval o).run P w = .ok (.value v) w := by
  unfold execOp; simp only [ho, hx, hy, Sem.run_bind, hf, hb, Result.andThen_ok, Sem.run_pure]
end
section
variable {w : World} {g i : Nat}
theorem ch_ldI {z : Int} (h : w.cell? ⟨g, i, none⟩ = some (.int .i64 z)) : (Instr.loadAt 3 (.pointer (some ⟨g, i, none⟩))).run Try.prog w = .ok (.int .i64 z) w := by
  simp [go_sem, h]
theorem ch_ldB {z : Bool} (h : w.cell? ⟨g, i, none⟩ = some (.bool z)) : (Instr.loadAt 4 (.pointer (some ⟨g, i, none⟩))).run Try.prog w = .ok (.bool z) w := by
  simp [go_sem, h]
theorem ch_gI {x y : Operand} {p q : Int} : (eqGuard .eql 3 x y (.int .i64 p) (.int .i64 q)).run Try.prog w = .ok () w := by kernel_rfl
theorem ch_eI {p q : Int} : (binOp .eql 3 (.int .i64 p) (.int .i64 q)).run Try.prog w = .ok (.bool (p == q)) w := by kernel_rfl
theorem ch_eB {p q : Bool} : (binOp .eql 4 (.bool p) (.bool q)).run Try.prog w = .ok (.bool (p == q)) w := by kernel_rfl
end

/-- what lies below slot s is kept -/
structure Kp (s : Nat) (a a' : Act) : Prop where
  size : a'.tmps.size = a.tmps.size
  d : a'.defers = a.defers
  at_ : ∀ j, j < s → a'.tmps[j]? = a.tmps[j]?
theorem Kp.put {s d : Nat} (a : Act) (v : Value) (h : s ≤ d) : Kp s a (a.put (some d) v) := ⟨ch_put_size, ch_put_def, fun j hj => ch_put_ne (by omega)⟩
theorem Kp.trans {s s' : Nat} {a b c : Act} (h : Kp s a b) (h' : Kp s' b c) (hs : s ≤ s') : Kp s a c := ⟨h'.size.trans h.size, h'.d.trans h.d, fun j hj => (h'.at_ j (by omega)).trans (h.at_ j hj)⟩
/-- a frame in the middle of such a region: two variables in slots 2 and 3, and in slot r whether all was alike so far -/
structure ChF (wa : World) (N g g' r : Nat) (c : Bool) (a : Act) (w : World) : Prop where
  size : a.tmps.size = N
  d : a.defers = []
  p2 : a.tmps[2]? = some (.pointer (some ⟨g, 0, none⟩))
  p3 : a.tmps[3]? = some (.pointer (some ⟨g', 0, none⟩))
  r : a.tmps[r]? = some (.bool c)
  b : Below wa.heap.size wa w
theorem ChF.next {wa w w' : World} {N g g' r s : Nat} {c c' : Bool} {a a' : Act} (h : ChF wa N g g' r c a w) (hk : Kp s a a') (hs : 3 < s) {t : Nat} (ht : a'.tmps[t]? = some (.bool c')) (hb : Below w.heap.size w w') : ChF wa N g g' t c' a' w' :=
  ⟨hk.size.trans h.size, hk.d.trans h.d, (hk.at_ 2 (by omega)).trans h.p2, (hk.at_ 3 (by omega)).trans h.p3, ht, h.b.trans (hb.mono h.b.size)⟩
section
variable {P : Program} {ops : Array Oper} {Q : Exit → Act → World → Prop} {a : Act} {w wa : World} {rest : List Oper} {N g g' r s gi i : Nat} {c D : Bool} {X Y : Value} {tm ty : TypeId}
/-- the five or more operations under the guard: not wanted -/
theorem ch_skip {l : List Oper} (hl : ∀ o ∈ l, o.guard = some (gi, true) ∧ ∃ d, o.dst = some d ∧ s < d) (hgi : (ops[gi]?).bind (·.dst) = some s) (hs : a.tmps[s]? = some (.bool false))
    (hn : ∀ a', Kp (s + 1) a a' → wpList P ops Q rest a' w) : wpList P ops Q (l ++ rest) a w := by
  induction l generalizing a with
  | nil => exact hn a ⟨rfl, rfl, fun _ _ => rfl⟩
  | cons o l ih =>
    obtain ⟨hg, d, hd, hlt⟩ := hl o (by simp)
    refine ch_no (ch_want hg hgi hs) ?_
    rw [hd]
    have k := Kp.put (s := s + 1) a undef (show s + 1 ≤ d by omega)
    exact ih (fun o ho => hl o (by simp [ho])) ((k.at_ s (by omega)).trans hs) fun a' h => hn a' (k.trans h (Nat.le_refl _))
/-- one field, loaded from both and compared -/
theorem ch_group {o0 o1 o2 o3 o4 o5 o6 : Oper} (hN : s + 6 < N) (h3 : 3 < s) (hr : r < s) (hgi : (ops[gi]?).bind (·.dst) = some s)
    (q0 : o0.dst = some s ∧ o0.guard = none ∧ o0.op = .move (.tmp r)) (q1 : o1.dst = some (s + 1) ∧ o1.guard = some (gi, true) ∧ o1.op = .fieldAddr tm (.tmp 2) i)
    (q2 : o2.dst = some (s + 2) ∧ o2.guard = some (gi, true) ∧ o2.op = .load ty (.tmp (s + 1))) (q3 : o3.dst = some (s + 3) ∧ o3.guard = some (gi, true) ∧ o3.op = .fieldAddr tm (.tmp 3) i)
    (q4 : o4.dst = some (s + 4) ∧ o4.guard = some (gi, true) ∧ o4.op = .load ty (.tmp (s + 3))) (q5 : o5.dst = some (s + 5) ∧ o5.guard = some (gi, true) ∧ o5.op = .binOp .eql ty (.tmp (s + 2)) (.tmp (s + 4)) ty)
    (q6 : o6.dst = some (s + 6) ∧ o6.guard = none ∧ o6.op = .pick (.tmp s) (.tmp (s + 5)) (.const (.bool false)))
    (hF : ChF wa N g g' r c a w)
    (f1 : (Instr.fieldAt tm (.pointer (some ⟨g, 0, none⟩)) i).run P w = .ok (.pointer (some ⟨g, i, none⟩)) w) (l1 : (Instr.loadAt ty (.pointer (some ⟨g, i, none⟩))).run P w = .ok X w)
    (f2 : (Instr.fieldAt tm (.pointer (some ⟨g', 0, none⟩)) i).run P w = .ok (.pointer (some ⟨g', i, none⟩)) w) (l2 : (Instr.loadAt ty (.pointer (some ⟨g', i, none⟩))).run P w = .ok Y w)
    (e1 : (eqGuard .eql ty (.tmp (s + 2)) (.tmp (s + 4)) X Y).run P w = .ok () w) (e2 : (binOp .eql ty X Y).run P w = .ok (.bool D) w)
    (hn : ∀ a', ChF wa N g g' (s + 6) (c && D) a' w → wpList P ops Q rest a' w) : wpList P ops Q (o0 :: o1 :: o2 :: o3 :: o4 :: o5 :: o6 :: rest) a w := by
  obtain ⟨d0, g0, p0⟩ := q0
  obtain ⟨d1, g1, p1⟩ := q1
  obtain ⟨d2, g2, p2⟩ := q2
  obtain ⟨d3, g3, p3⟩ := q3
  obtain ⟨d4, g4, p4⟩ := q4
  obtain ⟨d5, g5, p5⟩ := q5
  obtain ⟨d6, g6, p6⟩ := q6
  have hsz := hF.size
  refine ch_val (ch_free g0) (ch_move p0 (ch_eval hF.r)) ?_
  rw [d0]
  have k1 := Kp.put (s := s) a (.bool c) (Nat.le_refl _)
  have v1 : (a.put (some s) (.bool c)).tmps[s]? = some (.bool c) := ch_put_eq (by omega)
  have z1 : (a.put (some s) (.bool c)).tmps.size = N := k1.size.trans hsz
  generalize a.put (some s) (.bool c) = a1 at k1 v1 z1 ⊢
  cases c with
  | false =>
    refine ch_skip (l := [o1, o2, o3, o4, o5]) (gi := gi) (s := s) ?_ hgi v1 fun a' hk => ?_
    · intro o ho
      simp only [List.mem_cons, List.not_mem_nil, or_false] at ho
      rcases ho with rfl | rfl | rfl | rfl | rfl
      · exact ⟨g1, _, d1, by omega⟩
      · exact ⟨g2, _, d2, by omega⟩
      · exact ⟨g3, _, d3, by omega⟩
      · exact ⟨g4, _, d4, by omega⟩
      · exact ⟨g5, _, d5, by omega⟩
    · refine ch_val (ch_free g6) (ch_pick p6 (ch_eval ((hk.at_ s (by omega)).trans v1))) ?_
      rw [d6]
      have k6 := Kp.put (s := s + 1) a' (if false = true then a'.eval (.tmp (s + 5)) else a'.eval (.const (.bool false))) (show s + 1 ≤ s + 6 by omega)
      exact hn _ (hF.next ((k1.trans hk (by omega)).trans k6 (by omega)) h3 (ch_put_eq (by rw [hk.size, z1]; exact hN)) (Below.refl _ _))
  | true =>
    have w1 : ∀ {o : Oper} {b : Act}, o.guard = some (gi, true) → Kp (s + 1) a1 b → Region.wanted o (yielded ops b.tmps) = true := fun hg hk => ch_want hg hgi ((hk.at_ s (by omega)).trans v1)
    have kk := fun (b : Act) (h : Kp (s + 1) a1 b) (d : Nat) (v : Value) (hd : s + 1 ≤ d) => h.trans (Kp.put (s := s + 1) b v hd) (Nat.le_refl _)
    have k0 : Kp (s + 1) a1 a1 := ⟨rfl, rfl, fun _ _ => rfl⟩
    refine ch_val (w1 g1 k0) (ch_field p1 (ch_eval ((k1.at_ 2 (by omega)).trans hF.p2)) f1) ?_
    rw [d1]
    have m1 := kk a1 k0 (s + 1) (.pointer (some ⟨g, i, none⟩)) (by omega)
    have u1 : (a1.put (some (s + 1)) (.pointer (some ⟨g, i, none⟩))).tmps[s + 1]? = some (.pointer (some ⟨g, i, none⟩)) := ch_put_eq (by omega)
    generalize a1.put (some (s + 1)) (.pointer (some ⟨g, i, none⟩)) = a2 at m1 u1 ⊢
    refine ch_val (w1 g2 m1) (ch_load p2 (ch_eval u1) l1) ?_
    rw [d2]
    have m2 := kk a2 m1 (s + 2) X (by omega)
    have u2 : (a2.put (some (s + 2)) X).tmps[s + 2]? = some X := ch_put_eq (by rw [m1.size]; omega)
    generalize a2.put (some (s + 2)) X = a3 at m2 u2 ⊢
    refine ch_val (w1 g3 m2) (ch_field p3 (ch_eval ((m2.at_ 3 (by omega)).trans ((k1.at_ 3 (by omega)).trans hF.p3))) f2) ?_
    rw [d3]
    have m3 := kk a3 m2 (s + 3) (.pointer (some ⟨g', i, none⟩)) (by omega)
    have u3 : (a3.put (some (s + 3)) (.pointer (some ⟨g', i, none⟩))).tmps[s + 3]? = some (.pointer (some ⟨g', i, none⟩)) := ch_put_eq (by rw [m2.size]; omega)
    have u2 : (a3.put (some (s + 3)) (.pointer (some ⟨g', i, none⟩))).tmps[s + 2]? = some X := (ch_put_ne (by omega)).trans u2
    generalize a3.put (some (s + 3)) (.pointer (some ⟨g', i, none⟩)) = a4 at m3 u3 u2 ⊢
    refine ch_val (w1 g4 m3) (ch_load p4 (ch_eval u3) l2) ?_
    rw [d4]
    have m4 := kk a4 m3 (s + 4) Y (by omega)
    have u4 : (a4.put (some (s + 4)) Y).tmps[s + 4]? = some Y := ch_put_eq (by rw [m3.size]; omega)
    have u2 : (a4.put (some (s + 4)) Y).tmps[s + 2]? = some X := (ch_put_ne (by omega)).trans u2
    generalize a4.put (some (s + 4)) Y = a5 at m4 u4 u2 ⊢
    refine ch_val (w1 g5 m4) (ch_bin p5 (ch_eval u2) (ch_eval u4) e1 e2) ?_
    rw [d5]
    have m5 := kk a5 m4 (s + 5) (.bool D) (by omega)
    have u5 : (a5.put (some (s + 5)) (.bool D)).tmps[s + 5]? = some (.bool D) := ch_put_eq (by rw [m4.size]; omega)
    generalize a5.put (some (s + 5)) (.bool D) = a6 at m5 u5 ⊢
    refine ch_val (ch_free g6) (ch_pick p6 (ch_eval ((m5.at_ s (by omega)).trans v1))) ?_
    rw [d6, if_pos rfl, ch_eval u5]
    have k6 := Kp.put (s := s + 1) a6 (.bool D) (show s + 1 ≤ s + 6 by omega)
    refine hn _ (hF.next ((k1.trans m5 (by omega)).trans k6 (by omega)) h3 ?_ (Below.refl _ _))
    rw [Bool.true_and]
    exact ch_put_eq (by rw [m5.size, z1]; exact hN)

theorem ch_call {o : Oper} {f : FuncId} {x y : Operand} {ts : Array TypeId} {R : World → Prop} {V : Value} (hw : Region.wanted o (yielded ops a.tmps) = true) (ho : o.op = .call { callee := .value (.func f), args := #[x, y], argTypes := ts })
    (hx : a.eval x = X) (hy : a.eval y = Y) (hcf : (callFunc f #[X, Y]).run P w = .ok (.enter f #[X, Y]) w) (hc : Calls P f #[X, Y] w fun e w' => e = .returned V ∧ R w') (hn : ∀ w', R w' → wpList P ops Q rest (a.put o.dst V) w') : wpList P ops Q (o :: rest) a w := by
  unfold wpList
  rw [if_pos hw]
  refine Or.inl ?_
  have hf : a.eval (.func f) = .func (.func f) #[] #[] := rfl
  have e : (execOp a.eval o).run P w = .ok (.enter f #[X, Y]) w := by
    unfold execOp
    simp only [ho, resolve, Deferred.ofValue, invoke, Sem.run_bind, Sem.run_pure, Result.andThen_ok, List.map_toArray, List.map_cons, List.map_nil, hx, hy, hf]
    exact hcf
  unfold Oper.wp
  rw [e]
  refine hc.mono ?_
  rintro e w' ⟨rfl, hR⟩
  exact hn w' hR
/-- the first field of all: no guard -/
theorem ch_first {o1 o2 o3 o4 o5 : Oper} (hN : s + 4 < N) (h3 : 3 < s)
    (q1 : o1.dst = some s ∧ o1.guard = none ∧ o1.op = .fieldAddr tm (.tmp 2) i)
    (q2 : o2.dst = some (s + 1) ∧ o2.guard = none ∧ o2.op = .load ty (.tmp s)) (q3 : o3.dst = some (s + 2) ∧ o3.guard = none ∧ o3.op = .fieldAddr tm (.tmp 3) i)
    (q4 : o4.dst = some (s + 3) ∧ o4.guard = none ∧ o4.op = .load ty (.tmp (s + 2))) (q5 : o5.dst = some (s + 4) ∧ o5.guard = none ∧ o5.op = .binOp .eql ty (.tmp (s + 1)) (.tmp (s + 3)) ty)
    (hsz : a.tmps.size = N) (hd : a.defers = []) (hp2 : a.tmps[2]? = some (.pointer (some ⟨g, 0, none⟩))) (hp3 : a.tmps[3]? = some (.pointer (some ⟨g', 0, none⟩))) (hb : Below wa.heap.size wa w)
    (f1 : (Instr.fieldAt tm (.pointer (some ⟨g, 0, none⟩)) i).run P w = .ok (.pointer (some ⟨g, i, none⟩)) w) (l1 : (Instr.loadAt ty (.pointer (some ⟨g, i, none⟩))).run P w = .ok X w)
    (f2 : (Instr.fieldAt tm (.pointer (some ⟨g', 0, none⟩)) i).run P w = .ok (.pointer (some ⟨g', i, none⟩)) w) (l2 : (Instr.loadAt ty (.pointer (some ⟨g', i, none⟩))).run P w = .ok Y w)
    (e1 : (eqGuard .eql ty (.tmp (s + 1)) (.tmp (s + 3)) X Y).run P w = .ok () w) (e2 : (binOp .eql ty X Y).run P w = .ok (.bool D) w)
    (hn : ∀ a', ChF wa N g g' (s + 4) D a' w → wpList P ops Q rest a' w) : wpList P ops Q (o1 :: o2 :: o3 :: o4 :: o5 :: rest) a w := by
  obtain ⟨d1, g1, p1⟩ := q1
  obtain ⟨d2, g2, p2⟩ := q2
  obtain ⟨d3, g3, p3⟩ := q3
  obtain ⟨d4, g4, p4⟩ := q4
  obtain ⟨d5, g5, p5⟩ := q5
  have kk := fun (b : Act) (h : Kp s a b) (d : Nat) (v : Value) (hd : s ≤ d) => h.trans (Kp.put (s := s) b v hd) (Nat.le_refl _)
  have k0 : Kp s a a := ⟨rfl, rfl, fun _ _ => rfl⟩
  refine ch_val (ch_free g1) (ch_field p1 (ch_eval hp2) f1) ?_
  rw [d1]
  have m1 := kk a k0 s (.pointer (some ⟨g, i, none⟩)) (by omega)
  have u1 : (a.put (some s) (.pointer (some ⟨g, i, none⟩))).tmps[s]? = some (.pointer (some ⟨g, i, none⟩)) := ch_put_eq (by omega)
  generalize a.put (some s) (.pointer (some ⟨g, i, none⟩)) = a2 at m1 u1 ⊢
  refine ch_val (ch_free g2) (ch_load p2 (ch_eval u1) l1) ?_
  rw [d2]
  have m2 := kk a2 m1 (s + 1) X (by omega)
  have u2 : (a2.put (some (s + 1)) X).tmps[s + 1]? = some X := ch_put_eq (by rw [m1.size]; omega)
  generalize a2.put (some (s + 1)) X = a3 at m2 u2 ⊢
  refine ch_val (ch_free g3) (ch_field p3 (ch_eval ((m2.at_ 3 (by omega)).trans hp3)) f2) ?_
  rw [d3]
  have m3 := kk a3 m2 (s + 2) (.pointer (some ⟨g', i, none⟩)) (by omega)
  have u3 : (a3.put (some (s + 2)) (.pointer (some ⟨g', i, none⟩))).tmps[s + 2]? = some (.pointer (some ⟨g', i, none⟩)) := ch_put_eq (by rw [m2.size]; omega)
  have u2 : (a3.put (some (s + 2)) (.pointer (some ⟨g', i, none⟩))).tmps[s + 1]? = some X := (ch_put_ne (by omega)).trans u2
  generalize a3.put (some (s + 2)) (.pointer (some ⟨g', i, none⟩)) = a4 at m3 u3 u2 ⊢
  refine ch_val (ch_free g4) (ch_load p4 (ch_eval u3) l2) ?_
  rw [d4]
  have m4 := kk a4 m3 (s + 3) Y (by omega)
  have u4 : (a4.put (some (s + 3)) Y).tmps[s + 3]? = some Y := ch_put_eq (by rw [m3.size]; omega)
  have u2 : (a4.put (some (s + 3)) Y).tmps[s + 1]? = some X := (ch_put_ne (by omega)).trans u2
  generalize a4.put (some (s + 3)) Y = a5 at m4 u4 u2 ⊢
  refine ch_val (ch_free g5) (ch_bin p5 (ch_eval u2) (ch_eval u4) e1 e2) ?_
  rw [d5]
  have m5 := kk a5 m4 (s + 4) (.bool D) (by omega)
  exact hn _ ⟨m5.size.trans hsz, m5.d.trans hd, (m5.at_ 2 (by omega)).trans hp2, (m5.at_ 3 (by omega)).trans hp3, ch_put_eq (by rw [m4.size]; omega), hb⟩
/-- one field, loaded from both, turned into strings, and compared -/
theorem ch_groupS {o0 o1 o2 o2c o3 o4 o4c o5 o6 : Oper} {tg : TypeId} {X' Y' : Value} (hN : s + 8 < N) (h3 : 3 < s) (hr : r < s) (hgi : (ops[gi]?).bind (·.dst) = some s)
    (q0 : o0.dst = some s ∧ o0.guard = none ∧ o0.op = .move (.tmp r)) (q1 : o1.dst = some (s + 1) ∧ o1.guard = some (gi, true) ∧ o1.op = .fieldAddr tm (.tmp 2) i)
    (q2 : o2.dst = some (s + 2) ∧ o2.guard = some (gi, true) ∧ o2.op = .load ty (.tmp (s + 1))) (q2c : o2c.dst = some (s + 3) ∧ o2c.guard = some (gi, true) ∧ o2c.op = .convert ty tg (.tmp (s + 2)))
    (q3 : o3.dst = some (s + 4) ∧ o3.guard = some (gi, true) ∧ o3.op = .fieldAddr tm (.tmp 3) i)
    (q4 : o4.dst = some (s + 5) ∧ o4.guard = some (gi, true) ∧ o4.op = .load ty (.tmp (s + 4))) (q4c : o4c.dst = some (s + 6) ∧ o4c.guard = some (gi, true) ∧ o4c.op = .convert ty tg (.tmp (s + 5)))
    (q5 : o5.dst = some (s + 7) ∧ o5.guard = some (gi, true) ∧ o5.op = .binOp .eql tg (.tmp (s + 3)) (.tmp (s + 6)) tg)
    (q6 : o6.dst = some (s + 8) ∧ o6.guard = none ∧ o6.op = .pick (.tmp s) (.tmp (s + 7)) (.const (.bool false)))
    (hF : ChF wa N g g' r c a w)
    (f1 : (Instr.fieldAt tm (.pointer (some ⟨g, 0, none⟩)) i).run P w = .ok (.pointer (some ⟨g, i, none⟩)) w) (l1 : (Instr.loadAt ty (.pointer (some ⟨g, i, none⟩))).run P w = .ok X w) (c1 : (convert ty tg X).run P w = .ok X' w)
    (f2 : (Instr.fieldAt tm (.pointer (some ⟨g', 0, none⟩)) i).run P w = .ok (.pointer (some ⟨g', i, none⟩)) w) (l2 : (Instr.loadAt ty (.pointer (some ⟨g', i, none⟩))).run P w = .ok Y w) (c2 : (convert ty tg Y).run P w = .ok Y' w)
    (e1 : (eqGuard .eql tg (.tmp (s + 3)) (.tmp (s + 6)) X' Y').run P w = .ok () w) (e2 : (binOp .eql tg X' Y').run P w = .ok (.bool D) w)
    (hn : ∀ a', ChF wa N g g' (s + 8) (c && D) a' w → wpList P ops Q rest a' w) : wpList P ops Q (o0 :: o1 :: o2 :: o2c :: o3 :: o4 :: o4c :: o5 :: o6 :: rest) a w := by
  obtain ⟨d0, g0, p0⟩ := q0
  obtain ⟨d1, g1, p1⟩ := q1
  obtain ⟨d2, g2, p2⟩ := q2
  obtain ⟨d2c, g2c, p2c⟩ := q2c
  obtain ⟨d3, g3, p3⟩ := q3
  obtain ⟨d4, g4, p4⟩ := q4
  obtain ⟨d4c, g4c, p4c⟩ := q4c
  obtain ⟨d5, g5, p5⟩ := q5
  obtain ⟨d6, g6, p6⟩ := q6
  have hsz := hF.size
  refine ch_val (ch_free g0) (ch_move p0 (ch_eval hF.r)) ?_
  rw [d0]
  have k1 := Kp.put (s := s) a (.bool c) (Nat.le_refl _)
  have v1 : (a.put (some s) (.bool c)).tmps[s]? = some (.bool c) := ch_put_eq (by omega)
  have z1 : (a.put (some s) (.bool c)).tmps.size = N := k1.size.trans hsz
  generalize a.put (some s) (.bool c) = a1 at k1 v1 z1 ⊢
  cases c with
  | false =>
    refine ch_skip (l := [o1, o2, o2c, o3, o4, o4c, o5]) (gi := gi) (s := s) ?_ hgi v1 fun a' hk => ?_
    · intro o ho
      simp only [List.mem_cons, List.not_mem_nil, or_false] at ho
      rcases ho with rfl | rfl | rfl | rfl | rfl | rfl | rfl
      · exact ⟨g1, _, d1, by omega⟩
      · exact ⟨g2, _, d2, by omega⟩
      · exact ⟨g2c, _, d2c, by omega⟩
      · exact ⟨g3, _, d3, by omega⟩
      · exact ⟨g4, _, d4, by omega⟩
      · exact ⟨g4c, _, d4c, by omega⟩
      · exact ⟨g5, _, d5, by omega⟩
    · refine ch_val (ch_free g6) (ch_pick p6 (ch_eval ((hk.at_ s (by omega)).trans v1))) ?_
      rw [d6]
      have k6 := Kp.put (s := s + 1) a' (if false = true then a'.eval (.tmp (s + 7)) else a'.eval (.const (.bool false))) (show s + 1 ≤ s + 8 by omega)
      exact hn _ (hF.next ((k1.trans hk (by omega)).trans k6 (by omega)) h3 (ch_put_eq (by rw [hk.size, z1]; exact hN)) (Below.refl _ _))
  | true =>
    have w1 : ∀ {o : Oper} {b : Act}, o.guard = some (gi, true) → Kp (s + 1) a1 b → Region.wanted o (yielded ops b.tmps) = true := fun hg hk => ch_want hg hgi ((hk.at_ s (by omega)).trans v1)
    have kk := fun (b : Act) (h : Kp (s + 1) a1 b) (d : Nat) (v : Value) (hd : s + 1 ≤ d) => h.trans (Kp.put (s := s + 1) b v hd) (Nat.le_refl _)
    have k0 : Kp (s + 1) a1 a1 := ⟨rfl, rfl, fun _ _ => rfl⟩
    refine ch_val (w1 g1 k0) (ch_field p1 (ch_eval ((k1.at_ 2 (by omega)).trans hF.p2)) f1) ?_
    rw [d1]
    have m1 := kk a1 k0 (s + 1) (.pointer (some ⟨g, i, none⟩)) (by omega)
    have u1 : (a1.put (some (s + 1)) (.pointer (some ⟨g, i, none⟩))).tmps[s + 1]? = some (.pointer (some ⟨g, i, none⟩)) := ch_put_eq (by omega)
    generalize a1.put (some (s + 1)) (.pointer (some ⟨g, i, none⟩)) = a2 at m1 u1 ⊢
    refine ch_val (w1 g2 m1) (ch_load p2 (ch_eval u1) l1) ?_
    rw [d2]
    have m2 := kk a2 m1 (s + 2) X (by omega)
    have u2 : (a2.put (some (s + 2)) X).tmps[s + 2]? = some X := ch_put_eq (by rw [m1.size]; omega)
    generalize a2.put (some (s + 2)) X = a3 at m2 u2 ⊢
    refine ch_val (w1 g2c m2) (ch_conv p2c (ch_eval u2) c1) ?_
    rw [d2c]
    have m3 := kk a3 m2 (s + 3) X' (by omega)
    have v3 : (a3.put (some (s + 3)) X').tmps[s + 3]? = some X' := ch_put_eq (by rw [m2.size]; omega)
    generalize a3.put (some (s + 3)) X' = a4 at m3 v3 ⊢
    refine ch_val (w1 g3 m3) (ch_field p3 (ch_eval ((m3.at_ 3 (by omega)).trans ((k1.at_ 3 (by omega)).trans hF.p3))) f2) ?_
    rw [d3]
    have m4 := kk a4 m3 (s + 4) (.pointer (some ⟨g', i, none⟩)) (by omega)
    have u4 : (a4.put (some (s + 4)) (.pointer (some ⟨g', i, none⟩))).tmps[s + 4]? = some (.pointer (some ⟨g', i, none⟩)) := ch_put_eq (by rw [m3.size]; omega)
    have v3 : (a4.put (some (s + 4)) (.pointer (some ⟨g', i, none⟩))).tmps[s + 3]? = some X' := (ch_put_ne (by omega)).trans v3
    generalize a4.put (some (s + 4)) (.pointer (some ⟨g', i, none⟩)) = a5 at m4 u4 v3 ⊢
    refine ch_val (w1 g4 m4) (ch_load p4 (ch_eval u4) l2) ?_
    rw [d4]
    have m5 := kk a5 m4 (s + 5) Y (by omega)
    have u5 : (a5.put (some (s + 5)) Y).tmps[s + 5]? = some Y := ch_put_eq (by rw [m4.size]; omega)
    have v3 : (a5.put (some (s + 5)) Y).tmps[s + 3]? = some X' := (ch_put_ne (by omega)).trans v3
    generalize a5.put (some (s + 5)) Y = a6 at m5 u5 v3 ⊢
    refine ch_val (w1 g4c m5) (ch_conv p4c (ch_eval u5) c2) ?_
    rw [d4c]
    have m6 := kk a6 m5 (s + 6) Y' (by omega)
    have u6 : (a6.put (some (s + 6)) Y').tmps[s + 6]? = some Y' := ch_put_eq (by rw [m5.size]; omega)
    have v3 : (a6.put (some (s + 6)) Y').tmps[s + 3]? = some X' := (ch_put_ne (by omega)).trans v3
    generalize a6.put (some (s + 6)) Y' = a7 at m6 u6 v3 ⊢
    refine ch_val (w1 g5 m6) (ch_bin p5 (ch_eval v3) (ch_eval u6) e1 e2) ?_
    rw [d5]
    have m7 := kk a7 m6 (s + 7) (.bool D) (by omega)
    have u7 : (a7.put (some (s + 7)) (.bool D)).tmps[s + 7]? = some (.bool D) := ch_put_eq (by rw [m6.size]; omega)
    generalize a7.put (some (s + 7)) (.bool D) = a8 at m7 u7 ⊢
    refine ch_val (ch_free g6) (ch_pick p6 (ch_eval ((m7.at_ s (by omega)).trans v1))) ?_
    rw [d6, if_pos rfl, ch_eval u7]
    have k6 := Kp.put (s := s + 1) a8 (.bool D) (show s + 1 ≤ s + 8 by omega)
    refine hn _ (hF.next ((k1.trans m7 (by omega)).trans k6 (by omega)) h3 ?_ (Below.refl _ _))
    rw [Bool.true_and]
    exact ch_put_eq (by rw [m7.size, z1]; exact hN)
/-- one field, loaded from both and compared by a call -/
theorem ch_groupC {o0 o1 o2 o3 o4 o5 o6 : Oper} {f : FuncId} {ts : Array TypeId} (hN : s + 6 < N) (h3 : 3 < s) (hr : r < s) (hgi : (ops[gi]?).bind (·.dst) = some s)
    (q0 : o0.dst = some s ∧ o0.guard = none ∧ o0.op = .move (.tmp r)) (q1 : o1.dst = some (s + 1) ∧ o1.guard = some (gi, true) ∧ o1.op = .fieldAddr tm (.tmp 2) i)
    (q2 : o2.dst = some (s + 2) ∧ o2.guard = some (gi, true) ∧ o2.op = .load ty (.tmp (s + 1))) (q3 : o3.dst = some (s + 3) ∧ o3.guard = some (gi, true) ∧ o3.op = .fieldAddr tm (.tmp 3) i)
    (q4 : o4.dst = some (s + 4) ∧ o4.guard = some (gi, true) ∧ o4.op = .load ty (.tmp (s + 3))) (q5 : o5.dst = some (s + 5) ∧ o5.guard = some (gi, true) ∧ o5.op = .call { callee := .value (.func f), args := #[.tmp (s + 2), .tmp (s + 4)], argTypes := ts })
    (q6 : o6.dst = some (s + 6) ∧ o6.guard = none ∧ o6.op = .pick (.tmp s) (.tmp (s + 5)) (.const (.bool false)))
    (hF : ChF wa N g g' r c a w)
    (f1 : (Instr.fieldAt tm (.pointer (some ⟨g, 0, none⟩)) i).run P w = .ok (.pointer (some ⟨g, i, none⟩)) w) (l1 : (Instr.loadAt ty (.pointer (some ⟨g, i, none⟩))).run P w = .ok X w)
    (f2 : (Instr.fieldAt tm (.pointer (some ⟨g', 0, none⟩)) i).run P w = .ok (.pointer (some ⟨g', i, none⟩)) w) (l2 : (Instr.loadAt ty (.pointer (some ⟨g', i, none⟩))).run P w = .ok Y w)
    (hcf : (callFunc f #[X, Y]).run P w = .ok (.enter f #[X, Y]) w) (hc : Calls P f #[X, Y] w fun e w' => e = .returned (.bool D) ∧ Below w.heap.size w w')
    (hn : ∀ a' w', ChF wa N g g' (s + 6) (c && D) a' w' → wpList P ops Q rest a' w') : wpList P ops Q (o0 :: o1 :: o2 :: o3 :: o4 :: o5 :: o6 :: rest) a w := by
  obtain ⟨d0, g0, p0⟩ := q0
  obtain ⟨d1, g1, p1⟩ := q1
  obtain ⟨d2, g2, p2⟩ := q2
  obtain ⟨d3, g3, p3⟩ := q3
  obtain ⟨d4, g4, p4⟩ := q4
  obtain ⟨d5, g5, p5⟩ := q5
  obtain ⟨d6, g6, p6⟩ := q6
  have hsz := hF.size
  refine ch_val (ch_free g0) (ch_move p0 (ch_eval hF.r)) ?_
  rw [d0]
  have k1 := Kp.put (s := s) a (.bool c) (Nat.le_refl _)
  have v1 : (a.put (some s) (.bool c)).tmps[s]? = some (.bool c) := ch_put_eq (by omega)
  have z1 : (a.put (some s) (.bool c)).tmps.size = N := k1.size.trans hsz
  generalize a.put (some s) (.bool c) = a1 at k1 v1 z1 ⊢
  cases c with
  | false =>
    refine ch_skip (l := [o1, o2, o3, o4, o5]) (gi := gi) (s := s) ?_ hgi v1 fun a' hk => ?_
    · intro o ho
      simp only [List.mem_cons, List.not_mem_nil, or_false] at ho
      rcases ho with rfl | rfl | rfl | rfl | rfl
      · exact ⟨g1, _, d1, by omega⟩
      · exact ⟨g2, _, d2, by omega⟩
      · exact ⟨g3, _, d3, by omega⟩
      · exact ⟨g4, _, d4, by omega⟩
      · exact ⟨g5, _, d5, by omega⟩
    · refine ch_val (ch_free g6) (ch_pick p6 (ch_eval ((hk.at_ s (by omega)).trans v1))) ?_
      rw [d6]
      have k6 := Kp.put (s := s + 1) a' (if false = true then a'.eval (.tmp (s + 5)) else a'.eval (.const (.bool false))) (show s + 1 ≤ s + 6 by omega)
      exact hn _ _ (hF.next ((k1.trans hk (by omega)).trans k6 (by omega)) h3 (ch_put_eq (by rw [hk.size, z1]; exact hN)) (Below.refl _ _))
  | true =>
    have w1 : ∀ {o : Oper} {b : Act}, o.guard = some (gi, true) → Kp (s + 1) a1 b → Region.wanted o (yielded ops b.tmps) = true := fun hg hk => ch_want hg hgi ((hk.at_ s (by omega)).trans v1)
    have kk := fun (b : Act) (h : Kp (s + 1) a1 b) (d : Nat) (v : Value) (hd : s + 1 ≤ d) => h.trans (Kp.put (s := s + 1) b v hd) (Nat.le_refl _)
    have k0 : Kp (s + 1) a1 a1 := ⟨rfl, rfl, fun _ _ => rfl⟩
    refine ch_val (w1 g1 k0) (ch_field p1 (ch_eval ((k1.at_ 2 (by omega)).trans hF.p2)) f1) ?_
    rw [d1]
    have m1 := kk a1 k0 (s + 1) (.pointer (some ⟨g, i, none⟩)) (by omega)
    have u1 : (a1.put (some (s + 1)) (.pointer (some ⟨g, i, none⟩))).tmps[s + 1]? = some (.pointer (some ⟨g, i, none⟩)) := ch_put_eq (by omega)
    generalize a1.put (some (s + 1)) (.pointer (some ⟨g, i, none⟩)) = a2 at m1 u1 ⊢
    refine ch_val (w1 g2 m1) (ch_load p2 (ch_eval u1) l1) ?_
    rw [d2]
    have m2 := kk a2 m1 (s + 2) X (by omega)
    have u2 : (a2.put (some (s + 2)) X).tmps[s + 2]? = some X := ch_put_eq (by rw [m1.size]; omega)
    generalize a2.put (some (s + 2)) X = a3 at m2 u2 ⊢
    refine ch_val (w1 g3 m2) (ch_field p3 (ch_eval ((m2.at_ 3 (by omega)).trans ((k1.at_ 3 (by omega)).trans hF.p3))) f2) ?_
    rw [d3]
    have m3 := kk a3 m2 (s + 3) (.pointer (some ⟨g', i, none⟩)) (by omega)
    have u3 : (a3.put (some (s + 3)) (.pointer (some ⟨g', i, none⟩))).tmps[s + 3]? = some (.pointer (some ⟨g', i, none⟩)) := ch_put_eq (by rw [m2.size]; omega)
    have u2 : (a3.put (some (s + 3)) (.pointer (some ⟨g', i, none⟩))).tmps[s + 2]? = some X := (ch_put_ne (by omega)).trans u2
    generalize a3.put (some (s + 3)) (.pointer (some ⟨g', i, none⟩)) = a4 at m3 u3 u2 ⊢
    refine ch_val (w1 g4 m3) (ch_load p4 (ch_eval u3) l2) ?_
    rw [d4]
    have m4 := kk a4 m3 (s + 4) Y (by omega)
    have u4 : (a4.put (some (s + 4)) Y).tmps[s + 4]? = some Y := ch_put_eq (by rw [m3.size]; omega)
    have u2 : (a4.put (some (s + 4)) Y).tmps[s + 2]? = some X := (ch_put_ne (by omega)).trans u2
    generalize a4.put (some (s + 4)) Y = a5 at m4 u4 u2 ⊢
    refine ch_call (w1 g5 m4) p5 (ch_eval u2) (ch_eval u4) hcf hc fun w' hw' => ?_
    rw [d5]
    have m5 := kk a5 m4 (s + 5) (.bool D) (by omega)
    have u5 : (a5.put (some (s + 5)) (.bool D)).tmps[s + 5]? = some (.bool D) := ch_put_eq (by rw [m4.size]; omega)
    generalize a5.put (some (s + 5)) (.bool D) = a6 at m5 u5 ⊢
    refine ch_val (ch_free g6) (ch_pick p6 (ch_eval ((m5.at_ s (by omega)).trans v1))) ?_
    rw [d6, if_pos rfl, ch_eval u5]
    have k6 := Kp.put (s := s + 1) a6 (.bool D) (show s + 1 ≤ s + 6 by omega)
    refine hn _ _ (hF.next ((k1.trans m5 (by omega)).trans k6 (by omega)) h3 ?_ hw')
    rw [Bool.true_and]
    exact ch_put_eq (by rw [m5.size, z1]; exact hN)
end
end Go.Proofs.Ytneehnoolhadbaa

