/- ChainKit MesgRSame -/
import Derived.Test.YtneehnoolhadbaaGP24
import Derived.Test.YtneehnoolhadbaaGP25
import Derived.Deep.MidRow
namespace Go.Proofs.Ytneehnoolhadbaa
open Go.RowKit
set_option linter.unusedVariables false
section
variable {P : Program} {ops : Array Oper} {Q : Exit → Act → World → Prop} {a : Act} {w w' : World} {rest : List Oper} {o : Oper} {v : Value}
theorem ch_region {id : Nat} {l m n : List Oper} (hn : l.append m = n) (h : wpList P n.toArray Q n a w) : (Code.region id (l.append m).toArray false).wp P Q a w := by subst hn; exact wp_region_lit h
theorem ch_val (hw : Region.wanted o (yielded ops a.tmps) = true) (h : (execOp a.eval o).run P w = .ok (.value v) w') (hn : wpList P ops Q rest (a.put o.dst v) w') : wpList P ops Q (o :: rest) a w := by
  unfold wpList; rw [if_pos hw]; exact Or.inl (wp_of_run h hn)
theorem ch_no (hw : Region.wanted o (yielded ops a.tmps) = false) (hn : wpList P ops Q rest (a.put o.dst undef) w) : wpList P ops Q (o :: rest) a w := by
  unfold wpList; rw [if_neg (by rw [hw]; exact Bool.false_ne_true)]; exact hn
theorem ch_free (hg : o.guard = none) : Region.wanted o (yielded ops a.tmps) = true := by unfold Region.wanted; rw [hg]
theorem ch_want {j s : Nat} {c : Bool} (hg : o.guard = some (j, true)) (hd : (ops[j]?).bind (·.dst) = some s) (hs : a.tmps[s]? = some (.bool c)) : Region.wanted o (yielded ops a.tmps) = c := by
  unfold Region.wanted yielded
  rw [hg]
  simp only [hd, Option.bind_some, hs]
  cases c <;> rfl
theorem ch_put_ne {d j : Nat} (h : d ≠ j) : (a.put (some d) v).tmps[j]? = a.tmps[j]? := by
  unfold Act.put; simp [h]
theorem ch_put_eq {d : Nat} (h : d < a.tmps.size) : (a.put (some d) v).tmps[d]? = some v := by
  unfold Act.put; simp [h]
theorem ch_put_size {d : Nat} : (a.put (some d) v).tmps.size = a.tmps.size := by unfold Act.put; simp
theorem ch_put_def {d : Option Nat} : (a.put d v).defers = a.defers := by cases d <;> rfl
theorem ch_eval {t : Nat} (h : a.tmps[t]? = some v) : a.eval (.tmp t) = v := by unfold Act.eval; simp [h]
theorem ch_move {x : Operand} (ho : o.op = .move x) (hx : a.eval x = v) : (execOp a.eval o).run P w = .ok (.value v) w := by unfold execOp; rw [ho, ← hx]; rfl
theorem ch_assign {x : Operand} (ho : o.op = .assign x) (hx : a.eval x = v) : (execOp a.eval o).run P w = .ok (.value v) w := by unfold execOp; rw [ho, ← hx]; rfl
theorem ch_pick {c x y : Operand} {b : Bool} (ho : o.op = .pick c x y) (hc : a.eval c = .bool b) : (execOp a.eval o).run P w = .ok (.value (if b then a.eval x else a.eval y)) w := by unfold execOp; rw [ho]; simp only [hc]; cases b <;> rfl
theorem ch_field {ty : TypeId} {x : Operand} {i : Nat} {p : Value} (ho : o.op = .fieldAddr ty x i) (hx : a.eval x = p) (hf : (Instr.fieldAt ty p i).run P w = .ok v w) : (execOp a.eval o).run P w = .ok (.value v) w := by
  unfold execOp; simp only [ho, hx, Sem.run_bind, hf, Result.andThen_ok, Sem.run_pure]
theorem ch_load {ty : TypeId} {x : Operand} {p : Value} (ho : o.op = .load ty x) (hx : a.eval x = p) (hf : (Instr.loadAt ty p).run P w = .ok v w) : (execOp a.eval o).run P w = .ok (.value v) w := by
  unfold execOp; simp only [ho, hx, Sem.run_bind, hf, Result.andThen_ok, Sem.run_pure]
theorem ch_conv {s d : TypeId} {x : Operand} {p : Value} (ho : o.op = .convert s d x) (hx : a.eval x = p) (hf : (convert s d p).run P w = .ok v w) : (execOp a.eval o).run P w = .ok (.value v) w := by
  unfold execOp; simp only [ho, hx, Sem.run_bind, hf, Result.andThen_ok, Sem.run_pure]
theorem ch_bin {op : BinOp} {ty ty' : TypeId} {x y : Operand} {p q : Value} (ho : o.op = .binOp op ty x y ty') (hx : a.eval x = p) (hy : a.eval y = q) (hf : (eqGuard op ty x y p q).run P w = .ok () w) (hb : (binOp op ty p q).run P w = .ok v w) : (execOp a.eval o).run P w = .ok (.value v) w := by
  unfold execOp; simp only [ho, hx, hy, Sem.run_bind, hf, hb, Result.andThen_ok, Sem.run_pure]
end
section
variable {w : World} {g i : Nat}
theorem ch_ldI {z : Int} (h : w.cell? ⟨g, i, none⟩ = some (.int .i64 z)) : (Instr.loadAt 3 (.pointer (some ⟨g, i, none⟩))).run Try.prog w = .ok (.int .i64 z) w := by
  simp [go_sem, h]
theorem ch_ldB {z : Bool} (h : w.cell? ⟨g, i, none⟩ = some (.bool z)) : (Instr.loadAt 4 (.pointer (some ⟨g, i, none⟩))).run Try.prog w = .ok (.bool z) w := by
  simp [go_sem, h]
theorem ch_gI {x y : Operand} {p q : Int} : (eqGuard .eql 3 x y (.int .i64 p) (.int .i64 q)).run Try.prog w = .ok () w := by kernel_rfl
theorem ch_eI {p q : Int} : (binOp .eql 3 (.int .i64 p) (.int .i64 q)).run Try.prog w = .ok (.bool (p == q)) w := by kernel_rfl
theorem ch_eB {p q : Bool} : (binOp .eql 4 (.bool p) (.bool q)).run Try.prog w = .ok (.bool (p == q)) w := by kernel_rfl
end

/-- what lies below slot s is kept -/
structure Kp (s : Nat) (a a' : Act) : Prop where
  size : a'.tmps.size = a.tmps.size
  d : a'.defers = a.defers
  at_ : ∀ j, j < s → a'.tmps[j]? = a.tmps[j]?
theorem Kp.put {s d : Nat} (a : Act) (v : Value) (h : s ≤ d) : Kp s a (a.put (some d) v) := ⟨ch_put_size, ch_put_def, fun j hj => ch_put_ne (by omega)⟩
theorem Kp.trans {s s' : Nat} {a b c : Act} (h : Kp s a b) (h' : Kp s' b c) (hs : s ≤ s') : Kp s a c := ⟨h'.size.trans h.size, h'.d.trans h.d, fun j hj => (h'.at_ j (by omega)).trans (h.at_ j hj)⟩
/-- a frame in the middle of such a region: two variables in slots 2 and 3, and in slot r whether all was alike so far -/
structure ChF (wa : World) (N g g' r : Nat) (c : Bool) (a : Act) (w : World) : Prop where
  size : a.tmps.size = N
  d : a.defers = []
  p2 : a.tmps[2]? = some (.pointer (some ⟨g, 0, none⟩))
  p3 : a.tmps[3]? = some (.pointer (some ⟨g', 0, none⟩))
  r : a.tmps[r]? = some (.bool c)
  b : Below wa.heap.size wa w
theorem ChF.next {wa w w' : World} {N g g' r s : Nat} {c c' : Bool} {a a' : Act} (h : ChF wa N g g' r c a w) (hk : Kp s a a') (hs : 3 < s) {t : Nat} (ht : a'.tmps[t]? = some (.bool c')) (hb : Below w.heap.size w w') : ChF wa N g g' t c' a' w' :=
  ⟨hk.size.trans h.size, hk.d.trans h.d, (hk.at_ 2 (by omega)).trans h.p2, (hk.at_ 3 (by omega)).trans h.p3, ht, h.b.trans (hb.mono h.b.size)⟩
section
variable {P : Program} {ops : Array Oper} {Q : Exit → Act → World → Prop} {a : Act} {w wa : World} {rest : List Oper} {N g g' r s gi i : Nat} {c D : Bool} {X Y : Value} {tm ty : TypeId}
/-- the five or more operations under the guard: not wanted -/
theorem ch_skip {l : List Oper} (hl : ∀ o ∈ l, o.guard = some (gi, true) ∧ ∃ d, o.dst = some d ∧ s < d) (hgi : (ops[gi]?).bind (·.dst) = some s) (hs : a.tmps[s]? = some (.bool false))
    (hn : ∀ a', Kp (s + 1) a a' → wpList P ops Q rest a' w) : wpList P ops Q (l ++ rest) a w := by
  induction l generalizing a with
  | nil => exact hn a ⟨rfl, rfl, fun _ _ => rfl⟩
  | cons o l ih =>
    obtain ⟨hg, d, hd, hlt⟩ := hl o (by simp)
    refine ch_no (ch_want hg hgi hs) ?_
    rw [hd]
    have k := Kp.put (s := s + 1) a undef (show s + 1 ≤ d by omega)
    exact ih (fun o ho => hl o (by simp [ho])) ((k.at_ s (by omega)).trans hs) fun a' h => hn a' (k.trans h (Nat.le_refl _))
/-- one field, loaded from both and compared -/
theorem ch_group {o0 o1 o2 o3 o4 o5 o6 : Oper} (hN : s + 6 < N) (h3 : 3 < s) (hr : r < s) (hgi : (ops[gi]?).bind (·.dst) = some s)
    (q0 : o0.dst = some s ∧ o0.guard = none ∧ o0.op = .move (.tmp r)) (q1 : o1.dst = some (s + 1) ∧ o1.guard = some (gi, true) ∧ o1.op = .fieldAddr tm (.tmp 2) i)
    (q2 : o2.dst = some (s + 2) ∧ o2.guard = some (gi, true) ∧ o2.op = .load ty (.tmp (s + 1))) (q3 : o3.dst = some (s + 3) ∧ o3.guard = some (gi, true) ∧ o3.op = .fieldAddr tm (.tmp 3) i)
    (q4 : o4.dst = some (s + 4) ∧ o4.guard = some (gi, true) ∧ o4.op = .load ty (.tmp (s + 3))) (q5 : o5.dst = some (s + 5) ∧ o5.guard = some (gi, true) ∧ o5.op = .binOp .eql ty (.tmp (s + 2)) (.tmp (s + 4)) ty)
    (q6 : o6.dst = some (s + 6) ∧ o6.guard = none ∧ o6.op = .pick (.tmp s) (.tmp (s + 5)) (.const (.bool false)))
    (hF : ChF wa N g g' r c a w)
    (f1 : (Instr.fieldAt tm (.pointer (some ⟨g, 0, none⟩)) i).run P w = .ok (.pointer (some ⟨g, i, none⟩)) w) (l1 : (Instr.loadAt ty (.pointer (some ⟨g, i, none⟩))).run P w = .ok X w)
    (f2 : (Instr.fieldAt tm (.pointer (some ⟨g', 0, none⟩)) i).run P w = .ok (.pointer (some ⟨g', i, none⟩)) w) (l2 : (Instr.loadAt ty (.pointer (some ⟨g', i, none⟩))).run P w = .ok Y w)
    (e1 : (eqGuard .eql ty (.tmp (s + 2)) (.tmp (s + 4)) X Y).run P w = .ok () w) (e2 : (binOp .eql ty X Y).run P w = .ok (.bool D) w)
    (hn : ∀ a', ChF wa N g g' (s + 6) (c && D) a' w → wpList P ops Q rest a' w) : wpList P ops Q (o0 :: o1 :: o2 :: o3 :: o4 :: o5 :: o6 :: rest) a w := by
  obtain ⟨d0, g0, p0⟩ := q0
  obtain ⟨d1, g1, p1⟩ := q1
  obtain ⟨d2, g2, p2⟩ := q2
  obtain ⟨d3, g3, p3⟩ := q3
  obtain ⟨d4, g4, p4⟩ := q4
  obtain ⟨d5, g5, p5⟩ := q5
  obtain ⟨d6, g6, p6⟩ := q6
  have hsz := hF.size
  refine ch_val (ch_free g0) (ch_move p0 (ch_eval hF.r)) ?_
  rw [d0]
  have k1 := Kp.put (s := s) a (.bool c) (Nat.le_refl _)
  have v1 : (a.put (some s) (.bool c)).tmps[s]? = some (.bool c) := ch_put_eq (by omega)
  have z1 : (a.put (some s) (.bool c)).tmps.size = N := k1.size.trans hsz
  generalize a.put (some s) (.bool c) = a1 at k1 v1 z1 ⊢
  cases c with
  | false =>
    refine ch_skip (l := [o1, o2, o3, o4, o5]) (gi := gi) (s := s) ?_ hgi v1 fun a' hk => ?_
    · intro o ho
      simp only [List.mem_cons, List.not_mem_nil, or_false] at ho
      rcases ho with rfl | rfl | rfl | rfl | rfl
      · exact ⟨g1, _, d1, by omega⟩
      · exact ⟨g2, _, d2, by omega⟩
      · exact ⟨g3, _, d3, by omega⟩
      · exact ⟨g4, _, d4, by omega⟩
      · exact ⟨g5, _, d5, by omega⟩
    · refine ch_val (ch_free g6) (ch_pick p6 (ch_eval ((hk.at_ s (by omega)).trans v1))) ?_
      rw [d6]
      have k6 := Kp.put (s := s + 1) a' (if false = true then a'.eval (.tmp (s + 5)) else a'.eval (.const (.bool false))) (show s + 1 ≤ s + 6 by omega)
      exact hn _ (hF.next ((k1.trans hk (by omega)).trans k6 (by omega)) h3 (ch_put_eq (by rw [hk.size, z1]; exact hN)) (Below.refl _ _))
  | true =>
    have w1 : ∀ {o : Oper} {b : Act}, o.guard = some (gi, true) → Kp (s + 1) a1 b → Region.wanted o (yielded ops b.tmps) = true := fun hg hk => ch_want hg hgi ((hk.at_ s (by omega)).trans v1)
    have kk := fun (b : Act) (h : Kp (s + 1) a1 b) (d : Nat) (v : Value) (hd : s + 1 ≤ d) => h.trans (Kp.put (s := s + 1) b v hd) (Nat.le_refl _)
    have k0 : Kp (s + 1) a1 a1 := ⟨rfl, rfl, fun _ _ => rfl⟩
    refine ch_val (w1 g1 k0) (ch_field p1 (ch_eval ((k1.at_ 2 (by omega)).trans hF.p2)) f1) ?_
    rw [d1]
    have m1 := kk a1 k0 (s + 1) (.pointer (some ⟨g, i, none⟩)) (by omega)
    have u1 : (a1.put (some (s + 1)) (.pointer (some ⟨g, i, none⟩))).tmps[s + 1]? = some (.pointer (some ⟨g, i, none⟩)) := ch_put_eq (by omega)
    generalize a1.put (some (s + 1)) (.pointer (some ⟨g, i, none⟩)) = a2 at m1 u1 ⊢
    refine ch_val (w1 g2 m1) (ch_load p2 (ch_eval u1) l1) ?_
    rw [d2]
    have m2 := kk a2 m1 (s + 2) X (by omega)
    have u2 : (a2.put (some (s + 2)) X).tmps[s + 2]? = some X := ch_put_eq (by rw [m1.size]; omega)
    generalize a2.put (some (s + 2)) X = a3 at m2 u2 ⊢
    refine ch_val (w1 g3 m2) (ch_field p3 (ch_eval ((m2.at_ 3 (by omega)).trans ((k1.at_ 3 (by omega)).trans hF.p3))) f2) ?_
    rw [d3]
    have m3 := kk a3 m2 (s + 3) (.pointer (some ⟨g', i, none⟩)) (by omega)
    have u3 : (a3.put (some (s + 3)) (.pointer (some ⟨g', i, none⟩))).tmps[s + 3]? = some (.pointer (some ⟨g', i, none⟩)) := ch_put_eq (by rw [m2.size]; omega)
    have u2 : (a3.put (some (s + 3)) (.pointer (some ⟨g', i, none⟩))).tmps[s + 2]? = some X := (ch_put_ne (by omega)).trans u2
    generalize a3.put (some (s + 3)) (.pointer (some ⟨g', i, none⟩)) = a4 at m3 u3 u2 ⊢
    refine ch_val (w1 g4 m3) (ch_load p4 (ch_eval u3) l2) ?_
    rw [d4]
    have m4 := kk a4 m3 (s + 4) Y (by omega)
    have u4 : (a4.put (some (s + 4)) Y).tmps[s + 4]? = some Y := ch_put_eq (by rw [m3.size]; omega)
    have u2 : (a4.put (some (s + 4)) Y).tmps[s + 2]? = some X := (ch_put_ne (by omega)).trans u2
    generalize a4.put (some (s + 4)) Y = a5 at m4 u4 u2 ⊢
    refine ch_val (w1 g5 m4) (ch_bin p5 (ch_eval u2) (ch_eval u4) e1 e2) ?_
    rw [d5]
    have m5 := kk a5 m4 (s + 5) (.bool D) (by omega)
    have u5 : (a5.put (some (s + 5)) (.bool D)).tmps[s + 5]? = some (.bool D) := ch_put_eq (by rw [m4.size]; omega)
    generalize a5.put (some (s + 5)) (.bool D) = a6 at m5 u5 ⊢
    refine ch_val (ch_free g6) (ch_pick p6 (ch_eval ((m5.at_ s (by omega)).trans v1))) ?_
    rw [d6, if_pos rfl, ch_eval u5]
    have k6 := Kp.put (s := s + 1) a6 (.bool D) (show s + 1 ≤ s + 6 by omega)
    refine hn _ (hF.next ((k1.trans m5 (by omega)).trans k6 (by omega)) h3 ?_ (Below.refl _ _))
    rw [Bool.true_and]
    exact ch_put_eq (by rw [m5.size, z1]; exact hN)

theorem ch_call {o : Oper} {f : FuncId} {x y : Operand} {ts : Array TypeId} {R : World → Prop} {V : Value} (hw : Region.wanted o (yielded ops a.tmps) = true) (ho : o.op = .call { callee := .value (.func f), args := #[x, y], argTypes := ts })
    (hx : a.eval x = X) (hy : a.eval y = Y) (hcf : (callFunc f #[X, Y]).run P w = .ok (.enter f #[X, Y]) w) (hc : Calls P f #[X, Y] w fun e w' => e = .returned V ∧ R w') (hn : ∀ w', R w' → wpList P ops Q rest (a.put o.dst V) w') : wpList P ops Q (o :: rest) a w := by
  unfold wpList
  rw [if_pos hw]
  refine Or.inl ?_
  have hf : a.eval (.func f) = .func (.func f) #[] #[] := rfl
  have e : (execOp a.eval o).run P w = .ok (.enter f #[X, Y]) w := by
    unfold execOp
    simp only [ho, resolve, Deferred.ofValue, invoke, Sem.run_bind, Sem.run_pure, Result.andThen_ok, List.map_toArray, List.map_cons, List.map_nil, hx, hy, hf]
    exact hcf
  unfold Oper.wp
  rw [e]
  refine hc.mono ?_
  rintro e w' ⟨rfl, hR⟩
  exact hn w' hR
/-- the first field of all: no guard -/
theorem ch_first {o1 o2 o3 o4 o5 : Oper} (hN : s + 4 < N) (h3 : 3 < s)
    (q1 : o1.dst = some s ∧ o1.guard = none ∧ o1.op = .fieldAddr tm (.tmp 2) i)
    (q2 : o2.dst = some (s + 1) ∧ o2.guard = none ∧ o2.op = .load ty (.tmp s)) (q3 : o3.dst = some (s + 2) ∧ o3.guard = none ∧ o3.op = .fieldAddr tm (.tmp 3) i)
    (q4 : o4.dst = some (s + 3) ∧ o4.guard = none ∧ o4.op = .load ty (.tmp (s + 2))) (q5 : o5.dst = some (s + 4) ∧ o5.guard = none ∧ o5.op = .binOp .eql ty (.tmp (s + 1)) (.tmp (s + 3)) ty)
    (hsz : a.tmps.size = N) (hd : a.defers = []) (hp2 : a.tmps[2]? = some (.pointer (some ⟨g, 0, none⟩))) (hp3 : a.tmps[3]? = some (.pointer (some ⟨g', 0, none⟩))) (hb : Below wa.heap.size wa w)
    (f1 : (Instr.fieldAt tm (.pointer (some ⟨g, 0, none⟩)) i).run P w = .ok (.pointer (some ⟨g, i, none⟩)) w) (l1 : (Instr.loadAt ty (.pointer (some ⟨g, i, none⟩))).run P w = .ok X w)
    (f2 : (Instr.fieldAt tm (.pointer (some ⟨g', 0, none⟩)) i).run P w = .ok (.pointer (some ⟨g', i, none⟩)) w) (l2 : (Instr.loadAt ty (.pointer (some ⟨g', i, none⟩))).run P w = .ok Y w)
    (e1 : (eqGuard .eql ty (.tmp (s + 1)) (.tmp (s + 3)) X Y).run P w = .ok () w) (e2 : (binOp .eql ty X Y).run P w = .ok (.bool D) w)
    (hn : ∀ a', ChF wa N g g' (s + 4) D a' w → wpList P ops Q rest a' w) : wpList P ops Q (o1 :: o2 :: o3 :: o4 :: o5 :: rest) a w := by
  obtain ⟨d1, g1, p1⟩ := q1
  obtain ⟨d2, g2, p2⟩ := q2
  obtain ⟨d3, g3, p3⟩ := q3
  obtain ⟨d4, g4, p4⟩ := q4
  obtain ⟨d5, g5, p5⟩ := q5
  have kk := fun (b : Act) (h : Kp s a b) (d : Nat) (v : Value) (hd : s ≤ d) => h.trans (Kp.put (s := s) b v hd) (Nat.le_refl _)
  have k0 : Kp s a a := ⟨rfl, rfl, fun _ _ => rfl⟩
  refine ch_val (ch_free g1) (ch_field p1 (ch_eval hp2) f1) ?_
  rw [d1]
  have m1 := kk a k0 s (.pointer (some ⟨g, i, none⟩)) (by omega)
  have u1 : (a.put (some s) (.pointer (some ⟨g, i, none⟩))).tmps[s]? = some (.pointer (some ⟨g, i, none⟩)) := ch_put_eq (by omega)
  generalize a.put (some s) (.pointer (some ⟨g, i, none⟩)) = a2 at m1 u1 ⊢
  refine ch_val (ch_free g2) (ch_load p2 (ch_eval u1) l1) ?_
  rw [d2]
  have m2 := kk a2 m1 (s + 1) X (by omega)
  have u2 : (a2.put (some (s + 1)) X).tmps[s + 1]? = some X := ch_put_eq (by rw [m1.size]; omega)
  generalize a2.put (some (s + 1)) X = a3 at m2 u2 ⊢
  refine ch_val (ch_free g3) (ch_field p3 (ch_eval ((m2.at_ 3 (by omega)).trans hp3)) f2) ?_
  rw [d3]
  have m3 := kk a3 m2 (s + 2) (.pointer (some ⟨g', i, none⟩)) (by omega)
  have u3 : (a3.put (some (s + 2)) (.pointer (some ⟨g', i, none⟩))).tmps[s + 2]? = some (.pointer (some ⟨g', i, none⟩)) := ch_put_eq (by rw [m2.size]; omega)
  have u2 : (a3.put (some (s + 2)) (.pointer (some ⟨g', i, none⟩))).tmps[s + 1]? = some X := (ch_put_ne (by omega)).trans u2
  generalize a3.put (some (s + 2)) (.pointer (some ⟨g', i, none⟩)) = a4 at m3 u3 u2 ⊢
  refine ch_val (ch_free g4) (ch_load p4 (ch_eval u3) l2) ?_
  rw [d4]
  have m4 := kk a4 m3 (s + 3) Y (by omega)
  have u4 : (a4.put (some (s + 3)) Y).tmps[s + 3]? = some Y := ch_put_eq (by rw [m3.size]; omega)
  have u2 : (a4.put (some (s + 3)) Y).tmps[s + 1]? = some X := (ch_put_ne (by omega)).trans u2
  generalize a4.put (some (s + 3)) Y = a5 at m4 u4 u2 ⊢
  refine ch_val (ch_free g5) (ch_bin p5 (ch_eval u2) (ch_eval u4) e1 e2) ?_
  rw [d5]
  have m5 := kk a5 m4 (s + 4) (.bool D) (by omega)
  exact hn _ ⟨m5.size.trans hsz, m5.d.trans hd, (m5.at_ 2 (by omega)).trans hp2, (m5.at_ 3 (by omega)).trans hp3, ch_put_eq (by rw [m4.size]; omega), hb⟩
/-- one field, loaded from both, turned into strings, and compared -/
theorem ch_groupS {o0 o1 o2 o2c o3 o4 o4c o5 o6 : Oper} {tg : TypeId} {X' Y' : Value} (hN : s + 8 < N) (h3 : 3 < s) (hr : r < s) (hgi : (ops[gi]?).bind (·.dst) = some s)
    (q0 : o0.dst = some s ∧ o0.guard = none ∧ o0.op = .move (.tmp r)) (q1 : o1.dst = some (s + 1) ∧ o1.guard = some (gi, true) ∧ o1.op = .fieldAddr tm (.tmp 2) i)
    (q2 : o2.dst = some (s + 2) ∧ o2.guard = some (gi, true) ∧ o2.op = .load ty (.tmp (s + 1))) (q2c : o2c.dst = some (s + 3) ∧ o2c.guard = some (gi, true) ∧ o2c.op = .convert ty tg (.tmp (s + 2)))
    (q3 : o3.dst = some (s + 4) ∧ o3.guard = some (gi, true) ∧ o3.op = .fieldAddr tm (.tmp 3) i)
    (q4 : o4.dst = some (s + 5) ∧ o4.guard = some (gi, true) ∧ o4.op = .load ty (.tmp (s + 4))) (q4c : o4c.dst = some (s + 6) ∧ o4c.guard = some (gi, true) ∧ o4c.op = .convert ty tg (.tmp (s + 5)))
    (q5 : o5.dst = some (s + 7) ∧ o5.guard = some (gi, true) ∧ o5.op = .binOp .eql tg (.tmp (s + 3)) (.tmp (s + 6)) tg)
    (q6 : o6.dst = some (s + 8) ∧ o6.guard = none ∧ o6.op = .pick (.tmp s) (.tmp (s + 7)) (.const (.bool false)))
    (hF : ChF wa N g g' r c a w)
    (f1 : (Instr.fieldAt tm (.pointer (some ⟨g, 0, none⟩)) i).run P w = .ok (.pointer (some ⟨g, i, none⟩)) w) (l1 : (Instr.loadAt ty (.pointer (some ⟨g, i, none⟩))).run P w = .ok X w) (c1 : (convert ty tg X).run P w = .ok X' w)
    (f2 : (Instr.fieldAt tm (.pointer (some ⟨g', 0, none⟩)) i).run P w = .ok (.pointer (some ⟨g', i, none⟩)) w) (l2 : (Instr.loadAt ty (.pointer (some ⟨g', i, none⟩))).run P w = .ok Y w) (c2 : (convert ty tg Y).run P w = .ok Y' w)
    (e1 : (eqGuard .eql tg (.tmp (s + 3)) (.tmp (s + 6)) X' Y').run P w = .ok () w) (e2 : (binOp .eql tg X' Y').run P w = .ok (.bool D) w)
    (hn : ∀ a', ChF wa N g g' (s + 8) (c && D) a' w → wpList P ops Q rest a' w) : wpList P ops Q (o0 :: o1 :: o2 :: o2c :: o3 :: o4 :: o4c :: o5 :: o6 :: rest) a w := by
  obtain ⟨d0, g0, p0⟩ := q0
  obtain ⟨d1, g1, p1⟩ := q1
  obtain ⟨d2, g2, p2⟩ := q2
  obtain ⟨d2c, g2c, p2c⟩ := q2c
  obtain ⟨d3, g3, p3⟩ := q3
  obtain ⟨d4, g4, p4⟩ := q4
  obtain ⟨d4c, g4c, p4c⟩ := q4c
  obtain ⟨d5, g5, p5⟩ := q5
  obtain ⟨d6, g6, p6⟩ := q6
  have hsz := hF.size
  refine ch_val (ch_free g0) (ch_move p0 (ch_eval hF.r)) ?_
  rw [d0]
  have k1 := Kp.put (s := s) a (.bool c) (Nat.le_refl _)
  have v1 : (a.put (some s) (.bool c)).tmps[s]? = some (.bool c) := ch_put_eq (by omega)
  have z1 : (a.put (some s) (.bool c)).tmps.size = N := k1.size.trans hsz
  generalize a.put (some s) (.bool c) = a1 at k1 v1 z1 ⊢
  cases c with
  | false =>
    refine ch_skip (l := [o1, o2, o2c, o3, o4, o4c, o5]) (gi := gi) (s := s) ?_ hgi v1 fun a' hk => ?_
    · intro o ho
      simp only [List.mem_cons, List.not_mem_nil, or_false] at ho
      rcases ho with rfl | rfl | rfl | rfl | rfl | rfl | rfl
      · exact ⟨g1, _, d1, by omega⟩
      · exact ⟨g2, _, d2, by omega⟩
      · exact ⟨g2c, _, d2c, by omega⟩
      · exact ⟨g3, _, d3, by omega⟩
      · exact ⟨g4, _, d4, by omega⟩
      · exact ⟨g4c, _, d4c, by omega⟩
      · exact ⟨g5, _, d5, by omega⟩
    · refine ch_val (ch_free g6) (ch_pick p6 (ch_eval ((hk.at_ s (by omega)).trans v1))) ?_
      rw [d6]
      have k6 := Kp.put (s := s + 1) a' (if false = true then a'.eval (.tmp (s + 7)) else a'.eval (.const (.bool false))) (show s + 1 ≤ s + 8 by omega)
      exact hn _ (hF.next ((k1.trans hk (by omega)).trans k6 (by omega)) h3 (ch_put_eq (by rw [hk.size, z1]; exact hN)) (Below.refl _ _))
  | true =>
    have w1 : ∀ {o : Oper} {b : Act}, o.guard = some (gi, true) → Kp (s + 1) a1 b → Region.wanted o (yielded ops b.tmps) = true := fun hg hk => ch_want hg hgi ((hk.at_ s (by omega)).trans v1)
    have kk := fun (b : Act) (h : Kp (s + 1) a1 b) (d : Nat) (v : Value) (hd : s + 1 ≤ d) => h.trans (Kp.put (s := s + 1) b v hd) (Nat.le_refl _)
    have k0 : Kp (s + 1) a1 a1 := ⟨rfl, rfl, fun _ _ => rfl⟩
    refine ch_val (w1 g1 k0) (ch_field p1 (ch_eval ((k1.at_ 2 (by omega)).trans hF.p2)) f1) ?_
    rw [d1]
    have m1 := kk a1 k0 (s + 1) (.pointer (some ⟨g, i, none⟩)) (by omega)
    have u1 : (a1.put (some (s + 1)) (.pointer (some ⟨g, i, none⟩))).tmps[s + 1]? = some (.pointer (some ⟨g, i, none⟩)) := ch_put_eq (by omega)
    generalize a1.put (some (s + 1)) (.pointer (some ⟨g, i, none⟩)) = a2 at m1 u1 ⊢
    refine ch_val (w1 g2 m1) (ch_load p2 (ch_eval u1) l1) ?_
    rw [d2]
    have m2 := kk a2 m1 (s + 2) X (by omega)
    have u2 : (a2.put (some (s + 2)) X).tmps[s + 2]? = some X := ch_put_eq (by rw [m1.size]; omega)
    generalize a2.put (some (s + 2)) X = a3 at m2 u2 ⊢
    refine ch_val (w1 g2c m2) (ch_conv p2c (ch_eval u2) c1) ?_
    rw [d2c]
    have m3 := kk a3 m2 (s + 3) X' (by omega)
    have v3 : (a3.put (some (s + 3)) X').tmps[s + 3]? = some X' := ch_put_eq (by rw [m2.size]; omega)
    generalize a3.put (some (s + 3)) X' = a4 at m3 v3 ⊢
    refine ch_val (w1 g3 m3) (ch_field p3 (ch_eval ((m3.at_ 3 (by omega)).trans ((k1.at_ 3 (by omega)).trans hF.p3))) f2) ?_
    rw [d3]
    have m4 := kk a4 m3 (s + 4) (.pointer (some ⟨g', i, none⟩)) (by omega)
    have u4 : (a4.put (some (s + 4)) (.pointer (some ⟨g', i, none⟩))).tmps[s + 4]? = some (.pointer (some ⟨g', i, none⟩)) := ch_put_eq (by rw [m3.size]; omega)
    have v3 : (a4.put (some (s + 4)) (.pointer (some ⟨g', i, none⟩))).tmps[s + 3]? = some X' := (ch_put_ne (by omega)).trans v3
    generalize a4.put (some (s + 4)) (.pointer (some ⟨g', i, none⟩)) = a5 at m4 u4 v3 ⊢
    refine ch_val (w1 g4 m4) (ch_load p4 (ch_eval u4) l2) ?_
    rw [d4]
    have m5 := kk a5 m4 (s + 5) Y (by omega)
    have u5 : (a5.put (some (s + 5)) Y).tmps[s + 5]? = some Y := ch_put_eq (by rw [m4.size]; omega)
    have v3 : (a5.put (some (s + 5)) Y).tmps[s + 3]? = some X' := (ch_put_ne (by omega)).trans v3
    generalize a5.put (some (s + 5)) Y = a6 at m5 u5 v3 ⊢
    refine ch_val (w1 g4c m5) (ch_conv p4c (ch_eval u5) c2) ?_
    rw [d4c]
    have m6 := kk a6 m5 (s + 6) Y' (by omega)
    have u6 : (a6.put (some (s + 6)) Y').tmps[s + 6]? = some Y' := ch_put_eq (by rw [m5.size]; omega)
    have v3 : (a6.put (some (s + 6)) Y').tmps[s + 3]? = some X' := (ch_put_ne (by omega)).trans v3
    generalize a6.put (some (s + 6)) Y' = a7 at m6 u6 v3 ⊢
    refine ch_val (w1 g5 m6) (ch_bin p5 (ch_eval v3) (ch_eval u6) e1 e2) ?_
    rw [d5]
    have m7 := kk a7 m6 (s + 7) (.bool D) (by omega)
    have u7 : (a7.put (some (s + 7)) (.bool D)).tmps[s + 7]? = some (.bool D) := ch_put_eq (by rw [m6.size]; omega)
    generalize a7.put (some (s + 7)) (.bool D) = a8 at m7 u7 ⊢
    refine ch_val (ch_free g6) (ch_pick p6 (ch_eval ((m7.at_ s (by omega)).trans v1))) ?_
    rw [d6, if_pos rfl, ch_eval u7]
    have k6 := Kp.put (s := s + 1) a8 (.bool D) (show s + 1 ≤ s + 8 by omega)
    refine hn _ (hF.next ((k1.trans m7 (by omega)).trans k6 (by omega)) h3 ?_ (Below.refl _ _))
    rw [Bool.true_and]
    exact ch_put_eq (by rw [m7.size, z1]; exact hN)
/-- one field, loaded from both and compared by a call -/
theorem ch_groupC {o0 o1 o2 o3 o4 o5 o6 : Oper} {f : FuncId} {ts : Array TypeId} (hN : s + 6 < N) (h3 : 3 < s) (hr : r < s) (hgi : (ops[gi]?).bind (·.dst) = some s)
    (q0 : o0.dst = some s ∧ o0.guard = none ∧ o0.op = .move (.tmp r)) (q1 : o1.dst = some (s + 1) ∧ o1.guard = some (gi, true) ∧ o1.op = .fieldAddr tm (.tmp 2) i)
    (q2 : o2.dst = some (s + 2) ∧ o2.guard = some (gi, true) ∧ o2.op = .load ty (.tmp (s + 1))) (q3 : o3.dst = some (s + 3) ∧ o3.guard = some (gi, true) ∧ o3.op = .fieldAddr tm (.tmp 3) i)
    (q4 : o4.dst = some (s + 4) ∧ o4.guard = some (gi, true) ∧ o4.op = .load ty (.tmp (s + 3))) (q5 : o5.dst = some (s + 5) ∧ o5.guard = some (gi, true) ∧ o5.op = .call { callee := .value (.func f), args := #[.tmp (s + 2), .tmp (s + 4)], argTypes := ts })
    (q6 : o6.dst = some (s + 6) ∧ o6.guard = none ∧ o6.op = .pick (.tmp s) (.tmp (s + 5)) (.const (.bool false)))
    (hF : ChF wa N g g' r c a w)
    (f1 : (Instr.fieldAt tm (.pointer (some ⟨g, 0, none⟩)) i).run P w = .ok (.pointer (some ⟨g, i, none⟩)) w) (l1 : (Instr.loadAt ty (.pointer (some ⟨g, i, none⟩))).run P w = .ok X w)
    (f2 : (Instr.fieldAt tm (.pointer (some ⟨g', 0, none⟩)) i).run P w = .ok (.pointer (some ⟨g', i, none⟩)) w) (l2 : (Instr.loadAt ty (.pointer (some ⟨g', i, none⟩))).run P w = .ok Y w)
    (hcf : (callFunc f #[X, Y]).run P w = .ok (.enter f #[X, Y]) w) (hc : Calls P f #[X, Y] w fun e w' => e = .returned (.bool D) ∧ Below w.heap.size w w')
    (hn : ∀ a' w', ChF wa N g g' (s + 6) (c && D) a' w' → wpList P ops Q rest a' w') : wpList P ops Q (o0 :: o1 :: o2 :: o3 :: o4 :: o5 :: o6 :: rest) a w := by
  obtain ⟨d0, g0, p0⟩ := q0
  obtain ⟨d1, g1, p1⟩ := q1
  obtain ⟨d2, g2, p2⟩ := q2
  obtain ⟨d3, g3, p3⟩ := q3
  obtain ⟨d4, g4, p4⟩ := q4
  obtain ⟨d5, g5, p5⟩ := q5
  obtain ⟨d6, g6, p6⟩ := q6
  have hsz := hF.size
  refine ch_val (ch_free g0) (ch_move p0 (ch_eval hF.r)) ?_
  rw [d0]
  have k1 := Kp.put (s := s) a (.bool c) (Nat.le_refl _)
  have v1 : (a.put (some s) (.bool c)).tmps[s]? = some (.bool c) := ch_put_eq (by omega)
  have z1 : (a.put (some s) (.bool c)).tmps.size = N := k1.size.trans hsz
  generalize a.put (some s) (.bool c) = a1 at k1 v1 z1 ⊢
  cases c with
  | false =>
    refine ch_skip (l := [o1, o2, o3, o4, o5]) (gi := gi) (s := s) ?_ hgi v1 fun a' hk => ?_
    · intro o ho
      simp only [List.mem_cons, List.not_mem_nil, or_false] at ho
      rcases ho with rfl | rfl | rfl | rfl | rfl
      · exact ⟨g1, _, d1, by omega⟩
      · exact ⟨g2, _, d2, by omega⟩
      · exact ⟨g3, _, d3, by omega⟩
      · exact ⟨g4, _, d4, by omega⟩
      · exact ⟨g5, _, d5, by omega⟩
    · refine ch_val (ch_free g6) (ch_pick p6 (ch_eval ((hk.at_ s (by omega)).trans v1))) ?_
      rw [d6]
      have k6 := Kp.put (s := s + 1) a' (if false = true then a'.eval (.tmp (s + 5)) else a'.eval (.const (.bool false))) (show s + 1 ≤ s + 6 by omega)
      exact hn _ _ (hF.next ((k1.trans hk (by omega)).trans k6 (by omega)) h3 (ch_put_eq (by rw [hk.size, z1]; exact hN)) (Below.refl _ _))
  | true =>
    have w1 : ∀ {o : Oper} {b : Act}, o.guard = some (gi, true) → Kp (s + 1) a1 b → Region.wanted o (yielded ops b.tmps) = true := fun hg hk => ch_want hg hgi ((hk.at_ s (by omega)).trans v1)
    have kk := fun (b : Act) (h : Kp (s + 1) a1 b) (d : Nat) (v : Value) (hd : s + 1 ≤ d) => h.trans (Kp.put (s := s + 1) b v hd) (Nat.le_refl _)
    have k0 : Kp (s + 1) a1 a1 := ⟨rfl, rfl, fun _ _ => rfl⟩
    refine ch_val (w1 g1 k0) (ch_field p1 (ch_eval ((k1.at_ 2 (by omega)).trans hF.p2)) f1) ?_
    rw [d1]
    have m1 := kk a1 k0 (s + 1) (.pointer (some ⟨g, i, none⟩)) (by omega)
    have u1 : (a1.put (some (s + 1)) (.pointer (some ⟨g, i, none⟩))).tmps[s + 1]? = some (.pointer (some ⟨g, i, none⟩)) := ch_put_eq (by omega)
    generalize a1.put (some (s + 1)) (.pointer (some ⟨g, i, none⟩)) = a2 at m1 u1 ⊢
    refine ch_val (w1 g2 m1) (ch_load p2 (ch_eval u1) l1) ?_
    rw [d2]
    have m2 := kk a2 m1 (s + 2) X (by omega)
    have u2 : (a2.put (some (s + 2)) X).tmps[s + 2]? = some X := ch_put_eq (by rw [m1.size]; omega)
    generalize a2.put (some (s + 2)) X = a3 at m2 u2 ⊢
    refine ch_val (w1 g3 m2) (ch_field p3 (ch_eval ((m2.at_ 3 (by omega)).trans ((k1.at_ 3 (by omega)).trans hF.p3))) f2) ?_
    rw [d3]
    have m3 := kk a3 m2 (s + 3) (.pointer (some ⟨g', i, none⟩)) (by omega)
    have u3 : (a3.put (some (s + 3)) (.pointer (some ⟨g', i, none⟩))).tmps[s + 3]? = some (.pointer (some ⟨g', i, none⟩)) := ch_put_eq (by rw [m2.size]; omega)
    have u2 : (a3.put (some (s + 3)) (.pointer (some ⟨g', i, none⟩))).tmps[s + 2]? = some X := (ch_put_ne (by omega)).trans u2
    generalize a3.put (some (s + 3)) (.pointer (some ⟨g', i, none⟩)) = a4 at m3 u3 u2 ⊢
    refine ch_val (w1 g4 m3) (ch_load p4 (ch_eval u3) l2) ?_
    rw [d4]
    have m4 := kk a4 m3 (s + 4) Y (by omega)
    have u4 : (a4.put (some (s + 4)) Y).tmps[s + 4]? = some Y := ch_put_eq (by rw [m3.size]; omega)
    have u2 : (a4.put (some (s + 4)) Y).tmps[s + 2]? = some X := (ch_put_ne (by omega)).trans u2
    generalize a4.put (some (s + 4)) Y = a5 at m4 u4 u2 ⊢
    refine ch_call (w1 g5 m4) p5 (ch_eval u2) (ch_eval u4) hcf hc fun w' hw' => ?_
    rw [d5]
    have m5 := kk a5 m4 (s + 5) (.bool D) (by omega)
    have u5 : (a5.put (some (s + 5)) (.bool D)).tmps[s + 5]? = some (.bool D) := ch_put_eq (by rw [m4.size]; omega)
    generalize a5.put (some (s + 5)) (.bool D) = a6 at m5 u5 ⊢
    refine ch_val (ch_free g6) (ch_pick p6 (ch_eval ((m5.at_ s (by omega)).trans v1))) ?_
    rw [d6, if_pos rfl, ch_eval u5]
    have k6 := Kp.put (s := s + 1) a6 (.bool D) (show s + 1 ≤ s + 6 by omega)
    refine hn _ _ (hF.next ((k1.trans m5 (by omega)).trans k6 (by omega)) h3 ?_ hw')
    rw [Bool.true_and]
    exact ch_put_eq (by rw [m5.size, z1]; exact hN)
end
end Go.Proofs.Ytneehnoolhadbaa

namespace Go.Proofs.Ytneehnoolhadbaa
open Go.RowKit
set_option linter.unusedVariables false
theorem ch_f0_ {w : World} {g : Nat} : (Instr.fieldAt 31 (.pointer (some ⟨g, 0, none⟩)) 0).run Try.prog w = .ok (.pointer (some ⟨g, 0, none⟩)) w := by kernel_rfl
theorem ch_f1_ {w : World} {g : Nat} : (Instr.fieldAt 31 (.pointer (some ⟨g, 0, none⟩)) 1).run Try.prog w = .ok (.pointer (some ⟨g, 1, none⟩)) w := by kernel_rfl
theorem ch_f2_ {w : World} {g : Nat} : (Instr.fieldAt 31 (.pointer (some ⟨g, 0, none⟩)) 2).run Try.prog w = .ok (.pointer (some ⟨g, 2, none⟩)) w := by kernel_rfl
theorem ch_f3_ {w : World} {g : Nat} : (Instr.fieldAt 31 (.pointer (some ⟨g, 0, none⟩)) 3).run Try.prog w = .ok (.pointer (some ⟨g, 3, none⟩)) w := by kernel_rfl
theorem ch_f4_ {w : World} {g : Nat} : (Instr.fieldAt 31 (.pointer (some ⟨g, 0, none⟩)) 4).run Try.prog w = .ok (.pointer (some ⟨g, 4, none⟩)) w := by kernel_rfl
theorem ch_f5_ {w : World} {g : Nat} : (Instr.fieldAt 31 (.pointer (some ⟨g, 0, none⟩)) 5).run Try.prog w = .ok (.pointer (some ⟨g, 5, none⟩)) w := by kernel_rfl
theorem ch_f6_ {w : World} {g : Nat} : (Instr.fieldAt 31 (.pointer (some ⟨g, 0, none⟩)) 6).run Try.prog w = .ok (.pointer (some ⟨g, 6, none⟩)) w := by kernel_rfl
theorem ch_f7_ {w : World} {g : Nat} : (Instr.fieldAt 31 (.pointer (some ⟨g, 0, none⟩)) 7).run Try.prog w = .ok (.pointer (some ⟨g, 7, none⟩)) w := by kernel_rfl
theorem ch_f8_ {w : World} {g : Nat} : (Instr.fieldAt 31 (.pointer (some ⟨g, 0, none⟩)) 8).run Try.prog w = .ok (.pointer (some ⟨g, 8, none⟩)) w := by kernel_rfl
theorem ch_f9_ {w : World} {g : Nat} : (Instr.fieldAt 31 (.pointer (some ⟨g, 0, none⟩)) 9).run Try.prog w = .ok (.pointer (some ⟨g, 9, none⟩)) w := by kernel_rfl
theorem ch_f10_ {w : World} {g : Nat} : (Instr.fieldAt 31 (.pointer (some ⟨g, 0, none⟩)) 10).run Try.prog w = .ok (.pointer (some ⟨g, 10, none⟩)) w := by kernel_rfl
theorem ch_f11_ {w : World} {g : Nat} : (Instr.fieldAt 31 (.pointer (some ⟨g, 0, none⟩)) 11).run Try.prog w = .ok (.pointer (some ⟨g, 11, none⟩)) w := by kernel_rfl
theorem ch_f12_ {w : World} {g : Nat} : (Instr.fieldAt 31 (.pointer (some ⟨g, 0, none⟩)) 12).run Try.prog w = .ok (.pointer (some ⟨g, 12, none⟩)) w := by kernel_rfl
theorem ch_f13_ {w : World} {g : Nat} : (Instr.fieldAt 31 (.pointer (some ⟨g, 0, none⟩)) 13).run Try.prog w = .ok (.pointer (some ⟨g, 13, none⟩)) w := by kernel_rfl
theorem ch_f14_ {w : World} {g : Nat} : (Instr.fieldAt 31 (.pointer (some ⟨g, 0, none⟩)) 14).run Try.prog w = .ok (.pointer (some ⟨g, 14, none⟩)) w := by kernel_rfl
theorem ch_f15_ {w : World} {g : Nat} : (Instr.fieldAt 31 (.pointer (some ⟨g, 0, none⟩)) 15).run Try.prog w = .ok (.pointer (some ⟨g, 15, none⟩)) w := by kernel_rfl
theorem ch_f16_ {w : World} {g : Nat} : (Instr.fieldAt 31 (.pointer (some ⟨g, 0, none⟩)) 16).run Try.prog w = .ok (.pointer (some ⟨g, 16, none⟩)) w := by kernel_rfl
theorem ch_f17_ {w : World} {g : Nat} : (Instr.fieldAt 31 (.pointer (some ⟨g, 0, none⟩)) 17).run Try.prog w = .ok (.pointer (some ⟨g, 17, none⟩)) w := by kernel_rfl
theorem ch_ldX {w : World} {g i n c : Nat} {A : Option Addr} (h : w.cell? ⟨g, i, none⟩ = some (.slice A n c)) : (Instr.loadAt 25 (.pointer (some ⟨g, i, none⟩))).run Try.prog w = .ok (.slice A n c) w := by
  simp [go_sem, h]
theorem ch_ldY {w : World} {g i n c : Nat} {A : Option Addr} (h : w.cell? ⟨g, i, none⟩ = some (.slice A n c)) : (Instr.loadAt 22 (.pointer (some ⟨g, i, none⟩))).run Try.prog w = .ok (.slice A n c) w := by
  simp [go_sem, h]
theorem ch_gB {w : World} {x y : Operand} {p q : Bool} : (eqGuard .eql 4 x y (.bool p) (.bool q)).run Try.prog w = .ok () w := by kernel_rfl
theorem ch_gS {w : World} {x y : Operand} {p q : ByteArray} : (eqGuard .eql 9 x y (.string p) (.string q)).run Try.prog w = .ok () w := by kernel_rfl
theorem ch_eS {w : World} {p q : ByteArray} {D : Bool} (h2 : (p.toList == q.toList) = D) : (binOp .eql 9 (.string p) (.string q)).run Try.prog w = .ok (.bool D) w := by
  simp [go_sem, h2]
theorem ch_c31 {w : World} {X Y : Value} : (callFunc 10 #[X, Y]).run Try.prog w = .ok (.enter 10 #[X, Y]) w := by kernel_rfl
theorem ch_cE {w : World} {X Y : Value} : (callFunc 39 #[X, Y]).run Try.prog w = .ok (.enter 39 #[X, Y]) w := by kernel_rfl
theorem ch_ldE {w : World} {g : Nat} {cs : Array Value} (hk : Blk w g 31 cs) (hs : cs.size = 24) : (Instr.loadAt 29 (.pointer (some ⟨g, 17, none⟩))).run Try.prog w = .ok (.agg (cs.toList.drop 17).toArray) w :=
  run_loadAt_mid w g 17 29 (cs.toList.drop 17) _ (fun j v hv => by rw [List.getElem?_drop] at hv; rw [hk.cell]; simpa using hv) Try.underlying29 rfl (by rw [List.length_drop, Array.length_toList, hs]; kernel_rfl)
theorem ch_end {a : Act} {s N : Nat} {c c' : Bool} (hsz : a.tmps.size = N) (hs : s < N) (hc : c = c') : Ending.returned ((a.put (some s) (.bool c)).tmps.getD s undef) = .returned (.bool c') := by
  subst hc
  have e : (a.put (some s) (.bool c)).tmps[s]? = some (.bool c) := ch_put_eq (by omega)
  simp [e]
set_option maxHeartbeats 8000000 in
set_option maxRecDepth 100000 in
theorem refSame11 (w : World) {a a' : GA} {m m' : Mg} {B B' : Nat} (hM : m.Wide) (hM' : m'.Wide) (h : RdG w B a m) (h' : RdG w B' a' m') : Calls Try.prog 23 #[msgV a m, msgV a' m'] w fun e w' => e = .returned (.bool (decide (m = m'))) ∧ Below w.heap.size w w' := by
  obtain ⟨wa, hwa⟩ : ∃ x, (w.alloc (.cells #[.int .i64 m.kind, .int .i64 m.frm, .int .i64 m.dst, .int .i64 m.view, .int .i64 m.inst, .int .i64 m.len, .bool m.has, .int .i64 m.mem, .int .i64 m.src, .int .i64 m.pos, .int .i64 m.tot, .slice a.Ad m.data.length a.cd, .int .i64 m.hop, .int .i64 m.seq, .slice a.Ah m.hav.length a.ch, .slice a.An m.nee.length a.cn, .int .i64 m.idx, .int .i64 m.ent.s, .int .i64 m.ent.q, .int .i64 m.ent.c.kind, .int .i64 m.ent.c.who, .slice a.c.Ak m.ent.c.key.length a.c.ck, .slice a.c.Av m.ent.c.val.length a.c.cv, .slice a.c.Ao m.ent.c.old.length a.c.co] 31)).alloc (.cells #[.int .i64 m'.kind, .int .i64 m'.frm, .int .i64 m'.dst, .int .i64 m'.view, .int .i64 m'.inst, .int .i64 m'.len, .bool m'.has, .int .i64 m'.mem, .int .i64 m'.src, .int .i64 m'.pos, .int .i64 m'.tot, .slice a'.Ad m'.data.length a'.cd, .int .i64 m'.hop, .int .i64 m'.seq, .slice a'.Ah m'.hav.length a'.ch, .slice a'.An m'.nee.length a'.cn, .int .i64 m'.idx, .int .i64 m'.ent.s, .int .i64 m'.ent.q, .int .i64 m'.ent.c.kind, .int .i64 m'.ent.c.who, .slice a'.c.Ak m'.ent.c.key.length a'.c.ck, .slice a'.c.Av m'.ent.c.val.length a'.c.cv, .slice a'.c.Ao m'.ent.c.old.length a'.c.co] 31) = x := ⟨_, rfl⟩
  have bb : Below w.heap.size w wa := by rw [← hwa]; exact ((Below.refl _ _).alloc (Nat.le_refl _) _).alloc (by rw [World.size_alloc]; omega) _
  obtain ⟨g, hg⟩ : ∃ g, w.heap.size = g := ⟨_, rfl⟩
  have k1 : Blk wa g 31 #[.int .i64 m.kind, .int .i64 m.frm, .int .i64 m.dst, .int .i64 m.view, .int .i64 m.inst, .int .i64 m.len, .bool m.has, .int .i64 m.mem, .int .i64 m.src, .int .i64 m.pos, .int .i64 m.tot, .slice a.Ad m.data.length a.cd, .int .i64 m.hop, .int .i64 m.seq, .slice a.Ah m.hav.length a.ch, .slice a.An m.nee.length a.cn, .int .i64 m.idx, .int .i64 m.ent.s, .int .i64 m.ent.q, .int .i64 m.ent.c.kind, .int .i64 m.ent.c.who, .slice a.c.Ak m.ent.c.key.length a.c.ck, .slice a.c.Av m.ent.c.val.length a.c.cv, .slice a.c.Ao m.ent.c.old.length a.c.co] := by rw [← hwa, ← hg]; exact (Blk.new _ _ _).alloc _
  have k2 : Blk wa (g + 1) 31 #[.int .i64 m'.kind, .int .i64 m'.frm, .int .i64 m'.dst, .int .i64 m'.view, .int .i64 m'.inst, .int .i64 m'.len, .bool m'.has, .int .i64 m'.mem, .int .i64 m'.src, .int .i64 m'.pos, .int .i64 m'.tot, .slice a'.Ad m'.data.length a'.cd, .int .i64 m'.hop, .int .i64 m'.seq, .slice a'.Ah m'.hav.length a'.ch, .slice a'.An m'.nee.length a'.cn, .int .i64 m'.idx, .int .i64 m'.ent.s, .int .i64 m'.ent.q, .int .i64 m'.ent.c.kind, .int .i64 m'.ent.c.who, .slice a'.c.Ak m'.ent.c.key.length a'.c.ck, .slice a'.c.Av m'.ent.c.val.length a'.c.cv, .slice a'.c.Ao m'.ent.c.old.length a'.c.co] := by
    rw [← hwa, ← hg]
    have := Blk.new (w.alloc (.cells #[.int .i64 m.kind, .int .i64 m.frm, .int .i64 m.dst, .int .i64 m.view, .int .i64 m.inst, .int .i64 m.len, .bool m.has, .int .i64 m.mem, .int .i64 m.src, .int .i64 m.pos, .int .i64 m.tot, .slice a.Ad m.data.length a.cd, .int .i64 m.hop, .int .i64 m.seq, .slice a.Ah m.hav.length a.ch, .slice a.An m.nee.length a.cn, .int .i64 m.idx, .int .i64 m.ent.s, .int .i64 m.ent.q, .int .i64 m.ent.c.kind, .int .i64 m.ent.c.who, .slice a.c.Ak m.ent.c.key.length a.c.ck, .slice a.c.Av m.ent.c.val.length a.c.cv, .slice a.c.Ao m.ent.c.old.length a.c.co] 31)) 31 #[.int .i64 m'.kind, .int .i64 m'.frm, .int .i64 m'.dst, .int .i64 m'.view, .int .i64 m'.inst, .int .i64 m'.len, .bool m'.has, .int .i64 m'.mem, .int .i64 m'.src, .int .i64 m'.pos, .int .i64 m'.tot, .slice a'.Ad m'.data.length a'.cd, .int .i64 m'.hop, .int .i64 m'.seq, .slice a'.Ah m'.hav.length a'.ch, .slice a'.An m'.nee.length a'.cn, .int .i64 m'.idx, .int .i64 m'.ent.s, .int .i64 m'.ent.q, .int .i64 m'.ent.c.kind, .int .i64 m'.ent.c.who, .slice a'.c.Ak m'.ent.c.key.length a'.c.ck, .slice a'.c.Av m'.ent.c.val.length a'.c.cv, .slice a'.c.Ao m'.ent.c.old.length a'.c.co]
    rwa [World.size_alloc] at this
  have HB := Lib.hid bb
  have HWA := Lib.hid hwa
  have HG := Lib.hid hg
  have R := h.fit.below bb
  have R' := h'.fit.below bb
  obtain ⟨D0, d0⟩ : ∃ D : Bool, decide (m.kind = m'.kind) = D := ⟨_, rfl⟩
  obtain ⟨D1, d1⟩ : ∃ D : Bool, decide (m.frm = m'.frm) = D := ⟨_, rfl⟩
  obtain ⟨D2, d2⟩ : ∃ D : Bool, decide (m.dst = m'.dst) = D := ⟨_, rfl⟩
  obtain ⟨D3, d3⟩ : ∃ D : Bool, decide (m.view = m'.view) = D := ⟨_, rfl⟩
  obtain ⟨D4, d4⟩ : ∃ D : Bool, decide (m.inst = m'.inst) = D := ⟨_, rfl⟩
  obtain ⟨D5, d5⟩ : ∃ D : Bool, decide (m.len = m'.len) = D := ⟨_, rfl⟩
  obtain ⟨D6, d6⟩ : ∃ D : Bool, decide (m.has = m'.has) = D := ⟨_, rfl⟩
  obtain ⟨D7, d7⟩ : ∃ D : Bool, decide (m.mem = m'.mem) = D := ⟨_, rfl⟩
  obtain ⟨D8, d8⟩ : ∃ D : Bool, decide (m.src = m'.src) = D := ⟨_, rfl⟩
  obtain ⟨D9, d9⟩ : ∃ D : Bool, decide (m.pos = m'.pos) = D := ⟨_, rfl⟩
  obtain ⟨D10, d10⟩ : ∃ D : Bool, decide (m.tot = m'.tot) = D := ⟨_, rfl⟩
  obtain ⟨D11, d11⟩ : ∃ D : Bool, decide (m.data = m'.data) = D := ⟨_, rfl⟩
  obtain ⟨D12, d12⟩ : ∃ D : Bool, decide (m.hop = m'.hop) = D := ⟨_, rfl⟩
  obtain ⟨D13, d13⟩ : ∃ D : Bool, decide (m.seq = m'.seq) = D := ⟨_, rfl⟩
  obtain ⟨D14, d14⟩ : ∃ D : Bool, decide (m.hav = m'.hav) = D := ⟨_, rfl⟩
  obtain ⟨D15, d15⟩ : ∃ D : Bool, decide (m.nee = m'.nee) = D := ⟨_, rfl⟩
  obtain ⟨D16, d16⟩ : ∃ D : Bool, decide (m.idx = m'.idx) = D := ⟨_, rfl⟩
  obtain ⟨D17, d17⟩ : ∃ D : Bool, decide (m.ent = m'.ent) = D := ⟨_, rfl⟩
  have HD : Hid (decide (m = m') = (D0 && (D1 && (D2 && (D3 && (D4 && (D5 && (D6 && (D7 && (D8 && (D9 && (D10 && (D11 && (D12 && (D13 && (D14 && (D15 && (D16 && D17)))))))))))))))))) := Lib.hid (by
    rw [← d0, ← d1, ← d2, ← d3, ← d4, ← d5, ← d6, ← d7, ← d8, ← d9, ← d10, ← d11, ← d12, ← d13, ← d14, ← d15, ← d16, ← d17, Bool.eq_iff_iff]
    simp only [decide_eq_true_eq, Bool.and_eq_true, Mg.eq_iff])
  have r0 : (m.kind == m'.kind) = D0 := by rw [← d0, Bool.eq_iff_iff]; simp
  have r1 : (m.frm == m'.frm) = D1 := by rw [← d1, Bool.eq_iff_iff]; simp
  have r2 : (m.dst == m'.dst) = D2 := by rw [← d2, Bool.eq_iff_iff]; simp
  have r3 : (m.view == m'.view) = D3 := by rw [← d3, Bool.eq_iff_iff]; simp
  have r4 : (m.inst == m'.inst) = D4 := by rw [← d4, Bool.eq_iff_iff]; simp
  have r5 : (m.len == m'.len) = D5 := by rw [← d5, Bool.eq_iff_iff]; simp
  have r6 : (m.has == m'.has) = D6 := by rw [← d6, Bool.eq_iff_iff]; simp
  have r7 : (m.mem == m'.mem) = D7 := by rw [← d7, Bool.eq_iff_iff]; simp
  have r8 : (m.src == m'.src) = D8 := by rw [← d8, Bool.eq_iff_iff]; simp
  have r9 : (m.pos == m'.pos) = D9 := by rw [← d9, Bool.eq_iff_iff]; simp
  have r10 : (m.tot == m'.tot) = D10 := by rw [← d10, Bool.eq_iff_iff]; simp
  have r12 : (m.hop == m'.hop) = D12 := by rw [← d12, Bool.eq_iff_iff]; simp
  have r13 : (m.seq == m'.seq) = D13 := by rw [← d13, Bool.eq_iff_iff]; simp
  have r16 : (m.idx == m'.idx) = D16 := by rw [← d16, Bool.eq_iff_iff]; simp
  rw [HD.out]
  have p1 := str_of (c := a.cd) R.d
  have p2 := str_of (c := a'.cd) R'.d
  have G2 : ((strB m.data).toList == (strB m'.data).toList) = D11 := by rw [← d11]; exact strL_eq hM.d.2 hM'.d.2
  have CH : Hid (∀ wx, Below wa.heap.size wa wx → Calls Try.prog 10 #[.slice a.Ah m.hav.length a.ch, .slice a'.Ah m'.hav.length a'.ch] wx fun e w' => e = .returned (.bool D14) ∧ Below wx.heap.size wx w') := Lib.hid (fun wx hb => by rw [← d14]; exact (same_any wx _ _ _ _ _ _ _ _ _ _ (R.h.fit.below hb) (R'.h.fit.below hb) (Nat.le_trans hM.h (by unfold maxLen; omega)) (Nat.le_trans hM'.h (by unfold maxLen; omega))).mono fun e w' ⟨q1, k, q2⟩ => ⟨q1, by rw [q2]; exact ⟨rfl, rfl, rfl, Nat.le_refl _, fun _ _ => rfl⟩⟩)
  have CN : Hid (∀ wx, Below wa.heap.size wa wx → Calls Try.prog 10 #[.slice a.An m.nee.length a.cn, .slice a'.An m'.nee.length a'.cn] wx fun e w' => e = .returned (.bool D15) ∧ Below wx.heap.size wx w') := Lib.hid (fun wx hb => by rw [← d15]; exact (same_any wx _ _ _ _ _ _ _ _ _ _ (R.n.fit.below hb) (R'.n.fit.below hb) (Nat.le_trans hM.n (by unfold maxLen; omega)) (Nat.le_trans hM'.n (by unfold maxLen; omega))).mono fun e w' ⟨q1, k, q2⟩ => ⟨q1, by rw [q2]; exact ⟨rfl, rfl, rfl, Nat.le_refl _, fun _ _ => rfl⟩⟩)
  have CE : Hid (∀ wx, Below wa.heap.size wa wx → Calls Try.prog 39 #[.agg #[.int .i64 m.ent.s, .int .i64 m.ent.q, .int .i64 m.ent.c.kind, .int .i64 m.ent.c.who, .slice a.c.Ak m.ent.c.key.length a.c.ck, .slice a.c.Av m.ent.c.val.length a.c.cv, .slice a.c.Ao m.ent.c.old.length a.c.co], .agg #[.int .i64 m'.ent.s, .int .i64 m'.ent.q, .int .i64 m'.ent.c.kind, .int .i64 m'.ent.c.who, .slice a'.c.Ak m'.ent.c.key.length a'.c.ck, .slice a'.c.Av m'.ent.c.val.length a'.c.cv, .slice a'.c.Ao m'.ent.c.old.length a'.c.co]] wx fun e w' => e = .returned (.bool D17) ∧ Below wx.heap.size wx w') := Lib.hid (fun wx hb => by rw [← d17]; exact refSameEntryW wx hM.c hM'.c (R.c.fit.below hb) (R'.c.fit.below hb))
  have HF : Hid (∀ wx, Below wa.heap.size wa wx → Blk wx g 31 #[.int .i64 m.kind, .int .i64 m.frm, .int .i64 m.dst, .int .i64 m.view, .int .i64 m.inst, .int .i64 m.len, .bool m.has, .int .i64 m.mem, .int .i64 m.src, .int .i64 m.pos, .int .i64 m.tot, .slice a.Ad m.data.length a.cd, .int .i64 m.hop, .int .i64 m.seq, .slice a.Ah m.hav.length a.ch, .slice a.An m.nee.length a.cn, .int .i64 m.idx, .int .i64 m.ent.s, .int .i64 m.ent.q, .int .i64 m.ent.c.kind, .int .i64 m.ent.c.who, .slice a.c.Ak m.ent.c.key.length a.c.ck, .slice a.c.Av m.ent.c.val.length a.c.cv, .slice a.c.Ao m.ent.c.old.length a.c.co] ∧ Blk wx (g + 1) 31 #[.int .i64 m'.kind, .int .i64 m'.frm, .int .i64 m'.dst, .int .i64 m'.view, .int .i64 m'.inst, .int .i64 m'.len, .bool m'.has, .int .i64 m'.mem, .int .i64 m'.src, .int .i64 m'.pos, .int .i64 m'.tot, .slice a'.Ad m'.data.length a'.cd, .int .i64 m'.hop, .int .i64 m'.seq, .slice a'.Ah m'.hav.length a'.ch, .slice a'.An m'.nee.length a'.cn, .int .i64 m'.idx, .int .i64 m'.ent.s, .int .i64 m'.ent.q, .int .i64 m'.ent.c.kind, .int .i64 m'.ent.c.who, .slice a'.c.Ak m'.ent.c.key.length a'.c.ck, .slice a'.c.Av m'.ent.c.val.length a'.c.cv, .slice a'.c.Ao m'.ent.c.old.length a'.c.co]) := Lib.hid (fun wx hb => ⟨k1.below hb, k2.below hb⟩)
  have K1 := Lib.hid k1
  have K2 := Lib.hid k2
  clear h h' hM hM' bb k1 k2 R R' hwa hg HD d0 d1 d2 d3 d4 d5 d6 d7 d8 d9 d10 d11 d12 d13 d14 d15 d16 d17
  unfold msgV msgC
  go_enter Try.func23, Try.ntmps23
  go_upto_region 1 with fail
  rw [HG.out, HWA.out]
  clear HWA
  rename_i hK
  refine ch_region (by simp only [List.append_eq, List.cons_append, List.nil_append]; exact rfl) ?_
  refine ch_first (s := 5) (wa := wa) (N := 131) (g := g) (g' := g + 1) (tm := 31) (i := 0) (ty := 3) (X := .int .i64 m.kind) (Y := .int .i64 m'.kind) (D := D0) (by decide) (by decide) ⟨rfl, rfl, rfl⟩ ⟨rfl, rfl, rfl⟩ ⟨rfl, rfl, rfl⟩ ⟨rfl, rfl, rfl⟩ ⟨rfl, rfl, rfl⟩ rfl rfl rfl rfl (Below.refl _ _) ch_f0_ (ch_ldI (K1.out.cell 0)) ch_f0_ (ch_ldI (K2.out.cell 0)) ch_gI (by rw [← r0]; exact ch_eI) fun a0 h0 => ?_
  refine ch_group (N := 131) (s := 10) (r := 9) (gi := 5) (i := 1) (tm := 31) (ty := 3) (D := D1) (by decide) (by decide) (by decide) rfl ⟨rfl, rfl, rfl⟩ ⟨rfl, rfl, rfl⟩ ⟨rfl, rfl, rfl⟩ ⟨rfl, rfl, rfl⟩ ⟨rfl, rfl, rfl⟩ ⟨rfl, rfl, rfl⟩ ⟨rfl, rfl, rfl⟩ h0 ch_f1_ (ch_ldI (K1.out.cell 1)) ch_f1_ (ch_ldI (K2.out.cell 1)) ch_gI (by rw [← r1]; exact ch_eI) fun a1 h1 => ?_
  refine ch_group (N := 131) (s := 17) (r := 16) (gi := 12) (i := 2) (tm := 31) (ty := 3) (D := D2) (by decide) (by decide) (by decide) rfl ⟨rfl, rfl, rfl⟩ ⟨rfl, rfl, rfl⟩ ⟨rfl, rfl, rfl⟩ ⟨rfl, rfl, rfl⟩ ⟨rfl, rfl, rfl⟩ ⟨rfl, rfl, rfl⟩ ⟨rfl, rfl, rfl⟩ h1 ch_f2_ (ch_ldI (K1.out.cell 2)) ch_f2_ (ch_ldI (K2.out.cell 2)) ch_gI (by rw [← r2]; exact ch_eI) fun a2 h2 => ?_
  refine ch_group (N := 131) (s := 24) (r := 23) (gi := 19) (i := 3) (tm := 31) (ty := 3) (D := D3) (by decide) (by decide) (by decide) rfl ⟨rfl, rfl, rfl⟩ ⟨rfl, rfl, rfl⟩ ⟨rfl, rfl, rfl⟩ ⟨rfl, rfl, rfl⟩ ⟨rfl, rfl, rfl⟩ ⟨rfl, rfl, rfl⟩ ⟨rfl, rfl, rfl⟩ h2 ch_f3_ (ch_ldI (K1.out.cell 3)) ch_f3_ (ch_ldI (K2.out.cell 3)) ch_gI (by rw [← r3]; exact ch_eI) fun a3 h3 => ?_
  refine ch_group (N := 131) (s := 31) (r := 30) (gi := 26) (i := 4) (tm := 31) (ty := 3) (D := D4) (by decide) (by decide) (by decide) rfl ⟨rfl, rfl, rfl⟩ ⟨rfl, rfl, rfl⟩ ⟨rfl, rfl, rfl⟩ ⟨rfl, rfl, rfl⟩ ⟨rfl, rfl, rfl⟩ ⟨rfl, rfl, rfl⟩ ⟨rfl, rfl, rfl⟩ h3 ch_f4_ (ch_ldI (K1.out.cell 4)) ch_f4_ (ch_ldI (K2.out.cell 4)) ch_gI (by rw [← r4]; exact ch_eI) fun a4 h4 => ?_
  refine ch_group (N := 131) (s := 38) (r := 37) (gi := 33) (i := 5) (tm := 31) (ty := 3) (D := D5) (by decide) (by decide) (by decide) rfl ⟨rfl, rfl, rfl⟩ ⟨rfl, rfl, rfl⟩ ⟨rfl, rfl, rfl⟩ ⟨rfl, rfl, rfl⟩ ⟨rfl, rfl, rfl⟩ ⟨rfl, rfl, rfl⟩ ⟨rfl, rfl, rfl⟩ h4 ch_f5_ (ch_ldI (K1.out.cell 5)) ch_f5_ (ch_ldI (K2.out.cell 5)) ch_gI (by rw [← r5]; exact ch_eI) fun a5 h5 => ?_
  refine ch_group (N := 131) (s := 45) (r := 44) (gi := 40) (i := 6) (tm := 31) (ty := 4) (D := D6) (by decide) (by decide) (by decide) rfl ⟨rfl, rfl, rfl⟩ ⟨rfl, rfl, rfl⟩ ⟨rfl, rfl, rfl⟩ ⟨rfl, rfl, rfl⟩ ⟨rfl, rfl, rfl⟩ ⟨rfl, rfl, rfl⟩ ⟨rfl, rfl, rfl⟩ h5 ch_f6_ (ch_ldB (K1.out.cell 6)) ch_f6_ (ch_ldB (K2.out.cell 6)) ch_gB (by rw [← r6]; exact ch_eB) fun a6 h6 => ?_
  refine ch_group (N := 131) (s := 52) (r := 51) (gi := 47) (i := 7) (tm := 31) (ty := 3) (D := D7) (by decide) (by decide) (by decide) rfl ⟨rfl, rfl, rfl⟩ ⟨rfl, rfl, rfl⟩ ⟨rfl, rfl, rfl⟩ ⟨rfl, rfl, rfl⟩ ⟨rfl, rfl, rfl⟩ ⟨rfl, rfl, rfl⟩ ⟨rfl, rfl, rfl⟩ h6 ch_f7_ (ch_ldI (K1.out.cell 7)) ch_f7_ (ch_ldI (K2.out.cell 7)) ch_gI (by rw [← r7]; exact ch_eI) fun a7 h7 => ?_
  refine ch_group (N := 131) (s := 59) (r := 58) (gi := 54) (i := 8) (tm := 31) (ty := 3) (D := D8) (by decide) (by decide) (by decide) rfl ⟨rfl, rfl, rfl⟩ ⟨rfl, rfl, rfl⟩ ⟨rfl, rfl, rfl⟩ ⟨rfl, rfl, rfl⟩ ⟨rfl, rfl, rfl⟩ ⟨rfl, rfl, rfl⟩ ⟨rfl, rfl, rfl⟩ h7 ch_f8_ (ch_ldI (K1.out.cell 8)) ch_f8_ (ch_ldI (K2.out.cell 8)) ch_gI (by rw [← r8]; exact ch_eI) fun a8 h8 => ?_
  refine ch_group (N := 131) (s := 66) (r := 65) (gi := 61) (i := 9) (tm := 31) (ty := 3) (D := D9) (by decide) (by decide) (by decide) rfl ⟨rfl, rfl, rfl⟩ ⟨rfl, rfl, rfl⟩ ⟨rfl, rfl, rfl⟩ ⟨rfl, rfl, rfl⟩ ⟨rfl, rfl, rfl⟩ ⟨rfl, rfl, rfl⟩ ⟨rfl, rfl, rfl⟩ h8 ch_f9_ (ch_ldI (K1.out.cell 9)) ch_f9_ (ch_ldI (K2.out.cell 9)) ch_gI (by rw [← r9]; exact ch_eI) fun a9 h9 => ?_
  refine ch_group (N := 131) (s := 73) (r := 72) (gi := 68) (i := 10) (tm := 31) (ty := 3) (D := D10) (by decide) (by decide) (by decide) rfl ⟨rfl, rfl, rfl⟩ ⟨rfl, rfl, rfl⟩ ⟨rfl, rfl, rfl⟩ ⟨rfl, rfl, rfl⟩ ⟨rfl, rfl, rfl⟩ ⟨rfl, rfl, rfl⟩ ⟨rfl, rfl, rfl⟩ h9 ch_f10_ (ch_ldI (K1.out.cell 10)) ch_f10_ (ch_ldI (K2.out.cell 10)) ch_gI (by rw [← r10]; exact ch_eI) fun a10 h10 => ?_
  refine ch_groupS (N := 131) (s := 80) (r := 79) (gi := 75) (i := 11) (tm := 31) (ty := 25) (tg := 9) (D := D11) (by decide) (by decide) (by decide) rfl ⟨rfl, rfl, rfl⟩ ⟨rfl, rfl, rfl⟩ ⟨rfl, rfl, rfl⟩ ⟨rfl, rfl, rfl⟩ ⟨rfl, rfl, rfl⟩ ⟨rfl, rfl, rfl⟩ ⟨rfl, rfl, rfl⟩ ⟨rfl, rfl, rfl⟩ ⟨rfl, rfl, rfl⟩ h10 ch_f11_ (ch_ldX (K1.out.cell 11)) p1 ch_f11_ (ch_ldX (K2.out.cell 11)) p2 ch_gS (ch_eS G2) fun a11 h11 => ?_
  refine ch_group (N := 131) (s := 89) (r := 88) (gi := 84) (i := 12) (tm := 31) (ty := 3) (D := D12) (by decide) (by decide) (by decide) rfl ⟨rfl, rfl, rfl⟩ ⟨rfl, rfl, rfl⟩ ⟨rfl, rfl, rfl⟩ ⟨rfl, rfl, rfl⟩ ⟨rfl, rfl, rfl⟩ ⟨rfl, rfl, rfl⟩ ⟨rfl, rfl, rfl⟩ h11 ch_f12_ (ch_ldI (K1.out.cell 12)) ch_f12_ (ch_ldI (K2.out.cell 12)) ch_gI (by rw [← r12]; exact ch_eI) fun a12 h12 => ?_
  refine ch_group (N := 131) (s := 96) (r := 95) (gi := 91) (i := 13) (tm := 31) (ty := 3) (D := D13) (by decide) (by decide) (by decide) rfl ⟨rfl, rfl, rfl⟩ ⟨rfl, rfl, rfl⟩ ⟨rfl, rfl, rfl⟩ ⟨rfl, rfl, rfl⟩ ⟨rfl, rfl, rfl⟩ ⟨rfl, rfl, rfl⟩ ⟨rfl, rfl, rfl⟩ h12 ch_f13_ (ch_ldI (K1.out.cell 13)) ch_f13_ (ch_ldI (K2.out.cell 13)) ch_gI (by rw [← r13]; exact ch_eI) fun a13 h13 => ?_
  refine ch_groupC (N := 131) (s := 103) (r := 102) (gi := 98) (i := 14) (tm := 31) (ty := 22) (D := D14) (by decide) (by decide) (by decide) rfl ⟨rfl, rfl, rfl⟩ ⟨rfl, rfl, rfl⟩ ⟨rfl, rfl, rfl⟩ ⟨rfl, rfl, rfl⟩ ⟨rfl, rfl, rfl⟩ ⟨rfl, rfl, rfl⟩ ⟨rfl, rfl, rfl⟩ h13 ch_f14_ (ch_ldY (K1.out.cell 14)) ch_f14_ (ch_ldY (K2.out.cell 14)) ch_c31 (CH.out _ h13.b) fun a14 w14 h14 => ?_
  refine ch_groupC (N := 131) (s := 110) (r := 109) (gi := 105) (i := 15) (tm := 31) (ty := 22) (D := D15) (by decide) (by decide) (by decide) rfl ⟨rfl, rfl, rfl⟩ ⟨rfl, rfl, rfl⟩ ⟨rfl, rfl, rfl⟩ ⟨rfl, rfl, rfl⟩ ⟨rfl, rfl, rfl⟩ ⟨rfl, rfl, rfl⟩ ⟨rfl, rfl, rfl⟩ h14 ch_f15_ (ch_ldY ((HF.out _ h14.b).1.cell 15)) ch_f15_ (ch_ldY ((HF.out _ h14.b).2.cell 15)) ch_c31 (CN.out _ h14.b) fun a15 w15 h15 => ?_
  refine ch_group (N := 131) (s := 117) (r := 116) (gi := 112) (i := 16) (tm := 31) (ty := 3) (D := D16) (by decide) (by decide) (by decide) rfl ⟨rfl, rfl, rfl⟩ ⟨rfl, rfl, rfl⟩ ⟨rfl, rfl, rfl⟩ ⟨rfl, rfl, rfl⟩ ⟨rfl, rfl, rfl⟩ ⟨rfl, rfl, rfl⟩ ⟨rfl, rfl, rfl⟩ h15 ch_f16_ (ch_ldI ((HF.out _ h15.b).1.cell 16)) ch_f16_ (ch_ldI ((HF.out _ h15.b).2.cell 16)) ch_gI (by rw [← r16]; exact ch_eI) fun a16 h16 => ?_
  refine ch_groupC (N := 131) (s := 124) (r := 123) (gi := 119) (i := 17) (tm := 31) (ty := 29) (D := D17) (by decide) (by decide) (by decide) rfl ⟨rfl, rfl, rfl⟩ ⟨rfl, rfl, rfl⟩ ⟨rfl, rfl, rfl⟩ ⟨rfl, rfl, rfl⟩ ⟨rfl, rfl, rfl⟩ ⟨rfl, rfl, rfl⟩ ⟨rfl, rfl, rfl⟩ h16 ch_f17_ (ch_ldE (HF.out _ h16.b).1 rfl) ch_f17_ (ch_ldE (HF.out _ h16.b).2 rfl) ch_cE (CE.out _ h16.b) fun a17 w17 h17 => ?_
  refine ch_val (ch_free rfl) (ch_assign rfl (ch_eval h17.r)) ?_
  exact wpList_nil (hK _ _ (wp_ret (bodyPost_ret (results_tmp rfl _ _ _) (ch_put_def.trans h17.d) ⟨ch_end h17.size (by decide) (by simp only [Bool.and_assoc]), HB.out.trans (h17.b.mono HB.out.size)⟩)))
end Go.Proofs.Ytneehnoolhadbaa

