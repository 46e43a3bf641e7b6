/- MesgRSameT ChainKit2 -/
import Derived.Test.YtlfkgpllleogoaaMT36
import Derived.Test.YtlfkgpllleogoaaMT37
namespace Go.Proofs.Ytlfkgpllleogoaa
open Go.RowKit
theorem refSame11_eq (w : World) {a a' : GA} {m m' : Mg} {B B' : Nat} (_hEq : m = m') (hM : m.Wide) (hM' : m'.Wide) (h : RdG w B a m) (h' : RdG w B' a' m') : Calls Try.prog 18 #[msgV a m, msgV a' m'] w fun e w' => e = .returned (.bool (decide (m = m'))) ∧ Below w.heap.size w w' := refSame11 w hM hM' h h'
end Go.Proofs.Ytlfkgpllleogoaa

namespace Go.Proofs.Ytlfkgpllleogoaa
open Go.RowKit
set_option linter.unusedVariables false
/-- what '&&' (want true) and '||' (want false) come to -/
def cmb (want c D : Bool) : Bool := if want then c && D else c || D
structure ChG (wa : World) (N : Nat) (ps : List (Nat × Value)) (r : Nat) (c : Bool) (a : Act) (w : World) : Prop where
  size : a.tmps.size = N
  d : a.defers = []
  ps : ∀ q ∈ ps, a.tmps[q.1]? = some q.2
  r : a.tmps[r]? = some (.bool c)
  b : Below wa.heap.size wa w
theorem ChG.next {wa w w' : World} {N r s t : Nat} {ps : List (Nat × Value)} {c c' : Bool} {a a' : Act} (h : ChG wa N ps r c a w) (hk : Kp s a a') (hs : ∀ q ∈ ps, q.1 < s) (ht : a'.tmps[t]? = some (.bool c')) (hb : Below w.heap.size w w') : ChG wa N ps t c' a' w' :=
  ⟨hk.size.trans h.size, hk.d.trans h.d, fun q hq => (hk.at_ q.1 (hs q hq)).trans (h.ps q hq), ht, h.b.trans (hb.mono h.b.size)⟩
section
variable {P : Program} {ops : Array Oper} {Q : Exit → Act → World → Prop} {a : Act} {w wa : World} {rest : List Oper} {N r s gi i : Nat} {ps : List (Nat × Value)} {want c D : Bool} {X Y : Value} {tm ty : TypeId}
theorem ch_wants {o : Oper} {j s : Nat} (hg : o.guard = some (j, want)) (hd : (ops[j]?).bind (·.dst) = some s) (hs : a.tmps[s]? = some (.bool c)) : Region.wanted o (yielded ops a.tmps) = (c == want) := by
  unfold Region.wanted yielded
  rw [hg]
  simp only [hd, Option.bind_some, hs]
  cases c <;> cases want <;> rfl
theorem ch_skips {l : List Oper} (hne : (c == want) = false) (hl : ∀ o ∈ l, o.guard = some (gi, want) ∧ ∃ d, o.dst = some d ∧ s < d) (hgi : (ops[gi]?).bind (·.dst) = some s) (hs : a.tmps[s]? = some (.bool c))
    (hn : ∀ a', Kp (s + 1) a a' → wpList P ops Q rest a' w) : wpList P ops Q (l ++ rest) a w := by
  induction l generalizing a with
  | nil => exact hn a ⟨rfl, rfl, fun _ _ => rfl⟩
  | cons o l ih =>
    obtain ⟨hg, d, hd, hlt⟩ := hl o (by simp)
    refine ch_no ((ch_wants hg hgi hs).trans hne) ?_
    rw [hd]
    have k := Kp.put (s := s + 1) a undef (show s + 1 ≤ d by omega)
    exact ih (fun o ho => hl o (by simp [ho])) ((k.at_ s (by omega)).trans hs) fun a' h => hn a' (k.trans h (Nat.le_refl _))
/-- one part -/
theorem ch_grp {o0 ol : Oper} {l : List Oper} {v e : Nat} {x y : Operand} (hN : s < N) (he : e < N) (hse : s < e) (hps : ∀ q ∈ ps, q.1 < s) (hgi : (ops[gi]?).bind (·.dst) = some s)
    (q0 : o0.dst = some s ∧ o0.guard = none ∧ o0.op = .move (.tmp r)) (ql : ol.dst = some e ∧ ol.guard = none ∧ ol.op = .pick (.tmp s) x y)
    (hxy : (want = true ∧ x = .tmp v ∧ y = .const (.bool false)) ∨ (want = false ∧ x = .const (.bool true) ∧ y = .tmp v))
    (hl : ∀ o ∈ l, o.guard = some (gi, want) ∧ ∃ d, o.dst = some d ∧ s < d) (hF : ChG wa N ps r c a w)
    (hrun : ∀ a1, ChG wa N ps s want a1 w → (∀ a' w', Kp (s + 1) a1 a' → a'.tmps[v]? = some (.bool D) → Below w.heap.size w w' → wpList P ops Q (ol :: rest) a' w') → wpList P ops Q (l ++ ol :: rest) a1 w)
    (hn : ∀ a' w', ChG wa N ps e (cmb want c D) a' w' → wpList P ops Q rest a' w') : wpList P ops Q (o0 :: (l ++ ol :: rest)) a w := by
  obtain ⟨d0, g0, p0⟩ := q0
  obtain ⟨d6, g6, p6⟩ := ql
  have hsz := hF.size
  refine ch_val (ch_free g0) (ch_move p0 (ch_eval hF.r)) ?_
  rw [d0]
  have k1 := Kp.put (s := s) a (.bool c) (Nat.le_refl _)
  have v1 : (a.put (some s) (.bool c)).tmps[s]? = some (.bool c) := ch_put_eq (by omega)
  generalize a.put (some s) (.bool c) = a1 at k1 v1 ⊢
  have h1 : ChG wa N ps s c a1 w := hF.next k1 hps v1 (Below.refl _ _)
  have hps1 : ∀ q ∈ ps, q.1 < s + 1 := fun q hq => Nat.lt_succ_of_lt (hps q hq)
  cases hcw : (c == want) with
  | false =>
    refine ch_skips hcw hl hgi v1 fun a' hk => ?_
    have hv := (hk.at_ s (by omega)).trans v1
    refine ch_val (ch_free g6) (ch_pick p6 (ch_eval hv)) ?_
    rw [d6]
    have hval : (if c = true then a'.eval x else a'.eval y) = .bool (cmb want c D) := by
      rcases hxy with ⟨rfl, rfl, rfl⟩ | ⟨rfl, rfl, rfl⟩ <;> cases c <;> first | rfl | cases hcw
    rw [hval]
    have k6 := Kp.put (s := s + 1) a' (.bool (cmb want c D)) (show s + 1 ≤ e by omega)
    exact hn _ _ (h1.next (hk.trans k6 (Nat.le_refl _)) hps1 (ch_put_eq (by rw [hk.size, h1.size]; exact he)) (Below.refl _ _))
  | true =>
    have hc : c = want := by simpa using hcw
    subst hc
    refine hrun a1 h1 fun a' w' hk hvv hb => ?_
    have hv := (hk.at_ s (by omega)).trans v1
    refine ch_val (ch_free g6) (ch_pick p6 (ch_eval hv)) ?_
    rw [d6]
    have hval : (if c = true then a'.eval x else a'.eval y) = .bool (cmb c c D) := by
      rcases hxy with ⟨rfl, rfl, rfl⟩ | ⟨rfl, rfl, rfl⟩
      · rw [if_pos rfl, ch_eval hvv]; rfl
      · rw [if_neg (by decide), ch_eval hvv]; rfl
    rw [hval]
    have k6 := Kp.put (s := s + 1) a' (.bool (cmb c c D)) (show s + 1 ≤ e by omega)
    exact hn _ _ (h1.next (hk.trans k6 (Nat.le_refl _)) hps1 (ch_put_eq (by rw [hk.size, h1.size]; exact he)) hb)
/-- an operation of such a part, wanted -/
theorem ch_go {o : Oper} {a1 : Act} {d : Nat} {v : Value} {w' : World} (hg : o.guard = some (gi, want)) (hd : o.dst = some d) (hgi : (ops[gi]?).bind (·.dst) = some s) (hs : a1.tmps[s]? = some (.bool want)) (hk : Kp (s + 1) a1 a) (hsd : s + 1 ≤ d) (hN : d < a1.tmps.size)
    (h : (execOp a.eval o).run P w = .ok (.value v) w') (hn : ∀ a', Kp (s + 1) a1 a' → Kp d a a' → a'.tmps[d]? = some v → wpList P ops Q rest a' w') : wpList P ops Q (o :: rest) a w := by
  refine ch_val ((ch_wants hg hgi ((hk.at_ s (by omega)).trans hs)).trans (by cases want <;> rfl)) h ?_
  rw [hd]
  exact hn _ (hk.trans (Kp.put (s := s + 1) a v hsd) (Nat.le_refl _)) (Kp.put (s := d) a v (Nat.le_refl _)) (ch_put_eq (by rw [hk.size]; exact hN))
/-- a part: a field compared with a number -/
theorem ch_cmp {o0 o1 o2 o3 ol : Oper} {b g : Nat} {x y : Operand} {op : BinOp} {ty' : TypeId} {K : Value} (hN : s + 4 < N) (hps : ∀ q ∈ ps, q.1 < s) (hgi : (ops[gi]?).bind (·.dst) = some s)
    (q0 : o0.dst = some s ∧ o0.guard = none ∧ o0.op = .move (.tmp r)) (q1 : o1.dst = some (s + 1) ∧ o1.guard = some (gi, want) ∧ o1.op = .fieldAddr tm (.tmp b) i)
    (q2 : o2.dst = some (s + 2) ∧ o2.guard = some (gi, want) ∧ o2.op = .load ty (.tmp (s + 1))) (q3 : o3.dst = some (s + 3) ∧ o3.guard = some (gi, want) ∧ o3.op = .binOp op ty (.tmp (s + 2)) (.const K) ty')
    (ql : ol.dst = some (s + 4) ∧ ol.guard = none ∧ ol.op = .pick (.tmp s) x y)
    (hxy : (want = true ∧ x = .tmp (s + 3) ∧ y = .const (.bool false)) ∨ (want = false ∧ x = .const (.bool true) ∧ y = .tmp (s + 3)))
    (hb : (b, Value.pointer (some ⟨g, 0, none⟩)) ∈ ps) (hF : ChG wa N ps r c a w)
    (f1 : (Instr.fieldAt tm (.pointer (some ⟨g, 0, none⟩)) i).run P w = .ok (.pointer (some ⟨g, i, none⟩)) w) (l1 : (Instr.loadAt ty (.pointer (some ⟨g, i, none⟩))).run P w = .ok X w)
    (e1 : (eqGuard op ty (.tmp (s + 2)) (.const K) X K).run P w = .ok () w) (e2 : (binOp op ty X K).run P w = .ok (.bool D) w)
    (hn : ∀ a' w', ChG wa N ps (s + 4) (cmb want c D) a' w' → wpList P ops Q rest a' w') : wpList P ops Q (o0 :: o1 :: o2 :: o3 :: ol :: rest) a w := by
  obtain ⟨d1, g1, p1⟩ := q1
  obtain ⟨d2, g2, p2⟩ := q2
  obtain ⟨d3, g3, p3⟩ := q3
  refine ch_grp (l := [o1, o2, o3]) (v := s + 3) (e := s + 4) (by omega) hN (by omega) hps hgi q0 ql hxy ?_ hF ?_ hn
  · intro o ho
    simp only [List.mem_cons, List.not_mem_nil, or_false] at ho
    rcases ho with rfl | rfl | rfl
    · exact ⟨g1, _, d1, by omega⟩
    · exact ⟨g2, _, d2, by omega⟩
    · exact ⟨g3, _, d3, by omega⟩
  · intro a1 h1 hK
    have k0 : Kp (s + 1) a1 a1 := ⟨rfl, rfl, fun _ _ => rfl⟩
    have hsz := h1.size
    refine ch_go g1 d1 hgi h1.r k0 (Nat.le_refl _) (by omega) (ch_field p1 (ch_eval (h1.ps _ hb)) f1) fun a2 m2 _ u2 => ?_
    refine ch_go g2 d2 hgi h1.r m2 (by omega) (by omega) (ch_load p2 (ch_eval u2) l1) fun a3 m3 _ u3 => ?_
    refine ch_go g3 d3 hgi h1.r m3 (by omega) (by omega) (ch_bin p3 (ch_eval u3) rfl e1 e2) fun a4 m4 _ u4 => ?_
    exact hK a4 w m4 u4 (Below.refl _ _)
/-- a part: a field's length compared with a number -/
theorem ch_lenp {o0 o1 o2 o2l o3 ol : Oper} {b g n cp : Nat} {A : Option Addr} {x y : Operand} {op : BinOp} {ti ti' : TypeId} {K : Value} (hN : s + 5 < N) (hps : ∀ q ∈ ps, q.1 < s) (hgi : (ops[gi]?).bind (·.dst) = some s)
    (q0 : o0.dst = some s ∧ o0.guard = none ∧ o0.op = .move (.tmp r)) (q1 : o1.dst = some (s + 1) ∧ o1.guard = some (gi, want) ∧ o1.op = .fieldAddr tm (.tmp b) i)
    (q2 : o2.dst = some (s + 2) ∧ o2.guard = some (gi, want) ∧ o2.op = .load ty (.tmp (s + 1))) (q2l : o2l.dst = some (s + 3) ∧ o2l.guard = some (gi, want))
    (q3 : o3.dst = some (s + 4) ∧ o3.guard = some (gi, want) ∧ o3.op = .binOp op ti (.tmp (s + 3)) (.const K) ti')
    (ql : ol.dst = some (s + 5) ∧ ol.guard = none ∧ ol.op = .pick (.tmp s) x y)
    (hxy : (want = true ∧ x = .tmp (s + 4) ∧ y = .const (.bool false)) ∨ (want = false ∧ x = .const (.bool true) ∧ y = .tmp (s + 4)))
    (hb : (b, Value.pointer (some ⟨g, 0, none⟩)) ∈ ps) (hF : ChG wa N ps r c a w)
    (f1 : (Instr.fieldAt tm (.pointer (some ⟨g, 0, none⟩)) i).run P w = .ok (.pointer (some ⟨g, i, none⟩)) w) (l1 : (Instr.loadAt ty (.pointer (some ⟨g, i, none⟩))).run P w = .ok (.slice A n cp) w)
    (hlen : ∀ a' : Act, a'.eval (.tmp (s + 2)) = .slice A n cp → (execOp a'.eval o2l).run P w = .ok (.value (.int .i64 (n : Int))) w)
    (e1 : (eqGuard op ti (.tmp (s + 3)) (.const K) (.int .i64 (n : Int)) K).run P w = .ok () w) (e2 : (binOp op ti (.int .i64 (n : Int)) K).run P w = .ok (.bool D) w)
    (hn : ∀ a' w', ChG wa N ps (s + 5) (cmb want c D) a' w' → wpList P ops Q rest a' w') : wpList P ops Q (o0 :: o1 :: o2 :: o2l :: o3 :: ol :: rest) a w := by
  obtain ⟨d1, g1, p1⟩ := q1
  obtain ⟨d2, g2, p2⟩ := q2
  obtain ⟨d2l, g2l⟩ := q2l
  obtain ⟨d3, g3, p3⟩ := q3
  refine ch_grp (l := [o1, o2, o2l, o3]) (v := s + 4) (e := s + 5) (by omega) hN (by omega) hps hgi q0 ql hxy ?_ hF ?_ hn
  · intro o ho
    simp only [List.mem_cons, List.not_mem_nil, or_false] at ho
    rcases ho with rfl | rfl | rfl | rfl
    · exact ⟨g1, _, d1, by omega⟩
    · exact ⟨g2, _, d2, by omega⟩
    · exact ⟨g2l, _, d2l, by omega⟩
    · exact ⟨g3, _, d3, by omega⟩
  · intro a1 h1 hK
    have k0 : Kp (s + 1) a1 a1 := ⟨rfl, rfl, fun _ _ => rfl⟩
    have hsz := h1.size
    refine ch_go g1 d1 hgi h1.r k0 (Nat.le_refl _) (by omega) (ch_field p1 (ch_eval (h1.ps _ hb)) f1) fun a2 m2 _ u2 => ?_
    refine ch_go g2 d2 hgi h1.r m2 (by omega) (by omega) (ch_load p2 (ch_eval u2) l1) fun a3 m3 _ u3 => ?_
    refine ch_go g2l d2l hgi h1.r m3 (by omega) (by omega) (hlen a3 (ch_eval u3)) fun a4 m4 _ u4 => ?_
    refine ch_go g3 d3 hgi h1.r m4 (by omega) (by omega) (ch_bin p3 (ch_eval u4) rfl e1 e2) fun a5 m5 _ u5 => ?_
    exact hK a5 w m5 u5 (Below.refl _ _)
/-- the first part: a field compared with a number -/
theorem ch_cmp0 {o1 o2 o3 : Oper} {b g : Nat} {op : BinOp} {ty' : TypeId} {K : Value} (hN : s + 2 < N) (hps : ∀ q ∈ ps, q.1 < s)
    (q1 : o1.dst = some s ∧ o1.guard = none ∧ o1.op = .fieldAddr tm (.tmp b) i)
    (q2 : o2.dst = some (s + 1) ∧ o2.guard = none ∧ o2.op = .load ty (.tmp s)) (q3 : o3.dst = some (s + 2) ∧ o3.guard = none ∧ o3.op = .binOp op ty (.tmp (s + 1)) (.const K) ty')
    (hb : (b, Value.pointer (some ⟨g, 0, none⟩)) ∈ ps) (hsz : a.tmps.size = N) (hd : a.defers = []) (hp : ∀ q ∈ ps, a.tmps[q.1]? = some q.2) (hbl : Below wa.heap.size wa w)
    (f1 : (Instr.fieldAt tm (.pointer (some ⟨g, 0, none⟩)) i).run P w = .ok (.pointer (some ⟨g, i, none⟩)) w) (l1 : (Instr.loadAt ty (.pointer (some ⟨g, i, none⟩))).run P w = .ok X w)
    (e1 : (eqGuard op ty (.tmp (s + 1)) (.const K) X K).run P w = .ok () w) (e2 : (binOp op ty X K).run P w = .ok (.bool D) w)
    (hn : ∀ a', ChG wa N ps (s + 2) D a' w → wpList P ops Q rest a' w) : wpList P ops Q (o1 :: o2 :: o3 :: rest) a w := by
  obtain ⟨d1, g1, p1⟩ := q1
  obtain ⟨d2, g2, p2⟩ := q2
  obtain ⟨d3, g3, p3⟩ := q3
  refine ch_val (ch_free g1) (ch_field p1 (ch_eval (hp _ hb)) f1) ?_
  rw [d1]
  have m1 := Kp.put (s := s) a (.pointer (some ⟨g, i, none⟩)) (Nat.le_refl _)
  have u1 : (a.put (some s) (.pointer (some ⟨g, i, none⟩))).tmps[s]? = some (.pointer (some ⟨g, i, none⟩)) := ch_put_eq (by omega)
  generalize a.put (some s) (.pointer (some ⟨g, i, none⟩)) = a2 at m1 u1 ⊢
  refine ch_val (ch_free g2) (ch_load p2 (ch_eval u1) l1) ?_
  rw [d2]
  have m2 := m1.trans (Kp.put (s := s) a2 X (show s ≤ s + 1 by omega)) (Nat.le_refl _)
  have u2 : (a2.put (some (s + 1)) X).tmps[s + 1]? = some X := ch_put_eq (by rw [m1.size]; omega)
  generalize a2.put (some (s + 1)) X = a3 at m2 u2 ⊢
  refine ch_val (ch_free g3) (ch_bin p3 (ch_eval u2) rfl e1 e2) ?_
  rw [d3]
  have m3 := m2.trans (Kp.put (s := s) a3 (.bool D) (show s ≤ s + 2 by omega)) (Nat.le_refl _)
  exact hn _ ⟨m3.size.trans hsz, m3.d.trans hd, fun q hq => (m3.at_ q.1 (hps q hq)).trans (hp q hq), ch_put_eq (by rw [m2.size]; omega), hbl⟩
end
end Go.Proofs.Ytlfkgpllleogoaa

