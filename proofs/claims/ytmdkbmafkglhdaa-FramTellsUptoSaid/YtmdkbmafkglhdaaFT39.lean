/- ChainKit2 MachRefE -/
import Derived.Test.YtmdkbmafkglhdaaFT11
import Derived.Test.YtmdkbmafkglhdaaFT12
import Derived.Test.YtmdkbmafkglhdaaFT16
import Derived.Test.YtmdkbmafkglhdaaFT30
import Derived.Deep.RegionHeld3
import Derived.Deep.RegionLaw
namespace Go.Proofs.Ytmdkbmafkglhdaa
open Go.RowKit
set_option linter.unusedVariables false
/-- what '&&' (want true) and '||' (want false) come to -/
def cmb (want c D : Bool) : Bool := if want then c && D else c || D
structure ChG (wa : World) (N : Nat) (ps : List (Nat × Value)) (r : Nat) (c : Bool) (a : Act) (w : World) : Prop where
  size : a.tmps.size = N
  d : a.defers = []
  ps : ∀ q ∈ ps, a.tmps[q.1]? = some q.2
  r : a.tmps[r]? = some (.bool c)
  b : Below wa.heap.size wa w
theorem ChG.next {wa w w' : World} {N r s t : Nat} {ps : List (Nat × Value)} {c c' : Bool} {a a' : Act} (h : ChG wa N ps r c a w) (hk : Kp s a a') (hs : ∀ q ∈ ps, q.1 < s) (ht : a'.tmps[t]? = some (.bool c')) (hb : Below w.heap.size w w') : ChG wa N ps t c' a' w' :=
  ⟨hk.size.trans h.size, hk.d.trans h.d, fun q hq => (hk.at_ q.1 (hs q hq)).trans (h.ps q hq), ht, h.b.trans (hb.mono h.b.size)⟩
section
variable {P : Program} {ops : Array Oper} {Q : Exit → Act → World → Prop} {a : Act} {w wa : World} {rest : List Oper} {N r s gi i : Nat} {ps : List (Nat × Value)} {want c D : Bool} {X Y : Value} {tm ty : TypeId}
theorem ch_wants {o : Oper} {j s : Nat} (hg : o.guard = some (j, want)) (hd : (ops[j]?).bind (·.dst) = some s) (hs : a.tmps[s]? = some (.bool c)) : Region.wanted o (yielded ops a.tmps) = (c == want) := by
  unfold Region.wanted yielded
  rw [hg]
  simp only [hd, Option.bind_some, hs]
  cases c <;> cases want <;> rfl
theorem ch_skips {l : List Oper} (hne : (c == want) = false) (hl : ∀ o ∈ l, o.guard = some (gi, want) ∧ ∃ d, o.dst = some d ∧ s < d) (hgi : (ops[gi]?).bind (·.dst) = some s) (hs : a.tmps[s]? = some (.bool c))
    (hn : ∀ a', Kp (s + 1) a a' → wpList P ops Q rest a' w) : wpList P ops Q (l ++ rest) a w := by
  induction l generalizing a with
  | nil => exact hn a ⟨rfl, rfl, fun _ _ => rfl⟩
  | cons o l ih =>
    obtain ⟨hg, d, hd, hlt⟩ := hl o (by simp)
    refine ch_no ((ch_wants hg hgi hs).trans hne) ?_
    rw [hd]
    have k := Kp.put (s := s + 1) a undef (show s + 1 ≤ d by omega)
    exact ih (fun o ho => hl o (by simp [ho])) ((k.at_ s (by omega)).trans hs) fun a' h => hn a' (k.trans h (Nat.le_refl _))
/-- one part -/
theorem ch_grp {o0 ol : Oper} {l : List Oper} {v e : Nat} {x y : Operand} (hN : s < N) (he : e < N) (hse : s < e) (hps : ∀ q ∈ ps, q.1 < s) (hgi : (ops[gi]?).bind (·.dst) = some s)
    (q0 : o0.dst = some s ∧ o0.guard = none ∧ o0.op = .move (.tmp r)) (ql : ol.dst = some e ∧ ol.guard = none ∧ ol.op = .pick (.tmp s) x y)
    (hxy : (want = true ∧ x = .tmp v ∧ y = .const (.bool false)) ∨ (want = false ∧ x = .const (.bool true) ∧ y = .tmp v))
    (hl : ∀ o ∈ l, o.guard = some (gi, want) ∧ ∃ d, o.dst = some d ∧ s < d) (hF : ChG wa N ps r c a w)
    (hrun : ∀ a1, ChG wa N ps s want a1 w → (∀ a' w', Kp (s + 1) a1 a' → a'.tmps[v]? = some (.bool D) → Below w.heap.size w w' → wpList P ops Q (ol :: rest) a' w') → wpList P ops Q (l ++ ol :: rest) a1 w)
    (hn : ∀ a' w', ChG wa N ps e (cmb want c D) a' w' → wpList P ops Q rest a' w') : wpList P ops Q (o0 :: (l ++ ol :: rest)) a w := by
  obtain ⟨d0, g0, p0⟩ := q0
  obtain ⟨d6, g6, p6⟩ := ql
  have hsz := hF.size
  refine ch_val (ch_free g0) (ch_move p0 (ch_eval hF.r)) ?_
  rw [d0]
  have k1 := Kp.put (s := s) a (.bool c) (Nat.le_refl _)
  have v1 : (a.put (some s) (.bool c)).tmps[s]? = some (.bool c) := ch_put_eq (by omega)
  generalize a.put (some s) (.bool c) = a1 at k1 v1 ⊢
  have h1 : ChG wa N ps s c a1 w := hF.next k1 hps v1 (Below.refl _ _)
  have hps1 : ∀ q ∈ ps, q.1 < s + 1 := fun q hq => Nat.lt_succ_of_lt (hps q hq)
  cases hcw : (c == want) with
  | false =>
    refine ch_skips hcw hl hgi v1 fun a' hk => ?_
    have hv := (hk.at_ s (by omega)).trans v1
    refine ch_val (ch_free g6) (ch_pick p6 (ch_eval hv)) ?_
    rw [d6]
    have hval : (if c = true then a'.eval x else a'.eval y) = .bool (cmb want c D) := by
      rcases hxy with ⟨rfl, rfl, rfl⟩ | ⟨rfl, rfl, rfl⟩ <;> cases c <;> first | rfl | cases hcw
    rw [hval]
    have k6 := Kp.put (s := s + 1) a' (.bool (cmb want c D)) (show s + 1 ≤ e by omega)
    exact hn _ _ (h1.next (hk.trans k6 (Nat.le_refl _)) hps1 (ch_put_eq (by rw [hk.size, h1.size]; exact he)) (Below.refl _ _))
  | true =>
    have hc : c = want := by simpa using hcw
    subst hc
    refine hrun a1 h1 fun a' w' hk hvv hb => ?_
    have hv := (hk.at_ s (by omega)).trans v1
    refine ch_val (ch_free g6) (ch_pick p6 (ch_eval hv)) ?_
    rw [d6]
    have hval : (if c = true then a'.eval x else a'.eval y) = .bool (cmb c c D) := by
      rcases hxy with ⟨rfl, rfl, rfl⟩ | ⟨rfl, rfl, rfl⟩
      · rw [if_pos rfl, ch_eval hvv]; rfl
      · rw [if_neg (by decide), ch_eval hvv]; rfl
    rw [hval]
    have k6 := Kp.put (s := s + 1) a' (.bool (cmb c c D)) (show s + 1 ≤ e by omega)
    exact hn _ _ (h1.next (hk.trans k6 (Nat.le_refl _)) hps1 (ch_put_eq (by rw [hk.size, h1.size]; exact he)) hb)
/-- an operation of such a part, wanted -/
theorem ch_go {o : Oper} {a1 : Act} {d : Nat} {v : Value} {w' : World} (hg : o.guard = some (gi, want)) (hd : o.dst = some d) (hgi : (ops[gi]?).bind (·.dst) = some s) (hs : a1.tmps[s]? = some (.bool want)) (hk : Kp (s + 1) a1 a) (hsd : s + 1 ≤ d) (hN : d < a1.tmps.size)
    (h : (execOp a.eval o).run P w = .ok (.value v) w') (hn : ∀ a', Kp (s + 1) a1 a' → Kp d a a' → a'.tmps[d]? = some v → wpList P ops Q rest a' w') : wpList P ops Q (o :: rest) a w := by
  refine ch_val ((ch_wants hg hgi ((hk.at_ s (by omega)).trans hs)).trans (by cases want <;> rfl)) h ?_
  rw [hd]
  exact hn _ (hk.trans (Kp.put (s := s + 1) a v hsd) (Nat.le_refl _)) (Kp.put (s := d) a v (Nat.le_refl _)) (ch_put_eq (by rw [hk.size]; exact hN))
/-- a part: a field compared with a number -/
theorem ch_cmp {o0 o1 o2 o3 ol : Oper} {b g : Nat} {x y : Operand} {op : BinOp} {ty' : TypeId} {K : Value} (hN : s + 4 < N) (hps : ∀ q ∈ ps, q.1 < s) (hgi : (ops[gi]?).bind (·.dst) = some s)
    (q0 : o0.dst = some s ∧ o0.guard = none ∧ o0.op = .move (.tmp r)) (q1 : o1.dst = some (s + 1) ∧ o1.guard = some (gi, want) ∧ o1.op = .fieldAddr tm (.tmp b) i)
    (q2 : o2.dst = some (s + 2) ∧ o2.guard = some (gi, want) ∧ o2.op = .load ty (.tmp (s + 1))) (q3 : o3.dst = some (s + 3) ∧ o3.guard = some (gi, want) ∧ o3.op = .binOp op ty (.tmp (s + 2)) (.const K) ty')
    (ql : ol.dst = some (s + 4) ∧ ol.guard = none ∧ ol.op = .pick (.tmp s) x y)
    (hxy : (want = true ∧ x = .tmp (s + 3) ∧ y = .const (.bool false)) ∨ (want = false ∧ x = .const (.bool true) ∧ y = .tmp (s + 3)))
    (hb : (b, Value.pointer (some ⟨g, 0, none⟩)) ∈ ps) (hF : ChG wa N ps r c a w)
    (f1 : (Instr.fieldAt tm (.pointer (some ⟨g, 0, none⟩)) i).run P w = .ok (.pointer (some ⟨g, i, none⟩)) w) (l1 : (Instr.loadAt ty (.pointer (some ⟨g, i, none⟩))).run P w = .ok X w)
    (e1 : (eqGuard op ty (.tmp (s + 2)) (.const K) X K).run P w = .ok () w) (e2 : (binOp op ty X K).run P w = .ok (.bool D) w)
    (hn : ∀ a' w', ChG wa N ps (s + 4) (cmb want c D) a' w' → wpList P ops Q rest a' w') : wpList P ops Q (o0 :: o1 :: o2 :: o3 :: ol :: rest) a w := by
  obtain ⟨d1, g1, p1⟩ := q1
  obtain ⟨d2, g2, p2⟩ := q2
  obtain ⟨d3, g3, p3⟩ := q3
  refine ch_grp (l := [o1, o2, o3]) (v := s + 3) (e := s + 4) (by omega) hN (by omega) hps hgi q0 ql hxy ?_ hF ?_ hn
  · intro o ho
    simp only [List.mem_cons, List.not_mem_nil, or_false] at ho
    rcases ho with rfl | rfl | rfl
    · exact ⟨g1, _, d1, by omega⟩
    · exact ⟨g2, _, d2, by omega⟩
    · exact ⟨g3, _, d3, by omega⟩
  · intro a1 h1 hK
    have k0 : Kp (s + 1) a1 a1 := ⟨rfl, rfl, fun _ _ => rfl⟩
    have hsz := h1.size
    refine ch_go g1 d1 hgi h1.r k0 (Nat.le_refl _) (by omega) (ch_field p1 (ch_eval (h1.ps _ hb)) f1) fun a2 m2 _ u2 => ?_
    refine ch_go g2 d2 hgi h1.r m2 (by omega) (by omega) (ch_load p2 (ch_eval u2) l1) fun a3 m3 _ u3 => ?_
    refine ch_go g3 d3 hgi h1.r m3 (by omega) (by omega) (ch_bin p3 (ch_eval u3) rfl e1 e2) fun a4 m4 _ u4 => ?_
    exact hK a4 w m4 u4 (Below.refl _ _)
/-- a part: a field's length compared with a number -/
theorem ch_lenp {o0 o1 o2 o2l o3 ol : Oper} {b g n cp : Nat} {A : Option Addr} {x y : Operand} {op : BinOp} {ti ti' : TypeId} {K : Value} (hN : s + 5 < N) (hps : ∀ q ∈ ps, q.1 < s) (hgi : (ops[gi]?).bind (·.dst) = some s)
    (q0 : o0.dst = some s ∧ o0.guard = none ∧ o0.op = .move (.tmp r)) (q1 : o1.dst = some (s + 1) ∧ o1.guard = some (gi, want) ∧ o1.op = .fieldAddr tm (.tmp b) i)
    (q2 : o2.dst = some (s + 2) ∧ o2.guard = some (gi, want) ∧ o2.op = .load ty (.tmp (s + 1))) (q2l : o2l.dst = some (s + 3) ∧ o2l.guard = some (gi, want))
    (q3 : o3.dst = some (s + 4) ∧ o3.guard = some (gi, want) ∧ o3.op = .binOp op ti (.tmp (s + 3)) (.const K) ti')
    (ql : ol.dst = some (s + 5) ∧ ol.guard = none ∧ ol.op = .pick (.tmp s) x y)
    (hxy : (want = true ∧ x = .tmp (s + 4) ∧ y = .const (.bool false)) ∨ (want = false ∧ x = .const (.bool true) ∧ y = .tmp (s + 4)))
    (hb : (b, Value.pointer (some ⟨g, 0, none⟩)) ∈ ps) (hF : ChG wa N ps r c a w)
    (f1 : (Instr.fieldAt tm (.pointer (some ⟨g, 0, none⟩)) i).run P w = .ok (.pointer (some ⟨g, i, none⟩)) w) (l1 : (Instr.loadAt ty (.pointer (some ⟨g, i, none⟩))).run P w = .ok (.slice A n cp) w)
    (hlen : ∀ a' : Act, a'.eval (.tmp (s + 2)) = .slice A n cp → (execOp a'.eval o2l).run P w = .ok (.value (.int .i64 (n : Int))) w)
    (e1 : (eqGuard op ti (.tmp (s + 3)) (.const K) (.int .i64 (n : Int)) K).run P w = .ok () w) (e2 : (binOp op ti (.int .i64 (n : Int)) K).run P w = .ok (.bool D) w)
    (hn : ∀ a' w', ChG wa N ps (s + 5) (cmb want c D) a' w' → wpList P ops Q rest a' w') : wpList P ops Q (o0 :: o1 :: o2 :: o2l :: o3 :: ol :: rest) a w := by
  obtain ⟨d1, g1, p1⟩ := q1
  obtain ⟨d2, g2, p2⟩ := q2
  obtain ⟨d2l, g2l⟩ := q2l
  obtain ⟨d3, g3, p3⟩ := q3
  refine ch_grp (l := [o1, o2, o2l, o3]) (v := s + 4) (e := s + 5) (by omega) hN (by omega) hps hgi q0 ql hxy ?_ hF ?_ hn
  · intro o ho
    simp only [List.mem_cons, List.not_mem_nil, or_false] at ho
    rcases ho with rfl | rfl | rfl | rfl
    · exact ⟨g1, _, d1, by omega⟩
    · exact ⟨g2, _, d2, by omega⟩
    · exact ⟨g2l, _, d2l, by omega⟩
    · exact ⟨g3, _, d3, by omega⟩
  · intro a1 h1 hK
    have k0 : Kp (s + 1) a1 a1 := ⟨rfl, rfl, fun _ _ => rfl⟩
    have hsz := h1.size
    refine ch_go g1 d1 hgi h1.r k0 (Nat.le_refl _) (by omega) (ch_field p1 (ch_eval (h1.ps _ hb)) f1) fun a2 m2 _ u2 => ?_
    refine ch_go g2 d2 hgi h1.r m2 (by omega) (by omega) (ch_load p2 (ch_eval u2) l1) fun a3 m3 _ u3 => ?_
    refine ch_go g2l d2l hgi h1.r m3 (by omega) (by omega) (hlen a3 (ch_eval u3)) fun a4 m4 _ u4 => ?_
    refine ch_go g3 d3 hgi h1.r m4 (by omega) (by omega) (ch_bin p3 (ch_eval u4) rfl e1 e2) fun a5 m5 _ u5 => ?_
    exact hK a5 w m5 u5 (Below.refl _ _)
/-- the first part: a field compared with a number -/
theorem ch_cmp0 {o1 o2 o3 : Oper} {b g : Nat} {op : BinOp} {ty' : TypeId} {K : Value} (hN : s + 2 < N) (hps : ∀ q ∈ ps, q.1 < s)
    (q1 : o1.dst = some s ∧ o1.guard = none ∧ o1.op = .fieldAddr tm (.tmp b) i)
    (q2 : o2.dst = some (s + 1) ∧ o2.guard = none ∧ o2.op = .load ty (.tmp s)) (q3 : o3.dst = some (s + 2) ∧ o3.guard = none ∧ o3.op = .binOp op ty (.tmp (s + 1)) (.const K) ty')
    (hb : (b, Value.pointer (some ⟨g, 0, none⟩)) ∈ ps) (hsz : a.tmps.size = N) (hd : a.defers = []) (hp : ∀ q ∈ ps, a.tmps[q.1]? = some q.2) (hbl : Below wa.heap.size wa w)
    (f1 : (Instr.fieldAt tm (.pointer (some ⟨g, 0, none⟩)) i).run P w = .ok (.pointer (some ⟨g, i, none⟩)) w) (l1 : (Instr.loadAt ty (.pointer (some ⟨g, i, none⟩))).run P w = .ok X w)
    (e1 : (eqGuard op ty (.tmp (s + 1)) (.const K) X K).run P w = .ok () w) (e2 : (binOp op ty X K).run P w = .ok (.bool D) w)
    (hn : ∀ a', ChG wa N ps (s + 2) D a' w → wpList P ops Q rest a' w) : wpList P ops Q (o1 :: o2 :: o3 :: rest) a w := by
  obtain ⟨d1, g1, p1⟩ := q1
  obtain ⟨d2, g2, p2⟩ := q2
  obtain ⟨d3, g3, p3⟩ := q3
  refine ch_val (ch_free g1) (ch_field p1 (ch_eval (hp _ hb)) f1) ?_
  rw [d1]
  have m1 := Kp.put (s := s) a (.pointer (some ⟨g, i, none⟩)) (Nat.le_refl _)
  have u1 : (a.put (some s) (.pointer (some ⟨g, i, none⟩))).tmps[s]? = some (.pointer (some ⟨g, i, none⟩)) := ch_put_eq (by omega)
  generalize a.put (some s) (.pointer (some ⟨g, i, none⟩)) = a2 at m1 u1 ⊢
  refine ch_val (ch_free g2) (ch_load p2 (ch_eval u1) l1) ?_
  rw [d2]
  have m2 := m1.trans (Kp.put (s := s) a2 X (show s ≤ s + 1 by omega)) (Nat.le_refl _)
  have u2 : (a2.put (some (s + 1)) X).tmps[s + 1]? = some X := ch_put_eq (by rw [m1.size]; omega)
  generalize a2.put (some (s + 1)) X = a3 at m2 u2 ⊢
  refine ch_val (ch_free g3) (ch_bin p3 (ch_eval u2) rfl e1 e2) ?_
  rw [d3]
  have m3 := m2.trans (Kp.put (s := s) a3 (.bool D) (show s ≤ s + 2 by omega)) (Nat.le_refl _)
  exact hn _ ⟨m3.size.trans hsz, m3.d.trans hd, fun q hq => (m3.at_ q.1 (hps q hq)).trans (hp q hq), ch_put_eq (by rw [m2.size]; omega), hbl⟩
end
end Go.Proofs.Ytmdkbmafkglhdaa

namespace Go.Proofs.Ytmdkbmafkglhdaa
open Go.RowKit
set_option linter.unusedVariables false
theorem refput_in {W w : World} {l : List Nat} {A : Option Addr} {n c B : Nat} {N : Int} {l' : List Nat} (he : l ++ Pk.enc (Pk.held N) = l') (hn : Lim 20 n) (hr : Rd w B A n (bv l)) (hB : Below W.heap.size W w) :
    Calls Try.prog 46 #[.slice A n c, .int .i64 N] w (GotIn W w l') := by
  subst he
  exact (refnum_any l A n c B N hn w hr).mono fun e w' h => GotIn.of hB h
theorem refputb_in {W w : World} {l x : List Nat} {A : Option Addr} {n c B : Nat} {A' : Option Addr} {n' c' B' : Nat} {l' : List Nat} (he : l ++ Pk.encB x = l') (hr : Rd w B A n (bv l)) (hr' : Rd w B' A' n' (bv x)) (hn : Lim 20 (l.length + x.length)) (hB : Below W.heap.size W w) :
    Calls Try.prog 25 #[.slice A n c, .slice A' n' c'] w (GotIn W w l') := by
  subst he
  have h1 := hr.length
  have h2 := hr'.length
  have h3 := hn.out
  exact (refbytes_any l x A n c B A' n' c' B' (by unfold Lim; omega) (by unfold Lim; omega) (by unfold Lim; omega) w hr hr').mono fun e w' h => GotIn.of hB h
theorem len_num {l l' : List Nat} {k : Nat} {N : Int} (he : l ++ Pk.enc (Pk.held N) = l') (h : l.length ≤ k) : l'.length ≤ k + 9 := by
  subst he
  have := (Pk.enc_length (Pk.held N)).2; simp; omega
theorem len_byt {l l' x : List Nat} {k : Nat} (he : l ++ Pk.encB x = l') (h : l.length ≤ k) : l'.length ≤ k + 9 + x.length := by
  subst he
  have := encB_length x; simp; omega
set_option maxHeartbeats 4000000 in
set_option maxRecDepth 100000 in
theorem refPutEntry_raw {w : World} {l : List Nat} {A : Option Addr} {n c B : Nat} {ca : CA} {e : En} {B' : Nat} (hl : l.length ≤ 1000000) (hc : e.c.Fits) (h : Rd w B A n (bv l)) (h' : RdC w B' ca e.c) :
    Calls Try.prog 26 #[.slice A n c, entV ca e] w (GotIn w w (l ++ e.enc)) := by
  obtain ⟨Ak, ck, Av, cv, Ao, co⟩ := ca
  have hn : l.length = n := by have := h.length; simpa using this
  subst hn
  have b0 : Below w.heap.size w (w.alloc (.cells #[.int .i64 e.s, .int .i64 e.q, .int .i64 e.c.kind, .int .i64 e.c.who, .slice Ak e.c.key.length ck, .slice Av e.c.val.length cv, .slice Ao e.c.old.length co] 27)) := (Below.refl _ _).alloc (Nat.le_refl _) _
  have HL := Lib.hid hl
  have hend : Hid (l ++ e.enc = ((((((l ++ Pk.enc (Pk.held e.s)) ++ Pk.enc (Pk.held e.q)) ++ Pk.enc (Pk.held e.c.kind)) ++ Pk.enc (Pk.held e.c.who)) ++ Pk.encB e.c.key) ++ Pk.encB e.c.val) ++ Pk.encB e.c.old) := Lib.hid (by unfold En.enc; simp only [List.append_assoc])
  obtain ⟨l2, e2⟩ : ∃ x, l ++ Pk.enc (Pk.held e.s) = x := ⟨_, rfl⟩
  obtain ⟨l3, e3⟩ : ∃ x, l2 ++ Pk.enc (Pk.held e.q) = x := ⟨_, rfl⟩
  obtain ⟨l4, e4⟩ : ∃ x, l3 ++ Pk.enc (Pk.held e.c.kind) = x := ⟨_, rfl⟩
  obtain ⟨l5, e5⟩ : ∃ x, l4 ++ Pk.enc (Pk.held e.c.who) = x := ⟨_, rfl⟩
  obtain ⟨l7, e7⟩ : ∃ x, l5 ++ Pk.encB e.c.key = x := ⟨_, rfl⟩
  obtain ⟨l8, e8⟩ : ∃ x, l7 ++ Pk.encB e.c.val = x := ⟨_, rfl⟩
  obtain ⟨l9, e9⟩ : ∃ x, l8 ++ Pk.encB e.c.old = x := ⟨_, rfl⟩
  rw [e2, e3, e4, e5, e7, e8, e9] at hend
  have E2 := Lib.hid e2
  have E3 := Lib.hid e3
  have E4 := Lib.hid e4
  have E5 := Lib.hid e5
  have E7 := Lib.hid e7
  have E8 := Lib.hid e8
  have E9 := Lib.hid e9
  clear e2 e3 e4 e5 e7 e8 e9
  have HF := Lib.hid hc
  have HK := Lib.hid (Blk.new w 27 #[.int .i64 e.s, .int .i64 e.q, .int .i64 e.c.kind, .int .i64 e.c.who, .slice Ak e.c.key.length ck, .slice Av e.c.val.length cv, .slice Ao e.c.old.length co])
  have HR := Lib.hid (h.fit.below b0)
  have HC := Lib.hid (h'.fit.below b0)
  have HB := Lib.hid b0
  clear h h' hl hc b0
  unfold entV entC
  go_enter Try.func26, Try.ntmps26
  go_upto_region 1 with fail
  generalize w.alloc (.cells #[.int .i64 e.s, .int .i64 e.q, .int .i64 e.c.kind, .int .i64 e.c.who, .slice Ak e.c.key.length ck, .slice Av e.c.val.length cv, .slice Ao e.c.old.length co] 27) = wa at HK HR HC HB ⊢
  obtain ⟨x0, x1, x2, x3, x4, x5, x6⟩ := seven HK.out
  refine wp_region_held_drew (S := fun w' => Blk w' w.heap.size 27 #[.int .i64 e.s, .int .i64 e.q, .int .i64 e.c.kind, .int .i64 e.c.who, .slice Ak e.c.key.length ck, .slice Av e.c.val.length cv, .slice Ao e.c.old.length co]) (by kernel_rfl) HK.out.drew (fun _ => ?_)
  have hbd : Below wa.heap.size wa wa.drew := (Below.refl _ _).drew
  have HS := Lib.hid (HK.out.below hbd)
  have HR1 := Lib.hid (HR.out.drew)
  have HC1 := Lib.hid (HC.out.fit.below hbd).fit
  have HB1 := Lib.hid (HB.out.drew)
  clear hbd HK HR HC HB x0 x1 x2 x3 x4 x5 x6
  generalize wa.drew = w1 at HS HR1 HC1 HB1 ⊢
  have len1 := HL
  refine wpAnyH_take (i := 0) (v := .slice A l.length c) rfl (by kernel_rfl) (by kernel_rfl) (by kernel_rfl) (fun _ _ _ h => h) (Or.inl ⟨by kernel_rfl, fun w _ => by go_simp⟩) HS.out ?_
  refine wpAnyH_take (i := 1) (v := .pointer (some ⟨w.heap.size, 0, none⟩)) rfl (by kernel_rfl) (by kernel_rfl) (by kernel_rfl) (fun _ _ _ h => h) (Or.inl ⟨by kernel_rfl, fun w _ => by go_simp⟩) HS.out ?_
  refine wpAnyH_take (i := 4) (v := .pointer (some ⟨w.heap.size, 1, none⟩)) rfl (by kernel_rfl) (by kernel_rfl) (by kernel_rfl) (fun _ _ _ h => h) (Or.inl ⟨by kernel_rfl, fun w _ => by go_simp⟩) HS.out ?_
  refine wpAnyH_take (i := 7) (v := .pointer (some ⟨w.heap.size, 2, none⟩)) rfl (by kernel_rfl) (by kernel_rfl) (by kernel_rfl) (fun _ _ _ h => h) (Or.inl ⟨by kernel_rfl, fun w _ => by go_simp⟩) HS.out ?_
  refine wpAnyH_take (i := 8) (v := .pointer (some ⟨w.heap.size, 2, none⟩)) rfl (by kernel_rfl) (by kernel_rfl) (by kernel_rfl) (fun _ _ _ h => h) (Or.inl ⟨by kernel_rfl, fun w _ => by go_simp⟩) HS.out ?_
  refine wpAnyH_take (i := 11) (v := .pointer (some ⟨w.heap.size, 2, none⟩)) rfl (by kernel_rfl) (by kernel_rfl) (by kernel_rfl) (fun _ _ _ h => h) (Or.inl ⟨by kernel_rfl, fun w _ => by go_simp⟩) HS.out ?_
  refine wpAnyH_take (i := 12) (v := .pointer (some ⟨w.heap.size, 3, none⟩)) rfl (by kernel_rfl) (by kernel_rfl) (by kernel_rfl) (fun _ _ _ h => h) (Or.inl ⟨by kernel_rfl, fun w _ => by go_simp⟩) HS.out ?_
  refine wpAnyH_take (i := 2) (v := .int .i64 e.s) rfl (by kernel_rfl) (by kernel_rfl) (by kernel_rfl) (fun _ _ _ h => h) (Or.inl ⟨by kernel_rfl, fun w h => by obtain ⟨q0, q1, q2, q3, q4, q5, q6⟩ := seven h; go_simp⟩) HS.out ?_
  refine wpAnyH_take (i := 5) (v := .int .i64 e.q) rfl (by kernel_rfl) (by kernel_rfl) (by kernel_rfl) (fun _ _ _ h => h) (Or.inl ⟨by kernel_rfl, fun w h => by obtain ⟨q0, q1, q2, q3, q4, q5, q6⟩ := seven h; go_simp⟩) HS.out ?_
  refine wpAnyH_take (i := 9) (v := .int .i64 e.c.kind) rfl (by kernel_rfl) (by kernel_rfl) (by kernel_rfl) (fun _ _ _ h => h) (Or.inl ⟨by kernel_rfl, fun w h => by obtain ⟨q0, q1, q2, q3, q4, q5, q6⟩ := seven h; go_simp⟩) HS.out ?_
  refine wpAnyH_take (i := 13) (v := .int .i64 e.c.who) rfl (by kernel_rfl) (by kernel_rfl) (by kernel_rfl) (fun _ _ _ h => h) (Or.inl ⟨by kernel_rfl, fun w h => by obtain ⟨q0, q1, q2, q3, q4, q5, q6⟩ := seven h; go_simp⟩) HS.out ?_
  refine wpAnyH_ready (rs := [3]) (by kernel_rfl) (by simp) ?_
  refine AllReadyH.cons rfl (fun K hK => ?_) AllReadyH.nil
  go_simp
  refine (refput_in (W := w) E2.out (by have := len1.out; unfold Lim; omega) HR1.out HB1.out).mono ?_
  rintro en w2 ⟨A2, c2, rfl, ho2, hB2, hb2⟩
  have HS := Lib.hid (HS.out.below hb2)
  have HC2 := Lib.hid (HC1.out.below' hb2)
  have HB2 := Lib.hid hB2
  have HO2 := Lib.hid ho2
  have len2 := Lib.hid (len_num E2.out len1.out)
  clear hb2 hB2 ho2
  go_simp
  refine hK.out _ _ HS.out (fun _ => ?_)
  clear hK K
  refine wpAnyH_ready (rs := [6]) (by kernel_rfl) (by simp) ?_
  refine AllReadyH.cons rfl (fun K hK => ?_) AllReadyH.nil
  go_simp
  refine (refput_in (W := w) E3.out (by have := len2.out; unfold Lim; omega) (Rd.own_ HO2.out) HB2.out).mono ?_
  rintro en w3 ⟨A3, c3, rfl, ho3, hB3, hb3⟩
  have HS := Lib.hid (HS.out.below hb3)
  have HC3 := Lib.hid (HC2.out.below' hb3)
  have HB3 := Lib.hid hB3
  have HO3 := Lib.hid ho3
  have len3 := Lib.hid (len_num E3.out len2.out)
  clear hb3 hB3 ho3
  go_simp
  refine hK.out _ _ HS.out (fun _ => ?_)
  clear hK K
  refine wpAnyH_ready (rs := [10]) (by kernel_rfl) (by simp) ?_
  refine AllReadyH.cons rfl (fun K hK => ?_) AllReadyH.nil
  go_simp
  refine (refput_in (W := w) E4.out (by have := len3.out; unfold Lim; omega) (Rd.own_ HO3.out) HB3.out).mono ?_
  rintro en w4 ⟨A4, c4, rfl, ho4, hB4, hb4⟩
  have HS := Lib.hid (HS.out.below hb4)
  have HC4 := Lib.hid (HC3.out.below' hb4)
  have HB4 := Lib.hid hB4
  have HO4 := Lib.hid ho4
  have len4 := Lib.hid (len_num E4.out len3.out)
  clear hb4 hB4 ho4
  go_simp
  refine hK.out _ _ HS.out (fun _ => ?_)
  clear hK K
  refine wpAnyH_ready (rs := [14]) (by kernel_rfl) (by simp) ?_
  refine AllReadyH.cons rfl (fun K hK => ?_) AllReadyH.nil
  go_simp
  refine (refput_in (W := w) E5.out (by have := len4.out; unfold Lim; omega) (Rd.own_ HO4.out) HB4.out).mono ?_
  rintro en w5 ⟨A5, c5, rfl, ho5, hB5, hb5⟩
  have HS := Lib.hid (HS.out.below hb5)
  have HC5 := Lib.hid (HC4.out.below' hb5)
  have HB5 := Lib.hid hB5
  have HO5 := Lib.hid ho5
  have len5 := Lib.hid (len_num E5.out len4.out)
  clear hb5 hB5 ho5
  go_simp
  refine hK.out _ _ HS.out (fun _ => ?_)
  clear hK K
  refine wpAnyH_ready (rs := [15]) (by kernel_rfl) (by simp) ?_
  refine AllReadyH.cons rfl (fun K hK => ?_) AllReadyH.nil
  go_simp
  refine hK.out _ _ HS.out (fun _ => ?_)
  clear hK K
  refine wpAnyH_done (by kernel_rfl) ?_ _
  go_upto_region 2 with fail
  refine wp_region_held_drew (S := fun w' => Blk w' w.heap.size 27 #[.int .i64 e.s, .int .i64 e.q, .int .i64 e.c.kind, .int .i64 e.c.who, .slice Ak e.c.key.length ck, .slice Av e.c.val.length cv, .slice Ao e.c.old.length co]) (by kernel_rfl) HS.out.drew (fun _ => ?_)
  have hbd : Below w5.heap.size w5 w5.drew := (Below.refl _ _).drew
  have HS := Lib.hid (HS.out.below hbd)
  have HC6 := Lib.hid (HC5.out.below' hbd)
  have HB6 := Lib.hid (HB5.out.drew)
  have HO6 := Lib.hid (own_below HO5.out hbd)
  have len6 := len5
  clear hbd HB5 HO5 HC5 len5
  generalize w5.drew = w6 at HS HC6 HB6 HO6 ⊢
  refine wpAnyH_take (i := 0) (v := .slice A5 l5.length c5) rfl (by kernel_rfl) (by kernel_rfl) (by kernel_rfl) (fun _ _ _ h => h) (Or.inl ⟨by kernel_rfl, fun w _ => by go_simp⟩) HS.out ?_
  refine wpAnyH_take (i := 1) (v := .pointer (some ⟨w.heap.size, 2, none⟩)) rfl (by kernel_rfl) (by kernel_rfl) (by kernel_rfl) (fun _ _ _ h => h) (Or.inl ⟨by kernel_rfl, fun w _ => by go_simp⟩) HS.out ?_
  refine wpAnyH_take (i := 2) (v := .pointer (some ⟨w.heap.size, 4, none⟩)) rfl (by kernel_rfl) (by kernel_rfl) (by kernel_rfl) (fun _ _ _ h => h) (Or.inl ⟨by kernel_rfl, fun w _ => by go_simp⟩) HS.out ?_
  refine wpAnyH_take (i := 5) (v := .pointer (some ⟨w.heap.size, 2, none⟩)) rfl (by kernel_rfl) (by kernel_rfl) (by kernel_rfl) (fun _ _ _ h => h) (Or.inl ⟨by kernel_rfl, fun w _ => by go_simp⟩) HS.out ?_
  refine wpAnyH_take (i := 6) (v := .pointer (some ⟨w.heap.size, 5, none⟩)) rfl (by kernel_rfl) (by kernel_rfl) (by kernel_rfl) (fun _ _ _ h => h) (Or.inl ⟨by kernel_rfl, fun w _ => by go_simp⟩) HS.out ?_
  refine wpAnyH_take (i := 9) (v := .pointer (some ⟨w.heap.size, 2, none⟩)) rfl (by kernel_rfl) (by kernel_rfl) (by kernel_rfl) (fun _ _ _ h => h) (Or.inl ⟨by kernel_rfl, fun w _ => by go_simp⟩) HS.out ?_
  refine wpAnyH_take (i := 10) (v := .pointer (some ⟨w.heap.size, 6, none⟩)) rfl (by kernel_rfl) (by kernel_rfl) (by kernel_rfl) (fun _ _ _ h => h) (Or.inl ⟨by kernel_rfl, fun w _ => by go_simp⟩) HS.out ?_
  refine wpAnyH_take (i := 3) (v := .slice Ak e.c.key.length ck) rfl (by kernel_rfl) (by kernel_rfl) (by kernel_rfl) (fun _ _ _ h => h) (Or.inl ⟨by kernel_rfl, fun w h => by obtain ⟨q0, q1, q2, q3, q4, q5, q6⟩ := seven h; go_simp⟩) HS.out ?_
  refine wpAnyH_take (i := 7) (v := .slice Av e.c.val.length cv) rfl (by kernel_rfl) (by kernel_rfl) (by kernel_rfl) (fun _ _ _ h => h) (Or.inl ⟨by kernel_rfl, fun w h => by obtain ⟨q0, q1, q2, q3, q4, q5, q6⟩ := seven h; go_simp⟩) HS.out ?_
  refine wpAnyH_take (i := 11) (v := .slice Ao e.c.old.length co) rfl (by kernel_rfl) (by kernel_rfl) (by kernel_rfl) (fun _ _ _ h => h) (Or.inl ⟨by kernel_rfl, fun w h => by obtain ⟨q0, q1, q2, q3, q4, q5, q6⟩ := seven h; go_simp⟩) HS.out ?_
  refine wpAnyH_ready (rs := [4]) (by kernel_rfl) (by simp) ?_
  refine AllReadyH.cons rfl (fun K hK => ?_) AllReadyH.nil
  go_simp
  refine (refputb_in (W := w) E7.out (Rd.own_ HO6.out) HC6.out.rk (by have := len6.out; have := HF.out.key.1; have := HF.out.key.1; have := HF.out.val.1; unfold Lim; omega) HB6.out).mono ?_
  rintro en w7 ⟨A7, c7, rfl, ho7, hB7, hb7⟩
  have HS := Lib.hid (HS.out.below hb7)
  have HC7 := Lib.hid (HC6.out.below' hb7)
  have HB7 := Lib.hid hB7
  have HO7 := Lib.hid ho7
  have len7 := Lib.hid (len_byt E7.out len6.out)
  clear hb7 hB7 ho7
  go_simp
  refine hK.out _ _ HS.out (fun _ => ?_)
  clear hK K
  refine wpAnyH_ready (rs := [8]) (by kernel_rfl) (by simp) ?_
  refine AllReadyH.cons rfl (fun K hK => ?_) AllReadyH.nil
  go_simp
  refine (refputb_in (W := w) E8.out (Rd.own_ HO7.out) HC7.out.rv (by have := len7.out; have := HF.out.val.1; have := HF.out.key.1; have := HF.out.val.1; unfold Lim; omega) HB7.out).mono ?_
  rintro en w8 ⟨A8, c8, rfl, ho8, hB8, hb8⟩
  have HS := Lib.hid (HS.out.below hb8)
  have HC8 := Lib.hid (HC7.out.below' hb8)
  have HB8 := Lib.hid hB8
  have HO8 := Lib.hid ho8
  have len8 := Lib.hid (len_byt E8.out len7.out)
  clear hb8 hB8 ho8
  go_simp
  refine hK.out _ _ HS.out (fun _ => ?_)
  clear hK K
  refine wpAnyH_ready (rs := [12]) (by kernel_rfl) (by simp) ?_
  refine AllReadyH.cons rfl (fun K hK => ?_) AllReadyH.nil
  go_simp
  refine (refputb_in (W := w) E9.out (Rd.own_ HO8.out) HC8.out.ro (by have := len8.out; have := HF.out.old.1; have := HF.out.key.1; have := HF.out.val.1; unfold Lim; omega) HB8.out).mono ?_
  rintro en w9 ⟨A9, c9, rfl, ho9, hB9, hb9⟩
  have HS := Lib.hid (HS.out.below hb9)
  have HC9 := Lib.hid (HC8.out.below' hb9)
  have HB9 := Lib.hid hB9
  have HO9 := Lib.hid ho9
  have len9 := Lib.hid (len_byt E9.out len8.out)
  clear hb9 hB9 ho9
  go_simp
  refine hK.out _ _ HS.out (fun _ => ?_)
  clear hK K
  refine wpAnyH_ready (rs := [13]) (by kernel_rfl) (by simp) ?_
  refine AllReadyH.cons rfl (fun K hK => ?_) AllReadyH.nil
  go_simp
  refine hK.out _ _ HS.out (fun _ => ?_)
  clear hK K
  refine wpAnyH_done (by kernel_rfl) ?_ _
  go_wp2_with fail
  go_ret
  rw [hend.out]
  exact ⟨A9, c9, rfl, HO9.out, HB9.out, HB9.out⟩
theorem refPutEntry_any {W w : World} {l : List Nat} {A : Option Addr} {n c B : Nat} {ca : CA} {e : En} {B' : Nat} (hl : l.length ≤ 1000000) (hc : e.c.Fits) (h : Rd w B A n (bv l)) (h' : RdC w B' ca e.c) (hB : Below W.heap.size W w) :
    Calls Try.prog 26 #[.slice A n c, entV ca e] w (GotIn W w (l ++ e.enc)) :=
  (refPutEntry_raw hl hc h h').mono fun en w' ⟨A', c', h1, h2, h3, h4⟩ => ⟨A', c', h1, own_of hB.size h2, hB.trans (h3.mono hB.size), h4⟩
end Go.Proofs.Ytmdkbmafkglhdaa

