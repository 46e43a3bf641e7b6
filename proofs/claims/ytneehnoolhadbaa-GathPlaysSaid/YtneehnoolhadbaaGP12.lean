/- ViewRow -/
import Derived.Test.YtneehnoolhadbaaGP08
import Derived.Test.YtneehnoolhadbaaGP09
import Derived.Test.YtneehnoolhadbaaGP11
import Derived.Deep.MidRow
import Derived.Laws.CopyOwn
namespace Go.Proofs.Ytneehnoolhadbaa
open Go.RowKit
set_option linter.unusedVariables false
def blOf : Value → Bool
  | .bool b => b
  | _ => false
def svOf (cs : List Value) : Sv := ⟨intOf (cs.getD 0 undef), intOf (cs.getD 1 undef), intOf (cs.getD 4 undef), intOf (cs.getD 5 undef), blOf (cs.getD 6 undef)⟩
/-- the cells of a message -/
structure Ms (cs : List Value) : Prop where
  len : cs.length = 24
  one : ∀ u ∈ cs, u.oneCell' = true
  c0 : cs[0]? = some (.int .i64 (svOf cs).kind)
  c1 : cs[1]? = some (.int .i64 (svOf cs).frm)
  c4 : cs[4]? = some (.int .i64 (svOf cs).inst)
  c5 : cs[5]? = some (.int .i64 (svOf cs).len)
  c6 : cs[6]? = some (.bool (svOf cs).has)
  lo : Vw.lo ≤ (svOf cs).inst
/-- a row of messages that reads -/
structure RdV (w : World) (B : Nat) (A : Option Addr) (n : Nat) (es : List (List Value)) : Prop where
  len : es.length = n
  rd : Rd w B A (n * 24) es.flatten
  ms : ∀ cs ∈ es, Ms cs
def OwnV (W w : World) (A : Option Addr) (n c : Nat) (es : List (List Value)) : Prop := w.ownsRow W.heap.size 31 24 (.slice A n c) n es.flatten
theorem flatM_len {es : List (List Value)} (h : ∀ cs ∈ es, cs.length = 24) : es.flatten.length = es.length * 24 := by
  induction es with
  | nil => rfl
  | cons x t ih =>
    rw [List.flatten_cons, List.length_append, ih (fun cs hc => h cs (List.mem_cons_of_mem _ hc)), h x (by simp), List.length_cons]
    omega
theorem flatM_get {es : List (List Value)} (h : ∀ cs ∈ es, cs.length = 24) {k : Nat} {cs : List Value} (hk : es[k]? = some cs) {j : Nat} (hj : j < 24) : es.flatten[k * 24 + j]? = cs[j]? := by
  induction es generalizing k with
  | nil => simp at hk
  | cons x t ih =>
    have hx : x.length = 24 := h x (by simp)
    rw [List.flatten_cons]
    cases k with
    | zero =>
      simp at hk; subst hk
      rw [List.getElem?_append_left (by omega)]
      congr 1; omega
    | succ k =>
      rw [List.getElem?_append_right (by omega)]
      have := ih (fun cs hc => h cs (List.mem_cons_of_mem _ hc)) (k := k) (by simpa using hk)
      rw [← this]
      congr 1; omega
section
variable {w w' W : World} {B n c : Nat} {A : Option Addr} {es : List (List Value)} {cs : List Value}
theorem RdV.below (h : RdV w B A n es) (hb : Below B w w') : RdV w' B A n es := ⟨h.len, h.rd.below hb, h.ms⟩
theorem RdV.fit (h : RdV w B A n es) : RdV w w.heap.size A n es := ⟨h.len, h.rd.fit, h.ms⟩
theorem RdV.nil (w : World) (B : Nat) (A : Option Addr) : RdV w B A 0 [] := ⟨rfl, Rd.none_ _ _ _, fun cs hc => (by cases hc)⟩
theorem RdV.lens (h : RdV w B A n es) : ∀ cs ∈ es, cs.length = 24 := fun cs hc => (h.ms cs hc).len
theorem RdV.at {k : Nat} (h : RdV w B A n es) (hk : es[k]? = some cs) : ∃ b o, A = some ⟨b, o, none⟩ ∧ b < B ∧ w.rangeAt b (o + k * 24) cs ∧ Ms cs := by
  have hl : k < es.length := (List.getElem?_eq_some_iff.1 hk).1
  have hln := h.len
  have hm : Ms cs := h.ms cs (List.mem_of_getElem? hk)
  obtain ⟨b, o, e, hb, hc⟩ := h.rd.2 (by omega)
  refine ⟨b, o, e, hb, fun j v hv => ?_, hm⟩
  have hj : j < 24 := by have := (List.getElem?_eq_some_iff.1 hv).1; have := hm.len; omega
  rw [Nat.add_assoc, hc (k * 24 + j) (by omega), flatM_get h.lens hk hj, hv]
theorem OwnV.rd (h : OwnV W w A es.length c es) (hm : ∀ cs ∈ es, Ms cs) : RdV w w.heap.size A es.length es := ⟨rfl, Rd.ownS h (by omega), hm⟩
theorem OwnV.below (h : OwnV W w A n c es) (hb : Below w.heap.size w w') : OwnV W w' A n c es := ownsRow_below h hb
theorem OwnV.nil (W w : World) : OwnV W w none 0 0 [] := ⟨rfl, .inl ⟨rfl, rfl⟩⟩
end
section
variable {P : Program} {t e : TypeId} {z : Value} {size bytes : Nat}
/-- append onto a row of the call's own, of elements however great -/
theorem wpList_append_V {W w : World} (hT : CellS P t e z size bytes) {ops : Array Oper} {rest : List Oper} {o : Oper} {a : Act} {Q : Exit → Act → World → Prop} (s x : Operand)
    (ho : o.op = .call { callee := .builtin .append, args := #[s, x], argTypes := #[t, t] }) (hw : Region.wanted o (yielded ops a.tmps) = true)
    {A : Option Addr} {n c : Nat} {vs : List Value} (hs : a.eval s = .slice A n c) (hown : w.ownsRow W.heap.size e size (.slice A n c) n vs)
    {B : Nat} {A' : Option Addr} {m c' : Nat} {ws : List Value} (hx : a.eval x = .slice A' m c') (hr : Rd w B A' (m * size) ws) (h1 : ∀ u ∈ ws, u.oneCell' = true) {N : Nat} (hN : n + m = N) (hnm : N ≤ 1000000) (hby : bytes ≤ 1000) (hB : Below W.heap.size W w)
    (h : ∀ A2 c2 w2, w2.ownsRow W.heap.size e size (.slice A2 N c2) N (vs ++ ws) → Below W.heap.size W w2 → w.grownBy w2 (Value.slice A n c).ownBlock → wpList P ops Q rest (a.put o.dst (.slice A2 N c2)) w2) :
    wpList P ops Q (o :: rest) a w := by
  subst hN
  obtain ⟨i, hi, hz, hsz, hbi⟩ := info_parts hT.info
  obtain ⟨v', w', hrun, h2, h3, h4⟩ := run_append_rdS (P := P) w W.heap.size t o.type e i z size bytes hT.under hi hz hsz hbi hT.one hT.pos _ n vs hown B A' m c' ws hr h1
    (by unfold maxLen; omega) (by have := Nat.mul_le_mul hnm hby; omega) hB.size
  have hlt := hown.lt
  have hB2 : Below W.heap.size W w' := hB.grown h3 hB.size (fun k hk => (hlt k hk).1)
  obtain ⟨A2, c2, rfl, hr2⟩ := Rd.of_ownS h2 hT.pos
  have hgo := h A2 c2 w' h2 hB2 h3
  unfold wpList
  rw [if_pos hw]
  refine Or.inl ?_
  unfold Oper.wp execOp
  simp only [ho, resolve, invoke, builtin, Sem.run_bind, Sem.run_pure, Result.andThen_ok, List.map_toArray, List.map_cons, List.map_nil, hs, hx, hrun]
  exact hgo
end
theorem msgS14 : CellS Try.prog 44 31 (.agg #[.int .i64 0, .int .i64 0, .int .i64 0, .int .i64 0, .int .i64 0, .int .i64 0, .bool false, .int .i64 0, .int .i64 0, .int .i64 0, .int .i64 0, .slice none 0 0, .int .i64 0, .int .i64 0, .slice none 0 0, .slice none 0 0, .int .i64 0, .int .i64 0, .int .i64 0, .int .i64 0, .int .i64 0, .slice none 0 0, .slice none 0 0, .slice none 0 0]) 24 288 := ⟨Try.underlying44, by kernel_rfl, rfl, by decide⟩
def mz : Array Value := #[.int .i64 0, .int .i64 0, .int .i64 0, .int .i64 0, .int .i64 0, .int .i64 0, .bool false, .int .i64 0, .int .i64 0, .int .i64 0, .int .i64 0, .slice none 0 0, .int .i64 0, .int .i64 0, .slice none 0 0, .slice none 0 0, .int .i64 0, .int .i64 0, .int .i64 0, .int .i64 0, .int .i64 0, .slice none 0 0, .slice none 0 0, .slice none 0 0]
theorem Blk.put_ {w : World} {g : Nat} {t : TypeId} {old : Array Value} (h : Blk w g t old) (cs : Array Value) : Blk (w.setRow g cs) g t cs := setRow_heap w g old cs t (0, 0) h
/-- a new variable, stored whole -/
theorem boxM (w : World) (R : Array Value) : ∃ g w2, w.heap.size = g ∧ (w.alloc (.cells mz 31)).setRow g R = w2 ∧ Below w.heap.size w w2 ∧ Blk w2 g 31 R :=
  ⟨_, _, rfl, rfl, below_setRow ((Below.refl _ _).alloc (Nat.le_refl _) _) (Nat.le_refl _) _, (Blk.new _ _ _).put_ _⟩
/-- the cells that count, of a variable that holds a message -/
theorem Blk.sv {w : World} {g : Nat} {t : TypeId} {cs : List Value} (h : Blk w g t cs.toArray) (hm : Ms cs) : w.cell? ⟨g, 0, none⟩ = some (.int .i64 (svOf cs).kind) ∧ w.cell? ⟨g, 1, none⟩ = some (.int .i64 (svOf cs).frm) ∧ w.cell? ⟨g, 4, none⟩ = some (.int .i64 (svOf cs).inst) ∧ w.cell? ⟨g, 5, none⟩ = some (.int .i64 (svOf cs).len) ∧ w.cell? ⟨g, 6, none⟩ = some (.bool (svOf cs).has) := by
  refine ⟨?_, ?_, ?_, ?_, ?_⟩ <;> rw [h.cell]
  · simpa using hm.c0
  · simpa using hm.c1
  · simpa using hm.c4
  · simpa using hm.c5
  · simpa using hm.c6
theorem Vw.or_nat {x f : Nat} (hx : x < 128) (hf : f < 7) : bits .or .i64 (x : Int) (2 ^ f : Int) = ((x ||| 2 ^ f : Nat) : Int) := by
  have h2 : 2 ^ f < 2 ^ 7 := Nat.pow_lt_pow_right (by decide) hf
  have e2 : ((2 : Int) ^ f) = ((2 ^ f : Nat) : Int) := by simp
  rw [e2]
  show IntKind.i64.wrap ((BitVec.ofInt 64 x ||| BitVec.ofInt 64 ((2 ^ f : Nat) : Int)).toNat : Int) = _
  rw [BitVec.toNat_or]
  have e : ∀ z : Nat, z < 128 → (BitVec.ofInt 64 (z : Int)).toNat = z := by
    intro z hz
    rw [BitVec.ofInt_natCast, BitVec.toNat_ofNat]
    exact Nat.mod_eq_of_lt (by omega)
  rw [e x hx, e _ (by omega)]
  have : x ||| 2 ^ f < 2 ^ 7 := Nat.or_lt_two_pow (by omega) h2
  exact IntWalk.i64_in _ (by omega)
theorem fill_zip : ∀ (cs : List Value) (i : Nat) (z : Array Value), i + cs.length = z.size → List.foldl (fun c (x : Value × Nat) => c.setIfInBounds x.2 x.1) z (cs.zipIdx i) = (z.toList.take i ++ cs).toArray
  | [], i, z, h => by
    simp only [List.zipIdx_nil, List.foldl_nil, List.append_nil]
    rw [List.take_of_length_le (by simp at h ⊢; omega)]
  | c :: cs, i, z, h => by
    simp only [List.length_cons] at h
    rw [List.zipIdx_cons, List.foldl_cons, fill_zip cs (i + 1) _ (by rw [Array.size_setIfInBounds]; omega)]
    congr 1
    have hi : i < z.size := by omega
    apply List.ext_getElem?
    intro j
    simp only [Array.toList_setIfInBounds]
    rw [List.getElem?_append, List.getElem?_append, List.length_take, List.length_take, List.length_set, Array.length_toList]
    by_cases h1 : j < i
    · rw [if_pos (by omega), if_pos (by omega), List.getElem?_take_of_lt (by omega), List.getElem?_take_of_lt h1, List.getElem?_set_ne (by omega)]
    · by_cases h2 : j = i
      · subst h2
        rw [if_pos (by omega), if_neg (by omega), List.getElem?_take_of_lt (by omega), List.getElem?_set_self (by simpa using hi)]
        have : j - min j z.size = 0 := by omega
        rw [this]; rfl
      · rw [if_neg (by omega), if_neg (by omega)]
        have : j - min i z.size = (j - min (i + 1) z.size) + 1 := by omega
        rw [this, List.getElem?_cons_succ]
theorem fill_mz {cs : List Value} (h : cs.length = 24) (a b c d e f g h' i j k l m n o p q r s t u v x y : Value) : List.foldl (fun c (x : Value × Nat) => c.setIfInBounds x.2 x.1) #[a, b, c, d, e, f, g, h', i, j, k, l, m, n, o, p, q, r, s, t, u, v, x, y] cs.zipIdx = cs.toArray := by
  rw [fill_zip cs 0 _ (by simp [h])]; simp
/-- the row of one message, as a literal of it lies -/
theorem oneM (w : World) {cs : List Value} (h : cs.length = 24) : Rd (w.alloc (.cells (List.foldl (fun c (x : Value × Nat) => c.setIfInBounds x.2 x.1) mz cs.zipIdx) 31)) (w.heap.size + 1) (some ⟨w.heap.size, 0, none⟩) (1 * 24) cs := by
  unfold mz
  rw [fill_mz h]
  have := Rd.made w cs.toArray 31 (0, 0) (1 * 24) (by simp [h])
  simpa using this
/-- a row loaded under a guard that is known -/
theorem wpList_load_rowU {P : Program} {ops : Array Oper} {rest : List Oper} {o : Oper} {a : Act} {w : World} {Q : Exit → Act → World → Prop} (hgd : Region.wanted o (yielded ops a.tmps) = true) (ty : TypeId) (x : Operand) (ho : o.op = .load ty x)
    (g : Nat) (hx : a.eval x = .pointer (some ⟨g, 0, none⟩)) (t : TypeId) (cs : Array Value) (fr : Nat × Nat) (d : TypeDesc) (hg : w.heap[g]? = some (.cells cs t fr))
    (hu : P.underlying ty = some d) (hd : (match d with | .struct _ | .array _ _ => true | _ => false) = true) (hi : (P.info? ty).map (·.size) = some cs.size)
    (h : wpList P ops Q rest (a.put o.dst (.agg cs)) w) : wpList P ops Q (o :: rest) a w := by
  unfold wpList
  rw [if_pos hgd]
  exact Or.inl (wp_load_row ty x ho g hx t cs fr d hg hu hd hi h)
end Go.Proofs.Ytneehnoolhadbaa

