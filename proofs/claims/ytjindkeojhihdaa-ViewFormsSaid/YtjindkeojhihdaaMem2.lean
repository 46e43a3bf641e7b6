/- More memory: blocks that are known whole, slices into typed blocks, cuts of slices. -/
import Derived.Test.YtjindkeojhihdaaMem
import Derived.Laws.Rows
import Derived.Lib.Hide
import Derived.Laws.BytesArg
namespace Go.Proofs.Ytjindkeojhihdaa
open Go.RowKit
set_option linter.unusedVariables false

/-- block g is just these cells of element type t, none of them frozen -/
def Blk (w : World) (g : Nat) (t : TypeId) (cs : Array Value) : Prop := w.heap[g]? = some (.cells cs t (0, 0))
section
variable {w w' : World} {g : Nat} {t : TypeId} {cs : Array Value}
theorem Blk.lt (h : Blk w g t cs) : g < w.heap.size := by
  unfold Blk at h
  exact (Array.getElem?_eq_some_iff.1 h).1
theorem Blk.cell (h : Blk w g t cs) (i : Nat) : w.cell? ⟨g, i, none⟩ = cs[i]? := by
  unfold Blk at h
  simp [World.cell?, h]
theorem Blk.frozen (h : Blk w g t cs) (i : Nat) : w.frozen? ⟨g, i, none⟩ = false := by
  unfold Blk at h
  simp [World.frozen?, h]
theorem Blk.new (w : World) (t : TypeId) (cs : Array Value) : Blk (w.alloc (.cells cs t)) w.heap.size t cs := heap_alloc_new w _
theorem Blk.drew (h : Blk w g t cs) : Blk w.drew g t cs := h
theorem Blk.alloc (h : Blk w g t cs) (o : Obj) : Blk (w.alloc o) g t cs := (Below.heap_alloc w o g h.lt).trans h
theorem Blk.set_ (h : Blk w g t cs) (i : Nat) (u : Value) : Blk (w.setCell ⟨g, i, none⟩ u) g t (cs.setIfInBounds i u) := by
  unfold Blk at h ⊢
  simp [World.setCell, Array.getElem?_modify, h]
theorem Blk.grown {row : Option Nat} (h : Blk w g t cs) (hb : w.grownBy w' row) (hg : some g ≠ row) : Blk w' g t cs := (hb.block g h.lt hg).trans h
theorem Blk.below (h : Blk w g t cs) (hb : Below w.heap.size w w') : Blk w' g t cs := (hb.block g h.lt).trans h
theorem Blk.apart {g' : Nat} {t' : TypeId} {cs' : Array Value} (h : Blk w g t cs) (h' : Blk w g' t' cs') (hne : t ≠ t') : g ≠ g' := by
  intro he
  subst he
  unfold Blk at h h'
  rw [h] at h'
  injection h' with h'
  injection h' with _ ht
  exact hne ht
end

/-- the n elements of the slice at A are vs, one cell each, in a block whose elements have type e -/
def RdT (w : World) (e : TypeId) (A : Option Addr) (n : Nat) (vs : List Value) : Prop :=
  vs.length = n ∧ (0 < n → ∃ g o cur, A = some ⟨g, o, none⟩ ∧ Blk w g e cur ∧ ∀ i, i < n → cur[o + i]? = vs[i]?)
section
variable {w w' : World} {e : TypeId} {A : Option Addr} {n : Nat} {vs : List Value} {l : List Nat}
theorem RdT.none_ (w : World) (e : TypeId) (A : Option Addr) : RdT w e A 0 [] := ⟨rfl, fun h => absurd h (by omega)⟩
theorem RdT.rd (h : RdT w e A n vs) : Rd w w.heap.size A n vs :=
  ⟨h.1, fun hn => by
    obtain ⟨g, o, cur, e1, hb, hc⟩ := h.2 hn
    exact ⟨g, o, e1, hb.lt, fun i hi => (hb.cell _).trans (hc i hi)⟩⟩
theorem RdT.drew (h : RdT w e A n vs) : RdT w.drew e A n vs := h
theorem RdT.grown {b : Nat} {t : TypeId} {cs : Array Value} (h : RdT w e A n vs) (hg : w.grownBy w' (some b)) (hb : Blk w b t cs) (hne : e ≠ t) : RdT w' e A n vs :=
  ⟨h.1, fun hn => by
    obtain ⟨g, o, cur, e1, hk, hc⟩ := h.2 hn
    exact ⟨g, o, cur, e1, hk.grown hg (by intro he; injection he with he; exact hk.apart hb hne he), hc⟩⟩
theorem RdT.below (h : RdT w e A n vs) (hb : Below w.heap.size w w') : RdT w' e A n vs :=
  ⟨h.1, fun hn => by
    obtain ⟨g, o, cur, e1, hk, hc⟩ := h.2 hn
    exact ⟨g, o, cur, e1, hk.below hb, hc⟩⟩
theorem RdT.own {base c : Nat} (h : w.ownsRow base e 1 (.slice A n c) n vs) : RdT w e A n vs := by
  refine ⟨by simpa using h.1, fun hn => ?_⟩
  rcases h.2 with ⟨h1, h2⟩ | ⟨g, cap, cur, hv, _, hh, hnc, _, hs, ht⟩
  · omega
  · injection hv with h1
    refine ⟨g, 0, cur, h1, hh, fun i hi => ?_⟩
    have e1 : cur.toList[i]? = vs[i]? := by rw [← ht, List.getElem?_take_of_lt (by omega)]
    rw [Nat.zero_add, ← e1]; simp
theorem RdT.alloc (h : RdT w e A n vs) (o : Obj) : RdT (w.alloc o) e A n vs := h.below ((Below.refl _ _).alloc (Nat.le_refl _) o)
theorem own_cap {base c size : Nat} (h : w.ownsRow base e size (.slice A n c) n vs) : n ≤ c ∧ c ≤ maxLen := by
  rcases h.2 with ⟨h1, h2⟩ | ⟨g, cap, cur, hv, _, hh, hnc, hm, hs, ht⟩
  · injection h1 with _ _ h3
    subst h3
    exact ⟨by omega, by unfold maxLen; omega⟩
  · injection hv with _ _ h3
    subst h3
    exact ⟨hnc, hm⟩
/-- where a slice's rest begins: Go does not point behind an array's end -/
def cutAt (A : Option Addr) (c k : Nat) : Option Addr := if c = k then A else A.map (·.add k)
theorem RdT.drop (h : RdT w e A n vs) {k c : Nat} (hk : k ≤ n) (hc : n ≤ c) : RdT w e (cutAt A c k) (n - k) (vs.drop k) := by
  refine ⟨by rw [List.length_drop, h.1], fun hn => ?_⟩
  obtain ⟨g, o, cur, rfl, hb, hcell⟩ := h.2 (by omega)
  unfold cutAt
  rw [if_neg (by omega)]
  refine ⟨g, o + k, cur, ?_, hb, fun i hi => ?_⟩
  · show some ((⟨g, o, none⟩ : Addr).add k) = _
    congr 1
    unfold Addr.add; split <;> simp_all
  · rw [Nat.add_assoc, hcell (k + i) (by omega), List.getElem?_drop]
theorem RdT.take (h : RdT w e A n vs) {k : Nat} (hk : k ≤ n) : RdT w e A k (vs.take k) :=
  ⟨by rw [List.length_take, h.1]; omega, fun hp => by
    obtain ⟨g, o, cur, e1, hb, hc⟩ := h.2 (by omega)
    exact ⟨g, o, cur, e1, hb, fun i hi => by rw [hc i (by omega), List.getElem?_take_of_lt hi]⟩⟩
theorem Rd.drop {B : Nat} (h : Rd w B A n vs) {k c : Nat} (hk : k ≤ n) (hc : n ≤ c) : Rd w B (cutAt A c k) (n - k) (vs.drop k) := by
  refine ⟨by rw [List.length_drop, h.1], fun hn => ?_⟩
  obtain ⟨g, o, rfl, hb, hcell⟩ := h.2 (by omega)
  unfold cutAt
  rw [if_neg (by omega)]
  refine ⟨g, o + k, ?_, hb, fun i hi => ?_⟩
  · show some ((⟨g, o, none⟩ : Addr).add k) = _
    congr 1
    unfold Addr.add; split <;> simp_all
  · rw [Nat.add_assoc, hcell (k + i) (by omega), List.getElem?_drop]
theorem Rd.fit {B : Nat} (h : Rd w B A n vs) : Rd w w.heap.size A n vs :=
  ⟨h.1, fun hn => by
    obtain ⟨g, o, e1, _, hc⟩ := h.2 hn
    have h0 := hc 0 hn
    rw [List.getElem?_eq_getElem (by rw [h.1]; exact hn)] at h0
    exact ⟨g, o, e1, World.block_lt_of_cell? w _ h0, hc⟩⟩
theorem bv_drop (l : List Nat) (k : Nat) : bv (l.drop k) = (bv l).drop k := by simp [bv]
theorem Rd.grown {B b : Nat} (h : Rd w B A n vs) (hg : w.grownBy w' (some b)) (hB : B ≤ b) (hs : B ≤ w.heap.size) : Rd w' B A n vs :=
  h.keep (fun p hp => World.cell?_of_block (hg.block p.block (by omega) (by intro he; injection he with he; omega))) (Nat.le_refl _)
end
theorem Rd.oneI (w : World) {v : Int} {x : Nat} (h : v = (x : Int)) (t : TypeId) : Rd (w.alloc (.cells #[.int .u8 v] t)) (w.heap.size + 1) (some ⟨w.heap.size, 0, none⟩) 1 (bv [x]) := by
  subst h; exact Rd.one w x t
/-- s[k:] -/
theorem run_slice_from {P : Program} {t e : TypeId} {i : TypeInfo} (ht : P.underlying t = some (.slice e)) (hi : P.info? e = some i) (hs : i.size = 1) (A : Option Addr) (n c k : Nat) (hk : k ≤ n) (w : World) :
    (Instr.slice t (.slice A n c) (some (.int .i64 (k : Int))) none none).run P w = .ok (.slice (cutAt A c k) (n - k) (c - k)) w := by
  simp [Instr.slice, run_underlying ht, Instr.sliceBounds, Instr.sliceBound, asIntOf, hk, sizeOf, typeInfo, hi, hs, cutAt]
/-- s[:k] -/
theorem run_slice_to {P : Program} {t e : TypeId} {i : TypeInfo} (ht : P.underlying t = some (.slice e)) (hi : P.info? e = some i) (A : Option Addr) (n c k : Nat) (hk : k ≤ c) (w : World) :
    (Instr.slice t (.slice A n c) none (some (.int .i64 (k : Int))) none).run P w = .ok (.slice A k c) w := by
  have h2 : ∀ x : Addr, x.add 0 = x := by intro x; simp [Addr.add]
  have h3 : (fun (x : Addr) => x.add 0) = id := funext h2
  simp [Instr.slice, run_underlying ht, Instr.sliceBounds, Instr.sliceBound, asIntOf, hk, sizeOf, typeInfo, hi, h3]
/-- a row of the call's own, and its elements' type, of one cell each -/
structure CellT (P : Program) (t e : TypeId) (z : Value) (bytes : Nat) : Prop where
  under : P.underlying t = some (.slice e)
  info : (P.info? e).map (fun i => (i.zero, i.size, i.bytes)) = some (some z, 1, bytes)
  one : z.cells.size = 1
theorem own_blk {w : World} {base n c size : Nat} {e : TypeId} {A : Option Addr} {vs : List Value} (h : w.ownsRow base e size (.slice A n c) n vs) :
    (A = none ∧ n = 0 ∧ vs = []) ∨ ∃ g cur, A = some ⟨g, 0, none⟩ ∧ base ≤ g ∧ Blk w g e cur := by
  rcases h.2 with ⟨h1, h2⟩ | ⟨g, cap, cur, hv, hb, hh, _⟩
  · injection h1 with h1
    subst h2
    exact .inl ⟨h1, rfl, List.eq_nil_of_length_eq_zero (by simpa using h.1)⟩
  · injection hv with h1
    exact .inr ⟨g, cur, h1, hb, hh⟩
/-- what is read of one type stays while a row of another type grows -/
theorem RdT.kept {w w' : World} {e e' : TypeId} {A A' : Option Addr} {n n' c' base size : Nat} {vs xs : List Value} (h : RdT w e A n vs) (ho : w.ownsRow base e' size (.slice A' n' c') n' xs) (hne : e ≠ e')
    (hg : w.grownBy w' (Value.slice A' n' c').ownBlock) : RdT w' e A n vs := by
  refine ⟨h.1, fun hn => ?_⟩
  obtain ⟨g, o, cur, e1, hk, hc⟩ := h.2 hn
  refine ⟨g, o, cur, e1, hk.grown hg ?_, hc⟩
  rcases own_blk ho with ⟨rfl, _, _⟩ | ⟨g', cur', rfl, _, hk'⟩
  · intro h0; cases h0
  · intro h0
    have h1 : g = g' := by simpa [Value.ownBlock] using h0
    exact hk.apart hk' hne h1
theorem ownsRow_below {w w' : World} {base n size : Nat} {e : TypeId} {v : Value} {vs : List Value} (h : w.ownsRow base e size v n vs) (hb : Below w.heap.size w w') : w'.ownsRow base e size v n vs := by
  obtain ⟨h1, h2⟩ := h
  refine ⟨h1, ?_⟩
  rcases h2 with h2 | ⟨g, cap, cur, hv, hg, hh, r⟩
  · exact .inl h2
  · exact .inr ⟨g, cap, cur, hv, hg, (hb.block g (Blk.lt hh)).trans hh, r⟩
section
variable {P : Program} {t e : TypeId} {z : Value} {bytes : Nat}
/-- append onto a row of the call's own, of whatever one-cell elements -/
theorem wpList_append_cells {W w : World} (hT : CellT P t e z bytes) {ops : Array Oper} {rest : List Oper} {o : Oper} {a : Act} {Q : Exit → Act → World → Prop} (s x : Operand)
    (ho : o.op = .call { callee := .builtin .append, args := #[s, x], argTypes := #[t, t] }) (hw : Region.wanted o (yielded ops a.tmps) = true)
    {A : Option Addr} {n c : Nat} {vs : List Value} (hs : a.eval s = .slice A n c) (hown : w.ownsRow W.heap.size e 1 (.slice A n c) n vs)
    {B : Nat} {A' : Option Addr} {m c' : Nat} {ws : List Value} (hx : a.eval x = .slice A' m c') (hr : Rd w B A' m ws) (h1 : ∀ u ∈ ws, u.oneCell' = true) (hnm : n + m ≤ 1099511627776) (hby : bytes ≤ 64) (hB : Below W.heap.size W w)
    (h : ∀ A2 c2 w2, w2.ownsRow W.heap.size e 1 (.slice A2 (n + m) c2) (n + m) (vs ++ ws) → Below W.heap.size W w2 → w.grownBy w2 (Value.slice A n c).ownBlock → wpList P ops Q rest (a.put o.dst (.slice A2 (n + m) c2)) w2) :
    wpList P ops Q (o :: rest) a w := by
  obtain ⟨i, hi, hz, hsz, hbi⟩ := info_parts hT.info
  obtain ⟨v', w', hrun, h2, h3, h4⟩ := run_append_rd (P := P) w W.heap.size t o.type e i z bytes hT.under hi hz hsz hbi hT.one _ n vs hown B A' m c' ws hr h1
    (by unfold maxLen; omega) (by have := Nat.mul_le_mul hnm hby; omega) hB.size
  have hlt := hown.lt
  have hB2 : Below W.heap.size W w' := hB.grown h3 hB.size (fun k hk => (hlt k hk).1)
  obtain ⟨A2, c2, rfl, hr2⟩ := Rd.of_own h2
  have hgo := h A2 c2 w' h2 hB2 h3
  unfold wpList
  rw [if_pos hw]
  refine Or.inl ?_
  unfold Oper.wp execOp
  simp only [ho, resolve, invoke, builtin, Sem.run_bind, Sem.run_pure, Result.andThen_ok, List.map_toArray, List.map_cons, List.map_nil, hs, hx, hrun]
  exact hgo
end
/-- append at one operation: for a region whose order is drawn -/
theorem wp_append_bytes {P : Program} {t e : TypeId} {W w : World} (hT : ByteT P t e) {o : Oper} {a : Act} {next : Act → World → Prop} {Q : Exit → Act → World → Prop} (s x : Operand)
    (ho : o.op = .call { callee := .builtin .append, args := #[s, x], argTypes := #[t, t] })
    {A : Option Addr} {n c : Nat} {l : List Nat} (hs : a.eval s = .slice A n c) (hown : w.ownsRow W.heap.size e 1 (.slice A n c) n (bv l))
    {B : Nat} {A' : Option Addr} {m c' : Nat} {l' : List Nat} (hx : a.eval x = .slice A' m c') (hr : Rd w B A' m (bv l')) (hnm : n + m ≤ 1099511627776) (hB : Below W.heap.size W w)
    (h : ∀ A2 c2 w2, w2.ownsRow W.heap.size e 1 (.slice A2 (n + m) c2) (n + m) (bv (l ++ l')) → Below W.heap.size W w2 → next (a.put o.dst (.slice A2 (n + m) c2)) w2) :
    o.wp P a w next Q := by
  obtain ⟨i, hi, hz, hsz, hby⟩ := info_parts hT.info
  obtain ⟨v', w', hrun, h2, h3, h4⟩ := run_append_rd (P := P) w W.heap.size t o.type e i (.int .u8 0) 1 hT.under hi hz hsz hby rfl _ n (bv l) hown B A' m c' (bv l') hr Rd.oneCell
    (by unfold maxLen; omega) (by omega) hB.size
  have hlt := hown.lt
  have hB2 : Below W.heap.size W w' := hB.grown h3 hB.size (fun k hk => (hlt k hk).1)
  rw [← bv_append] at h2
  obtain ⟨A2, c2, rfl, hr2⟩ := Rd.of_own h2
  have hgo := h A2 c2 w' h2 hB2
  unfold Oper.wp execOp
  simp only [ho, resolve, invoke, builtin, Sem.run_bind, Sem.run_pure, Result.andThen_ok, List.map_toArray, List.map_cons, List.map_nil, hs, hx, hrun]
  exact hgo
/-- integers as values -/
def iv (zs : List Int) : List Value := zs.map (Value.int .i64)
theorem iv_one (zs : List Int) : ∀ u ∈ iv zs, u.oneCell' = true := by
  intro u hu
  obtain ⟨x, _, rfl⟩ := List.mem_map.1 hu
  rfl
theorem iv_length (zs : List Int) : (iv zs).length = zs.length := by simp [iv]
theorem iv_append (l m : List Int) : iv (l ++ m) = iv l ++ iv m := by simp [iv]
theorem Rd.oneV (w : World) (v : Value) (t : TypeId) : Rd (w.alloc (.cells #[v] t)) (w.heap.size + 1) (some ⟨w.heap.size, 0, none⟩) 1 [v] := Rd.made w #[v] t (0, 0) 1 rfl
theorem Rd.int_at {w : World} {B n k : Nat} {A : Option Addr} {zs : List Int} (h : Rd w B A n (iv zs)) (hk : k < n) : ∃ b o, A = some ⟨b, o, none⟩ ∧ ∃ hk' : k < zs.length, w.cell? ⟨b, o + k, none⟩ = some (.int .i64 zs[k]) := by
  obtain ⟨b, o, e, _, hc⟩ := h.2 (by omega)
  have hl : k < zs.length := by have := h.1; rw [iv_length] at this; omega
  exact ⟨b, o, e, hl, by rw [hc k hk]; simp [iv, hl]⟩
theorem Rd.int_cell {w : World} {B n k b o : Nat} {zs : List Int} {z : Int} (h : Rd w B (some ⟨b, o, none⟩) n (iv zs)) (hk : k < n) (hz : zs[k]? = some z) : w.cell? ⟨b, o + k, none⟩ = some (.int .i64 z) := by
  obtain ⟨b', o', e, _, hc⟩ := h.2 (by omega)
  injection e with e
  injection e with e1 e2
  subst e1 e2
  rw [hc k hk]; simp [iv, hz]
theorem IsRow.ints {w : World} {a : Option Addr} {len cap : Nat} {zs : List Int} (h : IsRow .i64 w a len cap zs) :
    Rd w w.heap.size a len (iv (zs.take len)) ∧ (zs.take len).length = len ∧ len ≤ cap ∧ cap ≤ maxLen := by
  rcases h with ⟨rfl, rfl, rfl, rfl⟩ | ⟨x, rfl, hl, hm, hz, hc, hw⟩
  · exact ⟨Rd.none_ _ _ _, rfl, Nat.le_refl _, by decide⟩
  · have hzl : (zs.take len).length = len := by rw [List.length_take]; omega
    refine ⟨⟨by rw [iv_length, hzl], fun hn => ?_⟩, hzl, hl, hm⟩
    obtain ⟨b, o, s⟩ := x
    have h0 := hc 0 (by omega)
    have hs : s = none := by simpa [Addr.add] using World.cell?_spot h0
    subst hs
    have hlt : b < w.heap.size := by
      rcases Nat.lt_or_ge b w.heap.size with h' | h'
      · exact h'
      · simp [World.cell?, Addr.add, Array.getElem?_eq_none h'] at h0
    refine ⟨b, o, rfl, hlt, fun i hi => ?_⟩
    have := hc i (by omega)
    have e : (⟨b, o, none⟩ : Addr).add i = ⟨b, o + i, none⟩ := by unfold Addr.add; split <;> simp_all
    rw [e] at this
    rw [this]
    have hi' : i < zs.length := by omega
    simp [iv, hi', hi, List.getD]
/-- the string of some bytes -/
def strB (l : List Nat) : ByteArray := strOfNums (l.map fun (x : Nat) => (x : Int))
theorem strB_inj {l m : List Nat} (hl : ∀ x ∈ l, x < 256) (hm : ∀ x ∈ m, x < 256) (h : strB l = strB m) : l = m := by
  have h1 : (l.map fun (x : Nat) => UInt8.ofNat x) = m.map fun (x : Nat) => UInt8.ofNat x := by
    have := congrArg (fun s => s.data.toList) h
    simpa [strB, strOfNums, Function.comp_def] using this
  clear h
  induction l generalizing m with
  | nil => cases m with
    | nil => rfl
    | cons y m => simp at h1
  | cons x l ih => cases m with
    | nil => simp at h1
    | cons y m =>
      simp only [List.map_cons, List.cons.injEq] at h1
      have hx := hl x (by simp)
      have hy := hm y (by simp)
      have e : x = y := by
        have := congrArg UInt8.toNat h1.1
        simp at this
        omega
      rw [e, ih (fun z hz => hl z (by simp [hz])) (fun z hz => hm z (by simp [hz])) h1.2]
theorem ba_beq (a b : ByteArray) : (a == b) = decide (a = b) := by
  have e : (a == b) = (a.data == b.data) := by cases a; cases b; rfl
  rw [e, Bool.eq_iff_iff, beq_iff_eq, decide_eq_true_iff]
  constructor
  · intro h; cases a; cases b; simp at h; rw [h]
  · intro h; rw [h]
theorem strB_eq {l m : List Nat} (hl : ∀ x ∈ l, x < 256) (hm : ∀ x ∈ m, x < 256) : (strB l == strB m) = decide (l = m) := by
  rw [ba_beq]
  by_cases h : l = m
  · subst h; simp
  · have : strB l ≠ strB m := fun e => h (strB_inj hl hm e)
    simp [h, this]
theorem strB_self (l : List Nat) : (strB l == strB l) = true := by rw [ba_beq]; simp
theorem run_str_rd {P : Program} {src e dst : TypeId} (hs : P.underlying src = some (.slice e)) (he : P.underlying e = some (.int .u8)) (hd : P.underlying dst = some .string)
    {w : World} {B : Nat} {A : Option Addr} {n c : Nat} {l : List Nat} (h : Rd w B A n (bv l)) : (convert src dst (.slice A n c)).run P w = .ok (.string (strB l)) w := by
  rcases Nat.eq_zero_or_pos n with h0 | h0
  · subst h0
    have hl : l = [] := List.eq_nil_of_length_eq_zero h.length
    subst hl
    cases A with
    | none => exact run_convert_bytes_nil w src e hs he 0 c dst hd
    | some a =>
      have h1 : (loadCells a 0).run P w = .ok #[] w := by
        have := run_loadCells_list (P := P) w a [] (fun j v hj => by simp at hj)
        simpa using this
      rw [run_convert_bytes_string w src dst e _ 0 c hs he hd, run_bytesToString w _ 0 c [] (by simpa using h1)]
      rfl
  · obtain ⟨b, o, rfl, _, hc⟩ := h.2 h0
    refine run_convert_bytes_arg w src e hs he b o n c (l.map fun (x : Nat) => (x : Int)) (by rw [List.length_map]; exact h.length) (fun i hi => ?_) dst hd
    have hl : i < l.length := by rw [h.length]; exact hi
    rw [hc i hi, bv_get hl]
    simp [List.getD, List.getElem?_eq_getElem hl]
end Go.Proofs.Ytjindkeojhihdaa
