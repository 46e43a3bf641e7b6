/- StepKit StructKit -/
import Derived.Test.YtaknfmionkkdjaaGreatFO02
import Derived.Deep.RegionLaw
namespace Go.Proofs.YtaknfmionkkdjaaGreat
open Go.RowKit
set_option linter.unusedVariables false
/-- append, onto a row of the call's own, as one step of a region that draws -/
theorem step_append_cells {P : Program} {t e : TypeId} {z : Value} {bytes : Nat} {W w : World} (hT : CellT P t e z bytes) {ops : Array Oper} {o : Oper} {a : Act} {K : Act → World → Prop} {Q : Exit → Act → World → Prop} {E : Prop} (s x : Operand)
    (ho : o.op = .call { callee := .builtin .append, args := #[s, x], argTypes := #[t, t] }) (hg : o.guard = none)
    {A : Option Addr} {n c : Nat} {vs : List Value} (hs : a.eval s = .slice A n c) (hown : w.ownsRow W.heap.size e 1 (.slice A n c) n vs)
    {B : Nat} {A' : Option Addr} {m c' : Nat} {ws : List Value} (hx : a.eval x = .slice A' m c') (hr : Rd w B A' m ws) (h1 : ∀ u ∈ ws, u.oneCell' = true) (hnm : n + m ≤ 1099511627776) (hby : bytes ≤ 64) (hB : Below W.heap.size W w)
    (h : ∀ A2 c2 w2, w2.ownsRow W.heap.size e 1 (.slice A2 (n + m) c2) (n + m) (vs ++ ws) → Below W.heap.size W w2 → w.grownBy w2 (Value.slice A n c).ownBlock → K (a.put o.dst (.slice A2 (n + m) c2)) w2) :
    if Region.wanted o (yielded ops a.tmps) = true then Oper.wp P o a w K Q else E := by
  have hw : Region.wanted o (yielded ops a.tmps) = true := by simp [Region.wanted, hg]
  rw [if_pos hw]
  obtain ⟨i, hi, hz, hsz, hbi⟩ := info_parts hT.info
  obtain ⟨v', w', hrun, h2, h3, h4⟩ := run_append_rd (P := P) w W.heap.size t o.type e i z bytes hT.under hi hz hsz hbi hT.one _ n vs hown B A' m c' ws hr h1
    (by unfold maxLen; omega) (by have := Nat.mul_le_mul hnm hby; omega) hB.size
  have hlt := hown.lt
  have hB2 : Below W.heap.size W w' := hB.grown h3 hB.size (fun k hk => (hlt k hk).1)
  obtain ⟨A2, c2, rfl, hr2⟩ := Rd.of_own h2
  have hgo := h A2 c2 w' h2 hB2 h3
  unfold Oper.wp execOp
  simp only [ho, resolve, invoke, builtin, Sem.run_bind, Sem.run_pure, Result.andThen_ok, List.map_toArray, List.map_cons, List.map_nil, hs, hx, hrun]
  exact hgo
theorem Blk.apart_own {w w' : World} {g n c base' size' : Nat} {t e' : TypeId} {cs : Array Value} {A' : Option Addr} {xs' : List Value} (h : Blk w g t cs) (ho : w.ownsRow base' e' size' (.slice A' n c) n xs') (hne : t ≠ e') (hg : w.grownBy w' (Value.slice A' n c).ownBlock) : Blk w' g t cs := by
  refine h.grown hg ?_
  rcases own_blk ho with ⟨q1, _, _⟩ | ⟨g', cur', q1, _, hk'⟩
  · rw [q1]; intro h0; cases h0
  · rw [q1]; intro h0
    have h3 : g = g' := by simpa [Value.ownBlock] using h0
    exact Blk.apart h hk' hne h3
end Go.Proofs.YtaknfmionkkdjaaGreat

namespace Go.Proofs.YtaknfmionkkdjaaGreat
open Go.RowKit
set_option linter.unusedVariables false
/-- elements of type e, of size cells each -/
structure CellS (P : Program) (t e : TypeId) (z : Value) (size bytes : Nat) : Prop where
  under : P.underlying t = some (.slice e)
  info : (P.info? e).map (fun i => (i.zero, i.size, i.bytes)) = some (some z, size, bytes)
  one : z.cells.size = size
  pos : 0 < size
theorem run_append_rdS {P : Program} (w : World) (base : Nat) (t ty e : TypeId) (i : TypeInfo) (z : Value) (size bytes : Nat) (ht : P.underlying t = some (.slice e)) (hi : P.info? e = some i) (hz : i.zero = some z)
    (hsize : i.size = size) (hby : i.bytes = bytes) (hzs : z.cells.size = size) (hpos : 0 < size)
    (v : Value) (n : Nat) (xs : List Value) (hown : w.ownsRow base e size v n xs)
    (B : Nat) (a : Option Addr) (m c : Nat) (vs : List Value) (hr : Rd w B a (m * size) vs) (h1 : ∀ u ∈ vs, u.oneCell' = true)
    (h63 : n + m ≤ maxLen) (hbytes : (n + m) * bytes ≤ 140737488355328) (hbase : base ≤ w.heap.size) :
    ∃ v' w', (Builtin.append_ #[t, t] ty #[v, .slice a m c]).run P w = .ok v' w' ∧ w'.ownsRow base e size v' (n + m) (xs ++ vs) ∧ w.grownBy w' v.ownBlock ∧
      (v'.ownBlock = v.ownBlock ∨ v'.ownBlock = some w.heap.size) := by
  rcases Nat.eq_zero_or_pos m with h0 | h0
  · subst h0
    have hn : vs = [] := List.eq_nil_of_length_eq_zero (by have := hr.1; omega)
    subst hn
    cases a with
    | none =>
      refine ⟨v, w, ?_, by simpa using hown, World.grownBy.refl w _, .inl rfl⟩
      rcases hown.2 with ⟨rfl, rfl⟩ | ⟨g, cap, cur, rfl, _, _, hnc, _⟩
      · simp [Builtin.append_, run_underlying ht, sizeOf, typeInfo, hi, Builtin.lenOf, Builtin.firstCells]
      · simp [Builtin.append_, run_underlying ht, sizeOf, typeInfo, hi, Builtin.lenOf, Builtin.firstCells, hnc, storeCells]
    | some ad =>
      obtain ⟨v', w', hrun, h2, h3, _, h5⟩ := run_append_own_at (P := P) w base t ty e i z size bytes ht hi hz hsize hby hzs hpos v n xs hown ad 0 c [] (by simp) (by simp) h1 h63 hbytes hbase
      exact ⟨v', w', hrun, h2, h3, h5⟩
  · have hp : 0 < m * size := Nat.mul_pos h0 hpos
    obtain ⟨b, o, rfl, _, hc⟩ := hr.2 hp
    have hadd : ∀ j, (⟨b, o, none⟩ : Addr).add j = ⟨b, o + j, none⟩ := fun j => by unfold Addr.add; split <;> simp_all
    obtain ⟨v', w', hrun, h2, h3, _, h5⟩ := run_append_own_at (P := P) w base t ty e i z size bytes ht hi hz hsize hby hzs hpos v n xs hown ⟨b, o, none⟩ m c vs hr.1
      (fun j u hu => by
        have hj : j < m * size := by have := (List.getElem?_eq_some_iff.1 hu).1; rw [hr.1] at this; exact this
        rw [hadd, hc j hj, hu]) h1 h63 hbytes hbase
    exact ⟨v', w', hrun, h2, h3, h5⟩
theorem Rd.of_ownS {w : World} {base n size : Nat} {e : TypeId} {v : Value} {vs : List Value} (h : w.ownsRow base e size v n vs) (hpos : 0 < size) : ∃ a c, v = .slice a n c ∧ Rd w w.heap.size a (n * size) vs := by
  have hl : vs.length = n * size := h.1
  rcases h.2 with ⟨rfl, rfl⟩ | ⟨g, cap, cur, rfl, _, hh, hnc, hm, hs, ht⟩
  · refine ⟨none, 0, rfl, hl, fun hn => by omega⟩
  · have hlt : g < w.heap.size := by
      rcases Nat.lt_or_ge g w.heap.size with h' | h'
      · exact h'
      · rw [Array.getElem?_eq_none h'] at hh; cases hh
    refine ⟨_, cap, rfl, hl, fun _ => ⟨g, 0, rfl, hlt, fun i hi => ?_⟩⟩
    have h1 := h.cellAt i (by omega)
    rw [Nat.zero_add]
    exact h1
theorem Rd.ownS {w : World} {base n c size : Nat} {e : TypeId} {A : Option Addr} {vs : List Value} (h : w.ownsRow base e size (.slice A n c) n vs) (hpos : 0 < size) : Rd w w.heap.size A (n * size) vs := by
  obtain ⟨a, c', hv, hr⟩ := Rd.of_ownS h hpos
  injection hv with h1
  subst h1
  exact hr
/-- the first k of an own row are an own row, with room behind -/
theorem own_prefix {w : World} {base n c size k : Nat} {e : TypeId} {A : Option Addr} {vs : List Value} (h : w.ownsRow base e size (.slice A n c) n vs) (hk : k ≤ n) : w.ownsRow base e size (.slice A k c) k (vs.take (k * size)) := by
  have hks : k * size ≤ n * size := Nat.mul_le_mul_right _ hk
  refine ⟨by rw [List.length_take, h.1]; omega, ?_⟩
  rcases h.2 with ⟨h1, h2⟩ | ⟨g, cap, cur, hv, hb, hh, hnc, hm, hs, ht⟩
  · injection h1 with h1 _ h3
    subst h1 h3
    obtain rfl : k = 0 := by omega
    exact .inl ⟨rfl, rfl⟩
  · injection hv with h1 _ h3
    subst h1 h3
    exact .inr ⟨g, c, cur, rfl, hb, hh, by omega, hm, hs, by rw [← ht, List.take_take, Nat.min_eq_left hks]⟩
/-- where a slice's rest begins, of elements of several cells -/
def cutS (A : Option Addr) (c k size : Nat) : Option Addr := if c = k then A else A.map (·.add (k * size))
theorem Rd.dropS {w : World} {B n k c size : Nat} {A : Option Addr} {vs : List Value} (h : Rd w B A (n * size) vs) (hk : k ≤ n) (hc : n ≤ c) : Rd w B (cutS A c k size) ((n - k) * size) (vs.drop (k * size)) := by
  have e0 : (n - k) * size = n * size - k * size := Nat.sub_mul n k size
  refine ⟨by rw [List.length_drop, h.1, e0], fun hn => ?_⟩
  have hlt : k < n := by
    rcases Nat.lt_or_ge k n with h' | h'
    · exact h'
    · have : n - k = 0 := by omega
      rw [this] at hn; simp at hn
  have hs : 0 < size := by
    rcases Nat.eq_zero_or_pos size with h' | h'
    · subst h'; simp at hn
    · exact h'
  obtain ⟨g, o, rfl, hb, hcell⟩ := h.2 (Nat.mul_pos (by omega) hs)
  unfold cutS
  rw [if_neg (by omega)]
  refine ⟨g, o + k * size, ?_, hb, fun i hi => ?_⟩
  · show some ((⟨g, o, none⟩ : Addr).add (k * size)) = _
    congr 1
    unfold Addr.add; split <;> simp_all
  · have : k * size ≤ n * size := Nat.mul_le_mul_right _ hk
    rw [Nat.add_assoc, hcell (k * size + i) (by omega), List.getElem?_drop]
theorem run_slice_fromS_ {P : Program} {t e : TypeId} {i : TypeInfo} {size : Nat} (ht : P.underlying t = some (.slice e)) (hi : P.info? e = some i) (hs : i.size = size) (A : Option Addr) (n c k : Nat) (hk : k ≤ n) (w : World) :
    (Instr.slice t (.slice A n c) (some (.int .i64 (k : Int))) none none).run P w = .ok (.slice (cutS A c k size) (n - k) (c - k)) w := by
  subst hs
  simp [Instr.slice, run_underlying ht, Instr.sliceBounds, Instr.sliceBound, asIntOf, hk, sizeOf, typeInfo, hi, cutS]
theorem own_addrS {w : World} {base n c size : Nat} {e : TypeId} {A : Option Addr} {vs : List Value} (h : w.ownsRow base e size (.slice A n c) n vs) (hn : 0 < n) : ∃ g, A = some ⟨g, 0, none⟩ ∧ base ≤ g ∧ g < w.heap.size := by
  rcases h.2 with ⟨h1, h2⟩ | ⟨g, cap, cur, hv, hb, hh, _⟩
  · omega
  · injection hv with h1
    exact ⟨g, h1, hb, Blk.lt hh⟩
theorem own_frozenS {w : World} {base size n c g : Nat} {e : TypeId} {vs : List Value} (h : w.ownsRow base e size (.slice (some ⟨g, 0, none⟩) n c) n vs) (j : Nat) : w.frozen? ⟨g, j, none⟩ = false := by
  rcases own_blk h with ⟨h1, _⟩ | ⟨g', cur, h1, _, h2⟩
  · cases h1
  · injection h1 with h1; injection h1 with h1; subst h1; exact h2.frozen j
section
variable {P : Program} {t e : TypeId} {z : Value} {size bytes : Nat}
/-- append onto a row of the call's own, of whatever elements -/
theorem wpList_append_S {W w : World} (hT : CellS P t e z size bytes) {ops : Array Oper} {rest : List Oper} {o : Oper} {a : Act} {Q : Exit → Act → World → Prop} (s x : Operand)
    (ho : o.op = .call { callee := .builtin .append, args := #[s, x], argTypes := #[t, t] }) (hw : Region.wanted o (yielded ops a.tmps) = true)
    {A : Option Addr} {n c : Nat} {vs : List Value} (hs : a.eval s = .slice A n c) (hown : w.ownsRow W.heap.size e size (.slice A n c) n vs)
    {B : Nat} {A' : Option Addr} {m c' : Nat} {ws : List Value} (hx : a.eval x = .slice A' m c') (hr : Rd w B A' (m * size) ws) (h1 : ∀ u ∈ ws, u.oneCell' = true) (hnm : n + m ≤ 1099511627776) (hby : bytes ≤ 100) (hB : Below W.heap.size W w)
    (h : ∀ A2 c2 w2, w2.ownsRow W.heap.size e size (.slice A2 (n + m) c2) (n + m) (vs ++ ws) → Below W.heap.size W w2 → w.grownBy w2 (Value.slice A n c).ownBlock → wpList P ops Q rest (a.put o.dst (.slice A2 (n + m) c2)) w2) :
    wpList P ops Q (o :: rest) a w := by
  obtain ⟨i, hi, hz, hsz, hbi⟩ := info_parts hT.info
  obtain ⟨v', w', hrun, h2, h3, h4⟩ := run_append_rdS (P := P) w W.heap.size t o.type e i z size bytes hT.under hi hz hsz hbi hT.one hT.pos _ n vs hown B A' m c' ws hr h1
    (by unfold maxLen; omega) (by have := Nat.mul_le_mul hnm hby; omega) hB.size
  have hlt := hown.lt
  have hB2 : Below W.heap.size W w' := hB.grown h3 hB.size (fun k hk => (hlt k hk).1)
  obtain ⟨A2, c2, rfl, hr2⟩ := Rd.of_ownS h2 hT.pos
  have hgo := h A2 c2 w' h2 hB2 h3
  unfold wpList
  rw [if_pos hw]
  refine Or.inl ?_
  unfold Oper.wp execOp
  simp only [ho, resolve, invoke, builtin, Sem.run_bind, Sem.run_pure, Result.andThen_ok, List.map_toArray, List.map_cons, List.map_nil, hs, hx, hrun]
  exact hgo
/-- .. at one operation of a region whose order is drawn -/
theorem wp_append_S {W w : World} (hT : CellS P t e z size bytes) {o : Oper} {a : Act} {next : Act → World → Prop} {Q : Exit → Act → World → Prop} (s x : Operand)
    (ho : o.op = .call { callee := .builtin .append, args := #[s, x], argTypes := #[t, t] })
    {A : Option Addr} {n c : Nat} {vs : List Value} (hs : a.eval s = .slice A n c) (hown : w.ownsRow W.heap.size e size (.slice A n c) n vs)
    {B : Nat} {A' : Option Addr} {m c' : Nat} {ws : List Value} (hx : a.eval x = .slice A' m c') (hr : Rd w B A' (m * size) ws) (h1 : ∀ u ∈ ws, u.oneCell' = true) (hnm : n + m ≤ 1099511627776) (hby : bytes ≤ 100) (hB : Below W.heap.size W w)
    (h : ∀ A2 c2 w2, w2.ownsRow W.heap.size e size (.slice A2 (n + m) c2) (n + m) (vs ++ ws) → Below W.heap.size W w2 → w.grownBy w2 (Value.slice A n c).ownBlock → next (a.put o.dst (.slice A2 (n + m) c2)) w2) :
    o.wp P a w next Q := by
  obtain ⟨i, hi, hz, hsz, hbi⟩ := info_parts hT.info
  obtain ⟨v', w', hrun, h2, h3, h4⟩ := run_append_rdS (P := P) w W.heap.size t o.type e i z size bytes hT.under hi hz hsz hbi hT.one hT.pos _ n vs hown B A' m c' ws hr h1
    (by unfold maxLen; omega) (by have := Nat.mul_le_mul hnm hby; omega) hB.size
  have hlt := hown.lt
  have hB2 : Below W.heap.size W w' := hB.grown h3 hB.size (fun k hk => (hlt k hk).1)
  obtain ⟨A2, c2, rfl, hr2⟩ := Rd.of_ownS h2 hT.pos
  have hgo := h A2 c2 w' h2 hB2 h3
  unfold Oper.wp execOp
  simp only [ho, resolve, invoke, builtin, Sem.run_bind, Sem.run_pure, Result.andThen_ok, List.map_toArray, List.map_cons, List.map_nil, hs, hx, hrun]
  exact hgo
theorem step_append_S {W w : World} (hT : CellS P t e z size bytes) {ops : Array Oper} {o : Oper} {a : Act} {K : Act → World → Prop} {Q : Exit → Act → World → Prop} {E : Prop} (s x : Operand)
    (ho : o.op = .call { callee := .builtin .append, args := #[s, x], argTypes := #[t, t] }) (hg : o.guard = none)
    {A : Option Addr} {n c : Nat} {vs : List Value} (hs : a.eval s = .slice A n c) (hown : w.ownsRow W.heap.size e size (.slice A n c) n vs)
    {B : Nat} {A' : Option Addr} {m c' : Nat} {ws : List Value} (hx : a.eval x = .slice A' m c') (hr : Rd w B A' (m * size) ws) (h1 : ∀ u ∈ ws, u.oneCell' = true) (hnm : n + m ≤ 1099511627776) (hby : bytes ≤ 100) (hB : Below W.heap.size W w)
    (h : ∀ A2 c2 w2, w2.ownsRow W.heap.size e size (.slice A2 (n + m) c2) (n + m) (vs ++ ws) → Below W.heap.size W w2 → w.grownBy w2 (Value.slice A n c).ownBlock → K (a.put o.dst (.slice A2 (n + m) c2)) w2) :
    if Region.wanted o (yielded ops a.tmps) = true then Oper.wp P o a w K Q else E := by
  have hw : Region.wanted o (yielded ops a.tmps) = true := by simp [Region.wanted, hg]
  rw [if_pos hw]
  exact wp_append_S hT s x ho hs hown hx hr h1 hnm hby hB h
end
end Go.Proofs.YtaknfmionkkdjaaGreat

