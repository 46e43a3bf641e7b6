/- A row of the call's own, at any place of its block, of elements of several cells: append, store, cut, clear. -/
import Derived.Test.YteafbljdlcbckaaMem2
namespace Go.Proofs.Yteafbljdlcbckaa
open Go.RowKit
set_option linter.unusedVariables false

/-- the slice at A, of n elements of 'size' cells each, is xs; it lies in a block at or beyond 'base' that has room for c of them -/
structure OffRow (w : World) (base : Nat) (e : TypeId) (size : Nat) (A : Option Addr) (n c : Nat) (xs : List Value) : Prop where
  len : xs.length = n * size
  le : n ≤ c
  max : c ≤ maxLen
  blk : (A = none ∧ c = 0) ∨ ∃ g o cur, A = some ⟨g, o, none⟩ ∧ base ≤ g ∧ Blk w g e cur ∧ o + c * size ≤ cur.size ∧ ∀ i, i < n * size → cur[o + i]? = xs[i]?
theorem addr_add (g o j : Nat) : (⟨g, o, none⟩ : Addr).add j = ⟨g, o + j, none⟩ := by unfold Addr.add; split <;> simp_all
section
variable {w w' : World} {base : Nat} {e : TypeId} {size n c : Nat} {A : Option Addr} {xs : List Value}
theorem OffRow.nil (w : World) (base : Nat) (e : TypeId) (size : Nat) : OffRow w base e size none 0 0 [] := ⟨by simp, by omega, by unfold maxLen; omega, .inl ⟨rfl, rfl⟩⟩
theorem OffRow.of_own (h : w.ownsRow base e size (.slice A n c) n xs) : OffRow w base e size A n c xs := by
  rcases h.2 with ⟨h1, h2⟩ | ⟨g, cap, cur, hv, hb, hh, hnc, hm, hs, ht⟩
  · injection h1 with e1 e2 e3
    subst e1 e2 e3
    exact ⟨h.1, Nat.le_refl _, by unfold maxLen; omega, .inl ⟨rfl, rfl⟩⟩
  · injection hv with e1 e2 e3
    subst e1 e3
    refine ⟨h.1, hnc, hm, .inr ⟨g, 0, cur, rfl, hb, hh, by omega, fun i hi => ?_⟩⟩
    rw [Nat.zero_add, ← ht, List.getElem?_take_of_lt hi]; simp
theorem OffRow.grown {row : Option Nat} (h : OffRow w base e size A n c xs) (hg : w.grownBy w' row) (hne : ∀ g o, A = some ⟨g, o, none⟩ → some g ≠ row) : OffRow w' base e size A n c xs :=
  ⟨h.len, h.le, h.max, h.blk.imp id fun ⟨g, o, cur, e1, e2, e3, e4⟩ => ⟨g, o, cur, e1, e2, e3.grown hg (hne g o e1), e4⟩⟩
theorem OffRow.below (h : OffRow w base e size A n c xs) (hb : Below w.heap.size w w') : OffRow w' base e size A n c xs :=
  ⟨h.len, h.le, h.max, h.blk.imp id fun ⟨g, o, cur, e1, e2, e3, e4⟩ => ⟨g, o, cur, e1, e2, e3.below hb, e4⟩⟩
theorem OffRow.more {base' : Nat} (h : OffRow w base e size A n c xs) (hb : base' ≤ base) : OffRow w base' e size A n c xs :=
  ⟨h.len, h.le, h.max, h.blk.imp id fun ⟨g, o, cur, e1, e2, e3⟩ => ⟨g, o, cur, e1, by omega, e3⟩⟩
theorem OffRow.alloc (h : OffRow w base e size A n c xs) (o : Obj) : OffRow (w.alloc o) base e size A n c xs := h.below ((Below.refl _ _).alloc (Nat.le_refl _) o)
/-- where it lies -/
theorem OffRow.addr (h : OffRow w base e size A n c xs) (hn : 0 < c) : ∃ g o cur, A = some ⟨g, o, none⟩ ∧ base ≤ g ∧ Blk w g e cur ∧ o + c * size ≤ cur.size ∧ ∀ i, i < n * size → cur[o + i]? = xs[i]? := by
  rcases h.blk with ⟨_, h2⟩ | h2
  · omega
  · exact h2
theorem OffRow.cell {g o : Nat} (h : OffRow w base e size (some ⟨g, o, none⟩) n c xs) {i : Nat} (hi : i < n * size) : w.cell? ⟨g, o + i, none⟩ = xs[i]? := by
  rcases h.blk with ⟨h1, _⟩ | ⟨g', o', cur, h1, _, h3, _, h5⟩
  · cases h1
  · injection h1 with h1
    injection h1 with e1 e2
    subst e1 e2
    rw [h3.cell, h5 i hi]
theorem OffRow.frozen {g o : Nat} (h : OffRow w base e size (some ⟨g, o, none⟩) n c xs) (j : Nat) : w.frozen? ⟨g, j, none⟩ = false := by
  rcases h.blk with ⟨h1, _⟩ | ⟨g', o', cur, h1, _, h3, _, h5⟩
  · cases h1
  · injection h1 with h1
    injection h1 with e1 e2
    subst e1 e2
    exact h3.frozen j
theorem OffRow.base_le {g o : Nat} (h : OffRow w base e size (some ⟨g, o, none⟩) n c xs) : base ≤ g := by
  rcases h.blk with ⟨h1, _⟩ | ⟨g', o', cur, h1, h2, h3, _, h5⟩
  · cases h1
  · injection h1 with h1
    injection h1 with e1 e2
    subst e1
    exact h2
theorem OffRow.lt {g o : Nat} (h : OffRow w base e size (some ⟨g, o, none⟩) n c xs) : g < w.heap.size := by
  rcases h.blk with ⟨h1, _⟩ | ⟨g', o', cur, h1, h2, h3, _, h5⟩
  · cases h1
  · injection h1 with h1
    injection h1 with e1 e2
    subst e1
    exact h3.lt
theorem OffRow.blkAt {g o : Nat} (h : OffRow w base e size (some ⟨g, o, none⟩) n c xs) : ∃ cur, Blk w g e cur := by
  rcases h.blk with ⟨h1, _⟩ | ⟨g', o', cur, h1, h2, h3, _, h5⟩
  · cases h1
  · injection h1 with h1
    injection h1 with e1 e2
    subst e1
    exact ⟨cur, h3⟩
/-- a store into one of its cells -/
theorem OffRow.set {g o : Nat} (h : OffRow w base e size (some ⟨g, o, none⟩) n c xs) {i : Nat} (hi : i < n * size) (u : Value) : OffRow (w.setCell ⟨g, o + i, none⟩ u) base e size (some ⟨g, o, none⟩) n c (xs.set i u) := by
  refine ⟨by simpa using h.len, h.le, h.max, ?_⟩
  rcases h.blk with ⟨h1, _⟩ | ⟨g', o', cur, h1, h2, h3, h4, h5⟩
  · cases h1
  · injection h1 with h1
    injection h1 with e1 e2
    subst e1 e2
    refine .inr ⟨g, o, _, rfl, h2, h3.set_ (o + i) u, by simpa using h4, fun j hj => ?_⟩
    by_cases e : i = j
    · subst e
      have hlen : i < xs.length := by rw [h.len]; exact hi
      have hcur : o + i < cur.size := by
        have := Nat.mul_le_mul_right size h.le
        omega
      simp [hlen, hcur]
    · rw [List.getElem?_set_ne e, ← h5 j hj, Array.getElem?_setIfInBounds, if_neg (by omega)]
/-- a store elsewhere -/
theorem OffRow.setOther {p : Addr} (h : OffRow w base e size A n c xs) (u : Value) (hne : ∀ g o, A = some ⟨g, o, none⟩ → g ≠ p.block) : OffRow (w.setCell p u) base e size A n c xs :=
  h.grown (row := some p.block) ⟨rfl, rfl, rfl, by simp [World.setCell], fun k hk hn => Below.heap_setCell w p u k (by rintro rfl; exact hn rfl)⟩ (fun g o e1 => by intro e2; injection e2 with e2; exact hne g o e1 e2)
/-- where the rest of a slice of elements of several cells begins -/
def cutAtS (A : Option Addr) (c k size : Nat) : Option Addr := if c = k then A else A.map (·.add (k * size))
theorem OffRow.drop (h : OffRow w base e size A n c xs) {k : Nat} (hk : k ≤ n) : OffRow w base e size (cutAtS A c k size) (n - k) (c - k) (xs.drop (k * size)) := by
  have hle := h.le
  have hmax := h.max
  refine ⟨by rw [List.length_drop, h.len, Nat.sub_mul], by omega, by omega, ?_⟩
  rcases h.blk with ⟨h1, h2⟩ | ⟨g, o, cur, h1, h2, h3, h4, h5⟩
  · subst h1 h2
    refine .inl ⟨?_, by omega⟩
    unfold cutAtS; split <;> rfl
  · subst h1
    unfold cutAtS
    split
    · rename_i hck
      subst hck
      refine .inr ⟨g, o, cur, rfl, h2, h3, by simp; omega, fun i hi => ?_⟩
      have : n - c = 0 := by omega
      rw [this] at hi
      simp at hi
    · refine .inr ⟨g, o + k * size, cur, by simp [addr_add], h2, h3, ?_, fun i hi => ?_⟩
      · have : k * size + (c - k) * size = c * size := by rw [← Nat.add_mul]; congr 1; omega
        omega
      · have : i + k * size < n * size := by
          have : (n - k) * size + k * size = n * size := by rw [← Nat.add_mul]; congr 1; omega
          omega
        rw [Nat.add_assoc, h5 _ (by omega), List.getElem?_drop]
end
/-- s[k:] -/
theorem run_slice_fromS {P : Program} {t e : TypeId} {i : TypeInfo} {size : Nat} (ht : P.underlying t = some (.slice e)) (hi : P.info? e = some i) (hs : i.size = size) (A : Option Addr) (n c k : Nat) (hk : k ≤ n) (w : World) :
    (Instr.slice t (.slice A n c) (some (.int .i64 (k : Int))) none none).run P w = .ok (.slice (cutAtS A c k size) (n - k) (c - k)) w := by
  subst hs
  simp [Instr.slice, run_underlying ht, Instr.sliceBounds, Instr.sliceBound, asIntOf, hk, sizeOf, typeInfo, hi, cutAtS]
theorem heap_alloc_old' (w : World) (o : Obj) (k : Nat) (hk : k < w.heap.size) : (w.drew.alloc o).heap[k]? = w.heap[k]? := Below.heap_alloc w.drew o k hk
/-- append onto such a row, m elements more out of whatever slice that holds them -/
theorem run_append_off {P : Program} (w : World) (base : Nat) (t ty e : TypeId) (i : TypeInfo) (z : Value) (size bytes : Nat) (ht : P.underlying t = some (.slice e)) (hi : P.info? e = some i) (hz : i.zero = some z)
    (hsize : i.size = size) (hby : i.bytes = bytes) (hzs : z.cells.size = size)
    (A : Option Addr) (n cap : Nat) (xs : List Value) (hown : OffRow w base e size A n cap xs)
    (a : Addr) (m c : Nat) (news : List Value) (hm : 0 < m) (hl : news.length = m * size) (hnews : ∀ j u, news[j]? = some u → w.cell? (a.add j) = some u) (h1 : ∀ u ∈ news, u.oneCell' = true)
    (h63 : n + m ≤ maxLen) (hbytes : (n + m) * bytes ≤ 140737488355328) (hbase : base ≤ w.heap.size) :
    ∃ A' c' w', (Builtin.append_ #[t, t] ty #[.slice A n cap, .slice (some a) m c]).run P w = .ok (.slice A' (n + m) c') w' ∧ OffRow w' base e size A' (n + m) c' (xs ++ news) ∧ w.grownBy w' (Value.slice A n cap).ownBlock := by
  subst hsize
  subst hby
  have hsmall : n + m ≤ 9223372036854775807 := by simp only [maxLen] at h63; omega
  have hlen : (xs ++ news).length = (n + m) * i.size := by rw [List.length_append, hown.len, hl, Nat.add_mul]
  have grown : ∀ (old : Nat), old < n + m → ∀ (row : Option Nat),
      OffRow (w.drew.alloc (.cells (xs.toArray ++ news.toArray ++ Builtin.zeroCells z.cells (grownCap w (n + m) old e - (n + m))) e)) base e i.size (some ⟨w.heap.size, 0, none⟩) (n + m) (grownCap w (n + m) old e) (xs ++ news) ∧
      w.grownBy (w.drew.alloc (.cells (xs.toArray ++ news.toArray ++ Builtin.zeroCells z.cells (grownCap w (n + m) old e - (n + m))) e)) row := by
    intro old ho row
    have hge := grownCap_ge w (n + m) old e
    have hcm : grownCap w (n + m) old e ≤ maxLen := grownCap_le_maxLen w (n + m) old e h63
    refine ⟨⟨hlen, hge, hcm, .inr ⟨w.heap.size, 0, _, rfl, hbase, heap_alloc_new w.drew _, ?_, fun j hj => ?_⟩⟩, ⟨rfl, rfl, rfl, by simp, fun k hk _ => heap_alloc_old' w _ k hk⟩⟩
    · simp only [Array.size_append, List.size_toArray, size_zeroCells, hzs, hown.len, hl, ← Nat.add_mul]
      have : n + m + (grownCap w (n + m) old e - (n + m)) = grownCap w (n + m) old e := by omega
      rw [this]; omega
    · have hx : xs.length = n * i.size := hown.len
      rw [Nat.add_mul] at hj
      rw [Nat.zero_add, Array.getElem?_append_left (by simp; omega)]
      simp
  have hxl := hown.len
  rcases hown.blk with ⟨rfl, rfl⟩ | ⟨g, o, cur, rfl, hbg, hg, hfit, hcs⟩
  · obtain rfl : n = 0 := by have := hown.le; omega
    have hx : xs = [] := List.eq_nil_of_length_eq_zero (by simpa using hxl)
    subst hx
    have hr := run_append_nil (P := P) w t ty e i z ht hi hz a m c news hl hnews hm (by omega) (by have hb := hbytes; simp only [Nat.zero_add] at hb; omega)
    have hgr := grown 0 (by omega) (Value.ownBlock (.slice none 0 0))
    simp only [Nat.zero_add, List.nil_append, Array.empty_append] at hgr ⊢
    exact ⟨_, _, _, hr, hgr.1, hgr.2⟩
  · by_cases hroom : n + m ≤ cap
    · have hnm : (n + m) * i.size ≤ cap * i.size := Nat.mul_le_mul_right _ hroom
      rw [Nat.add_mul] at hnm
      have hf := run_firstCells_some (P := P) w i.size m a m c news hl hnews
      have hst := run_storeCells_at P g (o + n * i.size) e news 0 cur w hg (by omega) h1
      simp only [Nat.add_zero] at hst
      refine ⟨some ⟨g, o, none⟩, cap, w.setRow g (cur.toList.take (o + n * i.size) ++ news ++ cur.toList.drop (o + n * i.size + news.length)).toArray, ?_, ⟨hlen, hroom, hown.max, .inr ⟨g, o, _, rfl, hbg, setRow_heap w g cur _ e _ hg, ?_, fun j hj => ?_⟩⟩, ⟨rfl, rfl, rfl, by simp, fun k _ hk => setRow_other w g k _ (fun e => hk (by simp [Value.ownBlock, e]))⟩⟩
      · simp [Builtin.append_, run_underlying ht, sizeOf, typeInfo, hi, Builtin.lenOf, hroom, hf, addr_add, hst]
      · simp only [List.size_toArray, List.length_append, List.length_take, List.length_drop, Array.length_toList]
        omega
      · rw [Nat.add_mul] at hj
        rw [List.getElem?_toArray]
        by_cases h2 : j < n * i.size
        · rw [List.append_assoc, List.getElem?_append_left (by simp; omega), List.getElem?_take_of_lt (by omega), List.getElem?_append_left (by omega), ← hcs j h2]
          simp
        · have e1 : (cur.toList.take (o + n * i.size)).length = o + n * i.size := by simp; omega
          rw [List.append_assoc, List.getElem?_append_right (by omega), e1, show o + j - (o + n * i.size) = j - n * i.size by omega, List.getElem?_append_left (by omega), List.getElem?_append_right (l₁ := xs) (by omega), hxl]
    · have hr := run_append_grow (P := P) w t ty e i z ht hi hz ⟨g, o, none⟩ n cap xs hown.len (fun j u hu => by
        have hj : j < n * i.size := by rw [← hxl]; exact (List.getElem?_eq_some_iff.1 hu).1
        rw [addr_add, hown.cell hj, hu]) a m c news hl hnews (by omega) (by omega) (growslice_fits (by omega) hbytes)
      have hgr := grown cap (by omega) (Value.ownBlock (.slice (some ⟨g, o, none⟩) n cap))
      exact ⟨_, _, _, hr, hgr.1, hgr.2⟩
/-- the same, for the walk -/
theorem wpList_append_off {P : Program} {t e : TypeId} {z : Value} {size bytes base : Nat} {w : World} (hU : P.underlying t = some (.slice e)) (hI : (P.info? e).map (fun i => (i.zero, i.size, i.bytes)) = some (some z, size, bytes)) (hzs : z.cells.size = size)
    {ops : Array Oper} {rest : List Oper} {o : Oper} {a : Act} {Q : Exit → Act → World → Prop} (s x : Operand)
    (ho : o.op = .call { callee := .builtin .append, args := #[s, x], argTypes := #[t, t] }) (hw : Region.wanted o (yielded ops a.tmps) = true)
    {A : Option Addr} {n c : Nat} {xs : List Value} (hs : a.eval s = .slice A n c) (hown : OffRow w base e size A n c xs)
    {ad : Addr} {m c' : Nat} {news : List Value} (hx : a.eval x = .slice (some ad) m c') (hm : 0 < m) (hl : news.length = m * size) (hnews : ∀ j u, news[j]? = some u → w.cell? (ad.add j) = some u) (h1 : ∀ u ∈ news, u.oneCell' = true)
    (hnm : n + m ≤ 2199023255552) (hby : bytes ≤ 64) (hbase : base ≤ w.heap.size)
    (h : ∀ A2 c2 w2, OffRow w2 base e size A2 (n + m) c2 (xs ++ news) → w.grownBy w2 (Value.slice A n c).ownBlock → wpList P ops Q rest (a.put o.dst (.slice A2 (n + m) c2)) w2) :
    wpList P ops Q (o :: rest) a w := by
  obtain ⟨i, hi, hz, hsz, hbi⟩ := info_parts hI
  obtain ⟨A2, c2, w2, hrun, h2, h3⟩ := run_append_off (P := P) w base t o.type e i z size bytes hU hi hz hsz hbi hzs A n c xs hown ad m c' news hm hl hnews h1
    (by unfold maxLen; omega) (by have := Nat.mul_le_mul hnm hby; omega) hbase
  have hgo := h A2 c2 w2 h2 h3
  unfold wpList
  rw [if_pos hw]
  refine Or.inl ?_
  unfold Oper.wp execOp
  simp only [ho, resolve, invoke, builtin, Sem.run_bind, Sem.run_pure, Result.andThen_ok, List.map_toArray, List.map_cons, List.map_nil, hs, hx, hrun]
  exact hgo
/-- clear -/
theorem run_clear_off {P : Program} (w : World) (base : Nat) (t ty e : TypeId) (i : TypeInfo) (z : Value) (size : Nat) (ht : P.underlying t = some (.slice e)) (hi : P.info? e = some i) (hz : i.zero = some z)
    (hzs : z.cells.size = size) (h1 : ∀ u ∈ z.cells.toList, u.oneCell' = true)
    (A : Option Addr) (n cap : Nat) (xs : List Value) (hown : OffRow w base e size A n cap xs) (k : Nat) (hk : k ≤ n) :
    ∃ w' ys, (Builtin.clear_ #[t] ty #[.slice A k cap]).run P w = .ok (.tuple #[]) w' ∧ OffRow w' base e size A n cap (ys ++ xs.drop (k * size)) ∧ ys.length = k * size ∧ w.grownBy w' (Value.slice A n cap).ownBlock := by
  have hxl := hown.len
  rcases hown.blk with ⟨rfl, rfl⟩ | ⟨g, o, cur, rfl, hbg, hg, hfit, hcs⟩
  · obtain rfl : n = 0 := by have := hown.le; omega
    obtain rfl : k = 0 := by omega
    exact ⟨w, [], by simp [Builtin.clear_, run_underlying ht], by simpa using hown, by simp, World.grownBy.refl _ _⟩
  · rcases Nat.eq_zero_or_pos k with rfl | hk0
    · exact ⟨w, [], by simp [Builtin.clear_, run_underlying ht], by simpa using hown, by simp, World.grownBy.refl _ _⟩
    · obtain ⟨k', rfl⟩ : ∃ k', k = k' + 1 := ⟨k - 1, by omega⟩
      have hnm : (k' + 1) * size ≤ n * size := Nat.mul_le_mul_right _ hk
      have hnc : n * size ≤ cap * size := Nat.mul_le_mul_right _ hown.le
      have hzl : (Builtin.zeroCells z.cells (k' + 1)).toList.length = (k' + 1) * size := by rw [Array.length_toList, size_zeroCells, hzs]
      have hst := run_storeCells_at P g o e (Builtin.zeroCells z.cells (k' + 1)).toList 0 cur w hg (by omega) (by
        intro u hu
        have hu' : u ∈ Builtin.zeroCells z.cells (k' + 1) := by simpa using hu
        unfold Builtin.zeroCells at hu'
        obtain ⟨j, hj, rfl⟩ := Array.mem_map.1 hu'
        have hz0 : 0 < z.cells.size := by
          rcases Nat.eq_zero_or_pos z.cells.size with h0 | h0
          · rw [h0] at hj; simp at hj
          · exact h0
        refine h1 _ ?_
        have hlt : j % z.cells.size < z.cells.size := Nat.mod_lt _ hz0
        rw [getElem!_pos z.cells _ hlt]
        simp)
      simp only [Nat.add_zero] at hst
      refine ⟨_, (Builtin.zeroCells z.cells (k' + 1)).toList, ?_, ⟨?_, hown.le, hown.max, .inr ⟨g, o, _, rfl, hbg, setRow_heap w g cur (cur.toList.take o ++ (Builtin.zeroCells z.cells (k' + 1)).toList ++ cur.toList.drop (o + (Builtin.zeroCells z.cells (k' + 1)).toList.length)).toArray e _ hg, ?_, fun j hj => ?_⟩⟩, hzl, ⟨rfl, rfl, rfl, by simp, fun k _ hk => setRow_other w g k _ (fun e => hk (by simp [Value.ownBlock, e]))⟩⟩
      · simp [Builtin.clear_, run_underlying ht, zeroValue, typeInfo, hi, hz, hst]
      · rw [List.length_append, List.length_drop, hzl, hxl]; omega
      · simp only [List.size_toArray, List.length_append, List.length_take, List.length_drop, Array.length_toList]
        omega
      · rw [List.getElem?_toArray, List.append_assoc, List.getElem?_append_right (by simp; omega)]
        have e1 : (cur.toList.take o).length = o := by simp; omega
        rw [e1]
        have e2 : o + j - o = j := by omega
        rw [e2]
        by_cases h2 : j < (k' + 1) * size
        · rw [List.getElem?_append_left (by omega), List.getElem?_append_left (by omega)]
        · rw [List.getElem?_append_right (by omega), List.getElem?_append_right (by omega), hzl, List.getElem?_drop, List.getElem?_drop, ← hcs _ (by omega)]
          simp
          congr 1
          omega
/-- clear, for the walk -/
theorem wpList_clear_off {P : Program} {t e : TypeId} {z : Value} {size bytes base : Nat} {w : World} (hU : P.underlying t = some (.slice e)) (hI : (P.info? e).map (fun i => (i.zero, i.size, i.bytes)) = some (some z, size, bytes)) (hzs : z.cells.size = size) (h1 : ∀ u ∈ z.cells.toList, u.oneCell' = true)
    {ops : Array Oper} {rest : List Oper} {o : Oper} {a : Act} {Q : Exit → Act → World → Prop} (s : Operand)
    (ho : o.op = .call { callee := .builtin .clear, args := #[s], argTypes := #[t] }) (hw : Region.wanted o (yielded ops a.tmps) = true)
    {A : Option Addr} {n k c : Nat} {xs : List Value} (hs : a.eval s = .slice A k c) (hown : OffRow w base e size A n c xs) (hk : k ≤ n)
    (h : ∀ w2 ys, OffRow w2 base e size A n c (ys ++ xs.drop (k * size)) → ys.length = k * size → w.grownBy w2 (Value.slice A n c).ownBlock → wpList P ops Q rest (a.put o.dst (.tuple #[])) w2) :
    wpList P ops Q (o :: rest) a w := by
  obtain ⟨i, hi, hz, hsz, hbi⟩ := info_parts hI
  obtain ⟨w2, ys, hrun, h2, h3, h4⟩ := run_clear_off (P := P) w base t o.type e i z size hU hi hz hzs h1 A n c xs hown k hk
  have hgo := h w2 ys h2 h3 h4
  unfold wpList
  rw [if_pos hw]
  refine Or.inl ?_
  unfold Oper.wp execOp
  simp only [ho, resolve, invoke, builtin, Sem.run_bind, Sem.run_pure, Result.andThen_ok, List.map_toArray, List.map_cons, List.map_nil, hs, hrun]
  exact hgo
end Go.Proofs.Yteafbljdlcbckaa
