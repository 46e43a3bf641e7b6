/- Mem Mem2 OwnKit ResKit -/
import Derived.Below
import Derived.Deep.AppendLies
import Derived.Deep.Draws
import Derived.Laws.OwnMore
import Derived.Lib.SlBytesConst
import Derived.Maps.AppendAt
import Derived.OpenShut
import Derived.OwnWalk
import Derived.ProofKit
import Derived.WalkKit
import Derived.Laws.BytesArg
import Derived.Laws.Rows
import Derived.Lib.Hide
import Derived.Deep.RegionWith
import Derived.IntWalk
import Derived.Laws.BitsAllLaws
import Derived.Outline
import Derived.Test.YtaknfmionkkdjaaGreatRows
import Derived.WalkLawsBesides
import Derived.WalkSpells
namespace Go.Proofs.YtaknfmionkkdjaaGreat
open Go.RowKit

/-- the n elements of the slice at a are vs, one cell each, in a block below B; of a slice without elements the address is left open -/
def Rd (w : World) (B : Nat) (a : Option Addr) (n : Nat) (vs : List Value) : Prop :=
  vs.length = n ∧ (0 < n → ∃ b o, a = some ⟨b, o, none⟩ ∧ b < B ∧ ∀ i, i < n → w.cell? ⟨b, o + i, none⟩ = vs[i]?)
/-- bytes as values -/
def bv (l : List Nat) : List Value := l.map fun (x : Nat) => Value.int .u8 (x : Int)
theorem bv_get {l : List Nat} {k : Nat} (h : k < l.length) : (bv l)[k]? = some (.int .u8 (l[k] : Int)) := by
  unfold bv; rw [List.getElem?_map, List.getElem?_eq_getElem h]; rfl
theorem bv_length (l : List Nat) : (bv l).length = l.length := by simp [bv]
theorem bv_append (l m : List Nat) : bv (l ++ m) = bv l ++ bv m := by simp [bv]
theorem ret_int {k : IntKind} {a b : Int} (h : a = b) : Ending.returned (.int k a) = .returned (.int k b) := by rw [h]
theorem ret_bool {a b : Bool} (h : a = b) : Ending.returned (.bool a) = .returned (.bool b) := by rw [h]

section
variable {w w' : World} {B n : Nat} {a : Option Addr} {vs : List Value} {l : List Nat}
theorem Rd.none_ (w : World) (B : Nat) (a : Option Addr) : Rd w B a 0 [] := ⟨rfl, fun h => absurd h (by omega)⟩
theorem Rd.keep {B' : Nat} (h : Rd w B a n vs) (hk : ∀ p : Addr, p.block < B → w'.cell? p = w.cell? p) (hB : B ≤ B') : Rd w' B' a n vs :=
  ⟨h.1, fun hn => by
    obtain ⟨b, o, e, hb, hc⟩ := h.2 hn
    exact ⟨b, o, e, by omega, fun i hi => (hk _ hb).trans (hc i hi)⟩⟩
theorem Rd.below (h : Rd w B a n vs) (hb : Below B w w') : Rd w' B a n vs := h.keep (fun _ hp => hb.cell hp) (Nat.le_refl _)
theorem Rd.take (h : Rd w B a n vs) {k : Nat} (hk : k ≤ n) : Rd w B a k (vs.take k) :=
  ⟨by rw [List.length_take, h.1]; omega, fun hp => by
    obtain ⟨b, o, e, hb, hc⟩ := h.2 (by omega)
    exact ⟨b, o, e, hb, fun i hi => by rw [hc i (by omega), List.getElem?_take_of_lt hi]⟩⟩
theorem Rd.drew (h : Rd w B a n vs) : Rd w.drew B a n vs := h
theorem Rd.drewN (h : Rd w B a n vs) (k : Nat) : Rd (w.drewN k) B a n vs := h
theorem Rd.alloc (h : Rd w B a n vs) (hB : B ≤ w.heap.size) (o : Obj) : Rd (w.alloc o) B a n vs := h.below ((Below.refl _ _).alloc hB _)
theorem Rd.length (h : Rd w B a n (bv l)) : l.length = n := by have := h.1; rwa [bv_length] at this
theorem Rd.made (w : World) (cs : Array Value) (t : TypeId) (mark : Nat × Nat) (n : Nat) (hn : cs.size = n) : Rd (w.alloc (.cells cs t mark)) (w.heap.size + 1) (some ⟨w.heap.size, 0, none⟩) n cs.toList :=
  ⟨by simpa using hn, fun _ => ⟨_, _, rfl, by omega, fun i hi => by rw [Nat.zero_add, World.cell?_alloc_mark]; simp⟩⟩
end

theorem Rd.oneCell {l : List Nat} : ∀ u ∈ bv l, u.oneCell' = true := by
  intro u hu
  obtain ⟨x, _, rfl⟩ := List.mem_map.1 hu
  rfl
/-- what is appended, from whatever slice that reads as vs, nil too, to a row of the call's own -/
theorem run_append_rd {P : Program} (w : World) (base : Nat) (t ty e : TypeId) (i : TypeInfo) (z : Value) (bytes : Nat) (ht : P.underlying t = some (.slice e)) (hi : P.info? e = some i) (hz : i.zero = some z)
    (hsize : i.size = 1) (hby : i.bytes = bytes) (hzs : z.cells.size = 1)
    (v : Value) (n : Nat) (xs : List Value) (hown : w.ownsRow base e 1 v n xs)
    (B : Nat) (a : Option Addr) (m c : Nat) (vs : List Value) (hr : Rd w B a m vs) (h1 : ∀ u ∈ vs, u.oneCell' = true)
    (h63 : n + m ≤ maxLen) (hbytes : (n + m) * bytes ≤ 140737488355328) (hbase : base ≤ w.heap.size) :
    ∃ v' w', (Builtin.append_ #[t, t] ty #[v, .slice a m c]).run P w = .ok v' w' ∧ w'.ownsRow base e 1 v' (n + m) (xs ++ vs) ∧ w.grownBy w' v.ownBlock ∧
      (v'.ownBlock = v.ownBlock ∨ v'.ownBlock = some w.heap.size) := by
  rcases Nat.eq_zero_or_pos m with h0 | h0
  · subst h0
    have hn : vs = [] := List.eq_nil_of_length_eq_zero hr.1
    subst hn
    cases a with
    | none =>
      refine ⟨v, w, ?_, by simpa using hown, World.grownBy.refl w _, .inl rfl⟩
      rcases hown.2 with ⟨rfl, rfl⟩ | ⟨g, cap, cur, rfl, _, _, hnc, _⟩
      · simp [Builtin.append_, run_underlying ht, sizeOf, typeInfo, hi, Builtin.lenOf, Builtin.firstCells]
      · simp [Builtin.append_, run_underlying ht, sizeOf, typeInfo, hi, Builtin.lenOf, Builtin.firstCells, hnc, storeCells]
    | some ad =>
      obtain ⟨v', w', hrun, h2, h3, _, h5⟩ := run_append_own_at (P := P) w base t ty e i z 1 bytes ht hi hz hsize hby hzs (by omega) v n xs hown ad 0 c [] rfl (by simp) h1 h63 hbytes hbase
      exact ⟨v', w', hrun, h2, h3, h5⟩
  · obtain ⟨b, o, rfl, _, hc⟩ := hr.2 h0
    have hadd : ∀ j, (⟨b, o, none⟩ : Addr).add j = ⟨b, o + j, none⟩ := fun j => by unfold Addr.add; split <;> simp_all
    obtain ⟨v', w', hrun, h2, h3, _, h5⟩ := run_append_own_at (P := P) w base t ty e i z 1 bytes ht hi hz hsize hby hzs (by omega) v n xs hown ⟨b, o, none⟩ m c vs (by rw [hr.1, Nat.mul_one])
      (fun j u hu => by
        have hj : j < m := by have := (List.getElem?_eq_some_iff.1 hu).1; rw [hr.1] at this; exact this
        rw [hadd, hc j hj, hu]) h1 h63 hbytes hbase
    exact ⟨v', w', hrun, h2, h3, h5⟩
theorem own_addr {w : World} {base n c : Nat} {e : TypeId} {A : Option Addr} {vs : List Value} (h : w.ownsRow base e 1 (.slice A n c) n vs) (hn : 0 < n) : ∃ g, A = some ⟨g, 0, none⟩ ∧ base ≤ g ∧ g < w.heap.size := by
  obtain ⟨g, cap, hv, hb, hlt⟩ := h.form hn
  injection hv with h1
  exact ⟨g, h1, hb, hlt⟩
/-- a row of the call's own reads -/
theorem Rd.of_own {w : World} {base n : Nat} {e : TypeId} {v : Value} {vs : List Value} (h : w.ownsRow base e 1 v n vs) : ∃ a c, v = .slice a n c ∧ Rd w w.heap.size a n vs := by
  have hl : vs.length = n := by simpa using h.1
  rcases h.2 with ⟨rfl, rfl⟩ | ⟨g, cap, cur, rfl, _, hh, hnc, hm, hs, ht⟩
  · exact ⟨none, 0, rfl, by rw [List.eq_nil_of_length_eq_zero hl]; exact Rd.none_ _ _ _⟩
  · have hlt : g < w.heap.size := by
      rcases Nat.lt_or_ge g w.heap.size with h' | h'
      · exact h'
      · rw [Array.getElem?_eq_none h'] at hh; cases hh
    refine ⟨_, cap, rfl, hl, fun _ => ⟨g, 0, rfl, hlt, fun i hi => ?_⟩⟩
    have h1 := h.cellAt i (by omega)
    rw [Nat.zero_add]
    exact h1

theorem Rd.own_ {w : World} {base n c : Nat} {e : TypeId} {A : Option Addr} {vs : List Value} (h : w.ownsRow base e 1 (.slice A n c) n vs) : Rd w w.heap.size A n vs := by
  obtain ⟨a, c', hv, hr⟩ := Rd.of_own h
  injection hv with h1
  subst h1
  exact hr
/-- t is a type of slices of bytes, e the bytes' -/
structure ByteT (P : Program) (t e : TypeId) : Prop where
  under : P.underlying t = some (.slice e)
  info : (P.info? e).map (fun i => (i.zero, i.size, i.bytes)) = some (some (.int .u8 0), 1, 1)

section
variable {P : Program} {t e : TypeId}
/-- append, of bytes, onto a row of the call's own, from whatever bytes: the law for the walk. W is the world in which the call began. -/
theorem wpList_append_bytes {W w : World} (hT : ByteT P t e) {ops : Array Oper} {rest : List Oper} {o : Oper} {a : Act} {Q : Exit → Act → World → Prop} (s x : Operand)
    (ho : o.op = .call { callee := .builtin .append, args := #[s, x], argTypes := #[t, t] }) (hw : Region.wanted o (yielded ops a.tmps) = true)
    {A : Option Addr} {n c : Nat} {l : List Nat} (hs : a.eval s = .slice A n c) (hown : w.ownsRow W.heap.size e 1 (.slice A n c) n (bv l))
    {B : Nat} {A' : Option Addr} {m c' : Nat} {l' : List Nat} (hx : a.eval x = .slice A' m c') (hr : Rd w B A' m (bv l')) (hnm : n + m ≤ 1099511627776) (hB : Below W.heap.size W w)
    (h : ∀ A2 c2 w2, w2.ownsRow W.heap.size e 1 (.slice A2 (n + m) c2) (n + m) (bv (l ++ l')) → Rd w2 w2.heap.size A2 (n + m) (bv (l ++ l')) → Below W.heap.size W w2 → wpList P ops Q rest (a.put o.dst (.slice A2 (n + m) c2)) w2) :
    wpList P ops Q (o :: rest) a w := by
  obtain ⟨i, hi, hz, hsz, hby⟩ := info_parts hT.info
  obtain ⟨v', w', hrun, h2, h3, h4⟩ := run_append_rd (P := P) w W.heap.size t o.type e i (.int .u8 0) 1 hT.under hi hz hsz hby rfl _ n (bv l) hown B A' m c' (bv l') hr Rd.oneCell
    (by unfold maxLen; omega) (by omega) hB.size
  have hlt := hown.lt
  have hB2 : Below W.heap.size W w' := hB.grown h3 hB.size (fun k hk => (hlt k hk).1)
  rw [← bv_append] at h2
  obtain ⟨A2, c2, rfl, hr2⟩ := Rd.of_own h2
  have hgo := h A2 c2 w' h2 hr2 hB2
  unfold wpList
  rw [if_pos hw]
  refine Or.inl ?_
  unfold Oper.wp execOp
  simp only [ho, resolve, invoke, builtin, Sem.run_bind, Sem.run_pure, Result.andThen_ok, List.map_toArray, List.map_cons, List.map_nil, hs, hx, hrun]
  exact hgo
theorem own_empty {W w : World} (hB : Below W.heap.size W w) (t : TypeId) : (w.alloc (.cells #[] t)).ownsRow W.heap.size t 1 (.slice (some ⟨w.heap.size, 0, none⟩) 0 0) 0 (bv []) :=
  World.ownsRow_made w #[] 0 hB.size (by decide) rfl
end

/-- the bytes of a string, as numbers -/
def sb (s : ByteArray) : List Nat := s.data.toList.map UInt8.toNat
theorem sb_lt (s : ByteArray) : ∀ x ∈ sb s, x < 256 := by
  intro x hx
  obtain ⟨u, _, rfl⟩ := List.mem_map.1 hx
  exact UInt8.toNat_lt u
theorem Rd.of_string (w : World) (s : ByteArray) (cap : Nat) (t : TypeId) (mark : Nat × Nat) : Rd (w.alloc (.cells (bytesRow s cap) t mark)) (w.heap.size + 1) (some ⟨w.heap.size, 0, none⟩) s.size (bv (sb s)) := by
  have hl : (sb s).length = s.size := by unfold sb; rw [List.length_map, Array.length_toList]; rfl
  refine ⟨by rw [bv_length, hl], fun _ => ⟨_, _, rfl, by omega, fun i hi => ?_⟩⟩
  have e : (w.alloc (.cells (bytesRow s cap) t mark)).cell? ⟨w.heap.size, 0 + i, none⟩ = (bytesRow s cap)[0 + i]? := World.cell?_alloc_mark w _ _ _ _
  rw [e, Nat.zero_add, bytesRow_at s cap i hi, bv_get (by omega)]
  unfold sb
  rw [List.getElem_map, Array.getElem_toList]

/-- what a proof's frame tells of a slice of integers that came in -/
def IsRow (k : IntKind) (w : World) (a : Option Addr) (len cap : Nat) (zs : List Int) : Prop :=
  (a = none ∧ len = 0 ∧ cap = 0 ∧ zs = []) ∨
  ∃ x, a = some x ∧ len ≤ cap ∧ cap ≤ maxLen ∧ zs.length = cap ∧ (∀ i, i < zs.length → w.cell? (x.add i) = some (.int k (zs.getD i 0))) ∧ ∀ n ∈ zs, (Lit.int k n).wf = true
end Go.Proofs.YtaknfmionkkdjaaGreat

namespace Go.Proofs.YtaknfmionkkdjaaGreat
open Go.RowKit
set_option linter.unusedVariables false

/-- block g is just these cells of element type t, none of them frozen -/
def Blk (w : World) (g : Nat) (t : TypeId) (cs : Array Value) : Prop := w.heap[g]? = some (.cells cs t (0, 0))
section
variable {w w' : World} {g : Nat} {t : TypeId} {cs : Array Value}
theorem Blk.lt (h : Blk w g t cs) : g < w.heap.size := by
  unfold Blk at h
  exact (Array.getElem?_eq_some_iff.1 h).1
theorem Blk.cell (h : Blk w g t cs) (i : Nat) : w.cell? ⟨g, i, none⟩ = cs[i]? := by
  unfold Blk at h
  simp [World.cell?, h]
theorem Blk.frozen (h : Blk w g t cs) (i : Nat) : w.frozen? ⟨g, i, none⟩ = false := by
  unfold Blk at h
  simp [World.frozen?, h]
theorem Blk.new (w : World) (t : TypeId) (cs : Array Value) : Blk (w.alloc (.cells cs t)) w.heap.size t cs := heap_alloc_new w _
theorem Blk.drew (h : Blk w g t cs) : Blk w.drew g t cs := h
theorem Blk.alloc (h : Blk w g t cs) (o : Obj) : Blk (w.alloc o) g t cs := (Below.heap_alloc w o g h.lt).trans h
theorem Blk.set_ (h : Blk w g t cs) (i : Nat) (u : Value) : Blk (w.setCell ⟨g, i, none⟩ u) g t (cs.setIfInBounds i u) := by
  unfold Blk at h ⊢
  simp [World.setCell, Array.getElem?_modify, h]
theorem Blk.grown {row : Option Nat} (h : Blk w g t cs) (hb : w.grownBy w' row) (hg : some g ≠ row) : Blk w' g t cs := (hb.block g h.lt hg).trans h
theorem Blk.below (h : Blk w g t cs) (hb : Below w.heap.size w w') : Blk w' g t cs := (hb.block g h.lt).trans h
theorem Blk.apart {g' : Nat} {t' : TypeId} {cs' : Array Value} (h : Blk w g t cs) (h' : Blk w g' t' cs') (hne : t ≠ t') : g ≠ g' := by
  intro he
  subst he
  unfold Blk at h h'
  rw [h] at h'
  injection h' with h'
  injection h' with _ ht
  exact hne ht
end

section
variable {w w' : World} {e : TypeId} {A : Option Addr} {n : Nat} {vs : List Value} {l : List Nat}
theorem own_cap {base c size : Nat} (h : w.ownsRow base e size (.slice A n c) n vs) : n ≤ c ∧ c ≤ maxLen := by
  rcases h.2 with ⟨h1, h2⟩ | ⟨g, cap, cur, hv, _, hh, hnc, hm, hs, ht⟩
  · injection h1 with _ _ h3
    subst h3
    exact ⟨by omega, by unfold maxLen; omega⟩
  · injection hv with _ _ h3
    subst h3
    exact ⟨hnc, hm⟩
/-- where a slice's rest begins: Go does not point behind an array's end -/
def cutAt (A : Option Addr) (c k : Nat) : Option Addr := if c = k then A else A.map (·.add k)
theorem Rd.drop {B : Nat} (h : Rd w B A n vs) {k c : Nat} (hk : k ≤ n) (hc : n ≤ c) : Rd w B (cutAt A c k) (n - k) (vs.drop k) := by
  refine ⟨by rw [List.length_drop, h.1], fun hn => ?_⟩
  obtain ⟨g, o, rfl, hb, hcell⟩ := h.2 (by omega)
  unfold cutAt
  rw [if_neg (by omega)]
  refine ⟨g, o + k, ?_, hb, fun i hi => ?_⟩
  · show some ((⟨g, o, none⟩ : Addr).add k) = _
    congr 1
    unfold Addr.add; split <;> simp_all
  · rw [Nat.add_assoc, hcell (k + i) (by omega), List.getElem?_drop]
theorem Rd.fit {B : Nat} (h : Rd w B A n vs) : Rd w w.heap.size A n vs :=
  ⟨h.1, fun hn => by
    obtain ⟨g, o, e1, _, hc⟩ := h.2 hn
    have h0 := hc 0 hn
    rw [List.getElem?_eq_getElem (by rw [h.1]; exact hn)] at h0
    exact ⟨g, o, e1, World.block_lt_of_cell? w _ h0, hc⟩⟩
end
/-- s[k:] -/
theorem run_slice_from {P : Program} {t e : TypeId} {i : TypeInfo} (ht : P.underlying t = some (.slice e)) (hi : P.info? e = some i) (hs : i.size = 1) (A : Option Addr) (n c k : Nat) (hk : k ≤ n) (w : World) :
    (Instr.slice t (.slice A n c) (some (.int .i64 (k : Int))) none none).run P w = .ok (.slice (cutAt A c k) (n - k) (c - k)) w := by
  simp [Instr.slice, run_underlying ht, Instr.sliceBounds, Instr.sliceBound, asIntOf, hk, sizeOf, typeInfo, hi, hs, cutAt]
/-- s[:k] -/
theorem run_slice_to {P : Program} {t e : TypeId} {i : TypeInfo} (ht : P.underlying t = some (.slice e)) (hi : P.info? e = some i) (A : Option Addr) (n c k : Nat) (hk : k ≤ c) (w : World) :
    (Instr.slice t (.slice A n c) none (some (.int .i64 (k : Int))) none).run P w = .ok (.slice A k c) w := by
  have h2 : ∀ x : Addr, x.add 0 = x := by intro x; simp [Addr.add]
  have h3 : (fun (x : Addr) => x.add 0) = id := funext h2
  simp [Instr.slice, run_underlying ht, Instr.sliceBounds, Instr.sliceBound, asIntOf, hk, sizeOf, typeInfo, hi, h3]
/-- a row of the call's own, and its elements' type, of one cell each -/
structure CellT (P : Program) (t e : TypeId) (z : Value) (bytes : Nat) : Prop where
  under : P.underlying t = some (.slice e)
  info : (P.info? e).map (fun i => (i.zero, i.size, i.bytes)) = some (some z, 1, bytes)
  one : z.cells.size = 1
theorem own_blk {w : World} {base n c size : Nat} {e : TypeId} {A : Option Addr} {vs : List Value} (h : w.ownsRow base e size (.slice A n c) n vs) :
    (A = none ∧ n = 0 ∧ vs = []) ∨ ∃ g cur, A = some ⟨g, 0, none⟩ ∧ base ≤ g ∧ Blk w g e cur := by
  rcases h.2 with ⟨h1, h2⟩ | ⟨g, cap, cur, hv, hb, hh, _⟩
  · injection h1 with h1
    subst h2
    exact .inl ⟨h1, rfl, List.eq_nil_of_length_eq_zero (by simpa using h.1)⟩
  · injection hv with h1
    exact .inr ⟨g, cur, h1, hb, hh⟩
theorem ownsRow_below {w w' : World} {base n size : Nat} {e : TypeId} {v : Value} {vs : List Value} (h : w.ownsRow base e size v n vs) (hb : Below w.heap.size w w') : w'.ownsRow base e size v n vs := by
  obtain ⟨h1, h2⟩ := h
  refine ⟨h1, ?_⟩
  rcases h2 with h2 | ⟨g, cap, cur, hv, hg, hh, r⟩
  · exact .inl h2
  · exact .inr ⟨g, cap, cur, hv, hg, (hb.block g (Blk.lt hh)).trans hh, r⟩
section
variable {P : Program} {t e : TypeId} {z : Value} {bytes : Nat}
/-- append onto a row of the call's own, of whatever one-cell elements -/
theorem wpList_append_cells {W w : World} (hT : CellT P t e z bytes) {ops : Array Oper} {rest : List Oper} {o : Oper} {a : Act} {Q : Exit → Act → World → Prop} (s x : Operand)
    (ho : o.op = .call { callee := .builtin .append, args := #[s, x], argTypes := #[t, t] }) (hw : Region.wanted o (yielded ops a.tmps) = true)
    {A : Option Addr} {n c : Nat} {vs : List Value} (hs : a.eval s = .slice A n c) (hown : w.ownsRow W.heap.size e 1 (.slice A n c) n vs)
    {B : Nat} {A' : Option Addr} {m c' : Nat} {ws : List Value} (hx : a.eval x = .slice A' m c') (hr : Rd w B A' m ws) (h1 : ∀ u ∈ ws, u.oneCell' = true) (hnm : n + m ≤ 1099511627776) (hby : bytes ≤ 64) (hB : Below W.heap.size W w)
    (h : ∀ A2 c2 w2, w2.ownsRow W.heap.size e 1 (.slice A2 (n + m) c2) (n + m) (vs ++ ws) → Below W.heap.size W w2 → w.grownBy w2 (Value.slice A n c).ownBlock → wpList P ops Q rest (a.put o.dst (.slice A2 (n + m) c2)) w2) :
    wpList P ops Q (o :: rest) a w := by
  obtain ⟨i, hi, hz, hsz, hbi⟩ := info_parts hT.info
  obtain ⟨v', w', hrun, h2, h3, h4⟩ := run_append_rd (P := P) w W.heap.size t o.type e i z bytes hT.under hi hz hsz hbi hT.one _ n vs hown B A' m c' ws hr h1
    (by unfold maxLen; omega) (by have := Nat.mul_le_mul hnm hby; omega) hB.size
  have hlt := hown.lt
  have hB2 : Below W.heap.size W w' := hB.grown h3 hB.size (fun k hk => (hlt k hk).1)
  obtain ⟨A2, c2, rfl, hr2⟩ := Rd.of_own h2
  have hgo := h A2 c2 w' h2 hB2 h3
  unfold wpList
  rw [if_pos hw]
  refine Or.inl ?_
  unfold Oper.wp execOp
  simp only [ho, resolve, invoke, builtin, Sem.run_bind, Sem.run_pure, Result.andThen_ok, List.map_toArray, List.map_cons, List.map_nil, hs, hx, hrun]
  exact hgo
end
/-- integers as values -/
def iv (zs : List Int) : List Value := zs.map (Value.int .i64)
theorem iv_one (zs : List Int) : ∀ u ∈ iv zs, u.oneCell' = true := by
  intro u hu
  obtain ⟨x, _, rfl⟩ := List.mem_map.1 hu
  rfl
theorem iv_length (zs : List Int) : (iv zs).length = zs.length := by simp [iv]
theorem Rd.oneV (w : World) (v : Value) (t : TypeId) : Rd (w.alloc (.cells #[v] t)) (w.heap.size + 1) (some ⟨w.heap.size, 0, none⟩) 1 [v] := Rd.made w #[v] t (0, 0) 1 rfl
theorem Rd.int_at {w : World} {B n k : Nat} {A : Option Addr} {zs : List Int} (h : Rd w B A n (iv zs)) (hk : k < n) : ∃ b o, A = some ⟨b, o, none⟩ ∧ ∃ hk' : k < zs.length, w.cell? ⟨b, o + k, none⟩ = some (.int .i64 zs[k]) := by
  obtain ⟨b, o, e, _, hc⟩ := h.2 (by omega)
  have hl : k < zs.length := by have := h.1; rw [iv_length] at this; omega
  exact ⟨b, o, e, hl, by rw [hc k hk]; simp [iv, hl]⟩
theorem Rd.int_cell {w : World} {B n k b o : Nat} {zs : List Int} {z : Int} (h : Rd w B (some ⟨b, o, none⟩) n (iv zs)) (hk : k < n) (hz : zs[k]? = some z) : w.cell? ⟨b, o + k, none⟩ = some (.int .i64 z) := by
  obtain ⟨b', o', e, _, hc⟩ := h.2 (by omega)
  injection e with e
  injection e with e1 e2
  subst e1 e2
  rw [hc k hk]; simp [iv, hz]
theorem IsRow.ints {w : World} {a : Option Addr} {len cap : Nat} {zs : List Int} (h : IsRow .i64 w a len cap zs) :
    Rd w w.heap.size a len (iv (zs.take len)) ∧ (zs.take len).length = len ∧ len ≤ cap ∧ cap ≤ maxLen := by
  rcases h with ⟨rfl, rfl, rfl, rfl⟩ | ⟨x, rfl, hl, hm, hz, hc, hw⟩
  · exact ⟨Rd.none_ _ _ _, rfl, Nat.le_refl _, by decide⟩
  · have hzl : (zs.take len).length = len := by rw [List.length_take]; omega
    refine ⟨⟨by rw [iv_length, hzl], fun hn => ?_⟩, hzl, hl, hm⟩
    obtain ⟨b, o, s⟩ := x
    have h0 := hc 0 (by omega)
    have hs : s = none := by simpa [Addr.add] using World.cell?_spot h0
    subst hs
    have hlt : b < w.heap.size := by
      rcases Nat.lt_or_ge b w.heap.size with h' | h'
      · exact h'
      · simp [World.cell?, Addr.add, Array.getElem?_eq_none h'] at h0
    refine ⟨b, o, rfl, hlt, fun i hi => ?_⟩
    have := hc i (by omega)
    have e : (⟨b, o, none⟩ : Addr).add i = ⟨b, o + i, none⟩ := by unfold Addr.add; split <;> simp_all
    rw [e] at this
    rw [this]
    have hi' : i < zs.length := by omega
    simp [iv, hi', hi, List.getD]
/-- the string of some bytes -/
def strB (l : List Nat) : ByteArray := strOfNums (l.map fun (x : Nat) => (x : Int))
theorem strB_inj {l m : List Nat} (hl : ∀ x ∈ l, x < 256) (hm : ∀ x ∈ m, x < 256) (h : strB l = strB m) : l = m := by
  have h1 : (l.map fun (x : Nat) => UInt8.ofNat x) = m.map fun (x : Nat) => UInt8.ofNat x := by
    have := congrArg (fun s => s.data.toList) h
    simpa [strB, strOfNums, Function.comp_def] using this
  clear h
  induction l generalizing m with
  | nil => cases m with
    | nil => rfl
    | cons y m => simp at h1
  | cons x l ih => cases m with
    | nil => simp at h1
    | cons y m =>
      simp only [List.map_cons, List.cons.injEq] at h1
      have hx := hl x (by simp)
      have hy := hm y (by simp)
      have e : x = y := by
        have := congrArg UInt8.toNat h1.1
        simp at this
        omega
      rw [e, ih (fun z hz => hl z (by simp [hz])) (fun z hz => hm z (by simp [hz])) h1.2]
theorem ba_beq (a b : ByteArray) : (a == b) = decide (a = b) := by
  have e : (a == b) = (a.data == b.data) := by cases a; cases b; rfl
  rw [e, Bool.eq_iff_iff, beq_iff_eq, decide_eq_true_iff]
  constructor
  · intro h; cases a; cases b; simp at h; rw [h]
  · intro h; rw [h]
theorem strB_eq {l m : List Nat} (hl : ∀ x ∈ l, x < 256) (hm : ∀ x ∈ m, x < 256) : (strB l == strB m) = decide (l = m) := by
  rw [ba_beq]
  by_cases h : l = m
  · subst h; simp
  · have : strB l ≠ strB m := fun e => h (strB_inj hl hm e)
    simp [h, this]
theorem strB_self (l : List Nat) : (strB l == strB l) = true := by rw [ba_beq]; simp
theorem run_str_rd {P : Program} {src e dst : TypeId} (hs : P.underlying src = some (.slice e)) (he : P.underlying e = some (.int .u8)) (hd : P.underlying dst = some .string)
    {w : World} {B : Nat} {A : Option Addr} {n c : Nat} {l : List Nat} (h : Rd w B A n (bv l)) : (convert src dst (.slice A n c)).run P w = .ok (.string (strB l)) w := by
  rcases Nat.eq_zero_or_pos n with h0 | h0
  · subst h0
    have hl : l = [] := List.eq_nil_of_length_eq_zero h.length
    subst hl
    cases A with
    | none => exact run_convert_bytes_nil w src e hs he 0 c dst hd
    | some a =>
      have h1 : (loadCells a 0).run P w = .ok #[] w := by
        have := run_loadCells_list (P := P) w a [] (fun j v hj => by simp at hj)
        simpa using this
      rw [run_convert_bytes_string w src dst e _ 0 c hs he hd, run_bytesToString w _ 0 c [] (by simpa using h1)]
      rfl
  · obtain ⟨b, o, rfl, _, hc⟩ := h.2 h0
    refine run_convert_bytes_arg w src e hs he b o n c (l.map fun (x : Nat) => (x : Int)) (by rw [List.length_map]; exact h.length) (fun i hi => ?_) dst hd
    have hl : i < l.length := by rw [h.length]; exact hi
    rw [hc i hi, bv_get hl]
    simp [List.getD, List.getElem?_eq_getElem hl]
end Go.Proofs.YtaknfmionkkdjaaGreat

namespace Go.Proofs.YtaknfmionkkdjaaGreat
open Go.RowKit
set_option linter.unusedVariables false

theorem byteT : ByteT Tryz.prog 26 5 := ⟨Tryz.underlying26, by kernel_rfl⟩
/-- a length that may be, and n more -/
def Lim (k n : Nat) : Prop := n + k ≤ 1099511627776
theorem Lim.out {k n : Nat} (h : Lim k n) : n + k ≤ 1099511627776 := h
/-- the call that began in W made a row that is the bytes l -/
abbrev OwnB (W w : World) (A : Option Addr) (n c : Nat) (l : List Nat) : Prop := w.ownsRow W.heap.size 5 1 (.slice A n c) n (bv l)
/-- a call that began in W answered the bytes l, in memory of its own, and turned nothing that was there -/
def GotB (W : World) (l : List Nat) (e : Ending) (w' : World) : Prop := ∃ A n c, e = .returned (.slice A n c) ∧ OwnB W w' A n c l ∧ Below W.heap.size W w'
theorem own_len {W w : World} {A : Option Addr} {n c : Nat} {l : List Nat} (h : OwnB W w A n c l) : l.length = n := by
  have := h.1; rw [bv_length] at this; omega
theorem own_below {W w w' : World} {A : Option Addr} {n c : Nat} {l : List Nat} (h : OwnB W w A n c l) (hb : Below w.heap.size w w') : OwnB W w' A n c l := ownsRow_below h hb
/-- the call began in W; from w on it answered the bytes l in memory of W's own -/
def GotIn (W w : World) (l : List Nat) (e : Ending) (w' : World) : Prop := ∃ A c, e = .returned (.slice A l.length c) ∧ OwnB W w' A l.length c l ∧ Below W.heap.size W w' ∧ Below w.heap.size w w'
theorem GotIn.of {W w : World} {l : List Nat} {e : Ending} {w' : World} (hB : Below W.heap.size W w) (h : GotB w l e w') : GotIn W w l e w' := by
  obtain ⟨A, n, c, rfl, ho, hb⟩ := h
  have hn := own_len ho
  subst hn
  refine ⟨A, c, rfl, ?_, hB.trans (hb.mono hB.size), hb⟩
  obtain ⟨h1, h2⟩ := ho
  refine ⟨h1, ?_⟩
  rcases h2 with h2 | ⟨g, cap, cur, hv, hg, r⟩
  · exact .inl h2
  · exact .inr ⟨g, cap, cur, hv, Nat.le_trans hB.size hg, r⟩
/-- a row of the call's own, over a store into a block of another type -/
theorem own_set_t {w : World} {base size n b i : Nat} {e t : TypeId} {v u : Value} {xs : List Value} {cs : Array Value} (h : w.ownsRow base e size v n xs) (hb : Blk w b t cs) (hne : e ≠ t) : (w.setCell ⟨b, i, none⟩ u).ownsRow base e size v n xs := by
  have hg : w.grownBy (w.setCell ⟨b, i, none⟩ u) (some b) :=
    ⟨rfl, rfl, rfl, by simp [World.setCell], fun k hk hn => Below.heap_setCell w ⟨b, i, none⟩ u k (by rintro rfl; exact hn rfl)⟩
  refine h.kept hg ?_
  rcases h.2 with ⟨h1, _⟩ | ⟨g, cap, cur, h1, _, hh, _⟩
  · rw [h1]; exact .inl rfl
  · rw [h1]
    refine .inr ?_
    show some g ≠ some b
    intro h0
    injection h0 with h0
    exact Blk.apart hh hb hne h0
theorem Blk.set_other {w : World} {g b i : Nat} {t : TypeId} {cs : Array Value} {u : Value} (h : Blk w g t cs) (hne : g ≠ b) : Blk (w.setCell ⟨b, i, none⟩ u) g t cs := (Below.heap_setCell w ⟨b, i, none⟩ u g hne).trans h
/-- three stores into a block of three cells: what they leave -/
theorem put3 {w : World} {b : Nat} {t : TypeId} {x0 y0 z0 : Value} (hk : Blk w b t #[x0, y0, z0]) (x y z : Value) :
    Blk (((w.setCell ⟨b, 0, none⟩ x).setCell ⟨b, 1, none⟩ y).setCell ⟨b, 2, none⟩ z) b t #[x, y, z] ∧
    (∀ W, W.heap.size ≤ b → Below W.heap.size W w → Below W.heap.size W (((w.setCell ⟨b, 0, none⟩ x).setCell ⟨b, 1, none⟩ y).setCell ⟨b, 2, none⟩ z)) ∧
    ∀ base e size v n xs, w.ownsRow base e size v n xs → e ≠ t → (((w.setCell ⟨b, 0, none⟩ x).setCell ⟨b, 1, none⟩ y).setCell ⟨b, 2, none⟩ z).ownsRow base e size v n xs :=
  ⟨((hk.set_ 0 x).set_ 1 y).set_ 2 z, fun W h1 h2 => ((h2.setCell h1 _).setCell h1 _).setCell h1 _, fun base e size v n xs h hne => own_set_t (own_set_t (own_set_t h hk hne) (hk.set_ 0 x) hne) ((hk.set_ 0 x).set_ 1 y) hne⟩
/-- a block of three cells: what a walk reads of it -/
theorem three {w : World} {b : Nat} {t : TypeId} {x y z : Value} (h : Blk w b t #[x, y, z]) :
    w.cell? ⟨b, 0, none⟩ = some x ∧ w.cell? ⟨b, 1, none⟩ = some y ∧ w.cell? ⟨b, 2, none⟩ = some z ∧ w.frozen? ⟨b, 0, none⟩ = false ∧ w.frozen? ⟨b, 1, none⟩ = false ∧ w.frozen? ⟨b, 2, none⟩ = false :=
  ⟨h.cell 0, h.cell 1, h.cell 2, h.frozen 0, h.frozen 1, h.frozen 2⟩
theorem results_tmp_cell_row {P : Program} {fn : Func} {u p : Tmp} {ty : TypeId} (h : fn.results = #[.tmp u, .cell p ty]) (tmps : Array Value) (w : World) (g : Nat) (t : TypeId) (cs : Array Value) (d : TypeDesc)
    (hp : tmps.getD p undef = .pointer (some ⟨g, 0, none⟩)) (hg : Blk w g t cs)
    (hu : P.underlying ty = some d) (hd : (match d with | .struct _ | .array _ _ => true | _ => false) = true) (hi : (P.info? ty).map (·.size) = some cs.size) :
    (results fn tmps).run P w = .ok (.tuple #[tmps.getD u undef, .agg cs]) w := by
  have hp' : tmps[p]?.getD undef = .pointer (some ⟨g, 0, none⟩) := by simpa using hp
  simp [results, h, hp', asAddr, run_loadVar_row w g t ty cs (0, 0) d hg hu hd hi]
/-- a row of bytes as a string -/
theorem str_of {w : World} {B : Nat} {A : Option Addr} {n c : Nat} {l : List Nat} (h : Rd w B A n (bv l)) : (convert 26 9 (.slice A n c)).run Tryz.prog w = .ok (.string (strB l)) w :=
  run_str_rd Tryz.underlying26 Tryz.underlying5 Tryz.underlying9 h
end Go.Proofs.YtaknfmionkkdjaaGreat

namespace Go.Proofs.YtaknfmionkkdjaaGreat
open Go.RowKit
set_option linter.unusedVariables false

/-- two strings alike, as the walk asks it -/
theorem strL_eq {l m : List Nat} (hl : ∀ x ∈ l, x < 256) (hm : ∀ x ∈ m, x < 256) : ((strB l).toList == (strB m).toList) = decide (l = m) := by
  rw [← strB_eq hl hm, ba_beq, Bool.eq_iff_iff, beq_iff_eq, decide_eq_true_iff]
  constructor
  · intro h
    rw [ByteArray.toList_eq, ByteArray.toList_eq] at h
    have h1 := Array.toList_inj.1 h
    generalize strB l = a at h1 ⊢
    generalize strB m = b at h1 ⊢
    cases a; cases b; simp at h1; rw [h1]
  · intro h; rw [h]
/-- a result -/
def resV (e : Int) (A : Option Addr) (n c : Nat) (N : Int) : Value := .agg #[.int .i64 e, .slice A n c, .int .i64 N]
/-- a result, whose bytes are W's own -/
def GotR (W w : World) (e : Int) (l : List Nat) (N : Int) (en : Ending) (w' : World) : Prop :=
  ∃ A c, en = .returned (resV e A l.length c N) ∧ OwnB W w' A l.length c l ∧ Below W.heap.size W w' ∧ Below w.heap.size w w'
/-- a register and a result, both W's own -/
def GotSR (W w : World) (s : List Nat) (e : Int) (l : List Nat) (N : Int) (en : Ending) (w' : World) : Prop :=
  ∃ A c A' c', en = .returned (.tuple #[.slice A s.length c, resV e A' l.length c' N]) ∧ OwnB W w' A s.length c s ∧ OwnB W w' A' l.length c' l ∧ Below W.heap.size W w' ∧ Below w.heap.size w w'
theorem own_nil (W w : World) : OwnB W w none 0 0 [] := ⟨rfl, .inl ⟨rfl, rfl⟩⟩
/-- the variable of a result -/
abbrev zeroR : Array Value := #[.int .i64 0, .slice none 0 0, .int .i64 0]
end Go.Proofs.YtaknfmionkkdjaaGreat

