/- Mem Mem2 OwnKit ResKit QKit StepKit IntKit ObjKit SessRef2 PackMath MachMath MachBytes MachBytes2 MachKit MachC0 MesgMath MesgMath2 OnlyKit PackWalks PackRdr PackIn MachRefG MesgKit MachPut -/
import Derived.Below
import Derived.Deep.AppendLies
import Derived.Deep.Draws
import Derived.Laws.OwnMore
import Derived.Lib.SlBytesConst
import Derived.Maps.AppendAt
import Derived.OpenShut
import Derived.OwnWalk
import Derived.ProofKit
import Derived.WalkKit
import Derived.Laws.BytesArg
import Derived.Laws.Rows
import Derived.Lib.Hide
import Derived.Deep.RegionWith
import Derived.IntWalk
import Derived.Laws.BitsAllLaws
import Derived.Outline
import Derived.Test.YtijcbbommaeejaaRows
import Derived.WalkLawsBesides
import Derived.WalkSpells
import Derived.Deep.Matrix
import Derived.Deep.RegionLaw
import Derived.BigQuiet
import Derived.Deep.DeepCutAuto
import Derived.Deep.DrawnRows
import Derived.Deep.QuietTactic
import Derived.Deep.RegionHeld3
import Derived.Deep.CutBlock
import Derived.RegionTactic
namespace Go.Proofs.Ytijcbbommaeejaa
open Go.RowKit

/-- the n elements of the slice at a are vs, one cell each, in a block below B; of a slice without elements the address is left open -/
def Rd (w : World) (B : Nat) (a : Option Addr) (n : Nat) (vs : List Value) : Prop :=
  vs.length = n ∧ (0 < n → ∃ b o, a = some ⟨b, o, none⟩ ∧ b < B ∧ ∀ i, i < n → w.cell? ⟨b, o + i, none⟩ = vs[i]?)
/-- bytes as values -/
def bv (l : List Nat) : List Value := l.map fun (x : Nat) => Value.int .u8 (x : Int)
theorem bv_get {l : List Nat} {k : Nat} (h : k < l.length) : (bv l)[k]? = some (.int .u8 (l[k] : Int)) := by
  unfold bv; rw [List.getElem?_map, List.getElem?_eq_getElem h]; rfl
theorem bv_length (l : List Nat) : (bv l).length = l.length := by simp [bv]
theorem bv_append (l m : List Nat) : bv (l ++ m) = bv l ++ bv m := by simp [bv]
theorem ret_bool {a b : Bool} (h : a = b) : Ending.returned (.bool a) = .returned (.bool b) := by rw [h]

section
variable {w w' : World} {B n : Nat} {a : Option Addr} {vs : List Value} {l : List Nat}
theorem Rd.none_ (w : World) (B : Nat) (a : Option Addr) : Rd w B a 0 [] := ⟨rfl, fun h => absurd h (by omega)⟩
theorem Rd.keep {B' : Nat} (h : Rd w B a n vs) (hk : ∀ p : Addr, p.block < B → w'.cell? p = w.cell? p) (hB : B ≤ B') : Rd w' B' a n vs :=
  ⟨h.1, fun hn => by
    obtain ⟨b, o, e, hb, hc⟩ := h.2 hn
    exact ⟨b, o, e, by omega, fun i hi => (hk _ hb).trans (hc i hi)⟩⟩
theorem Rd.below (h : Rd w B a n vs) (hb : Below B w w') : Rd w' B a n vs := h.keep (fun _ hp => hb.cell hp) (Nat.le_refl _)
theorem Rd.take (h : Rd w B a n vs) {k : Nat} (hk : k ≤ n) : Rd w B a k (vs.take k) :=
  ⟨by rw [List.length_take, h.1]; omega, fun hp => by
    obtain ⟨b, o, e, hb, hc⟩ := h.2 (by omega)
    exact ⟨b, o, e, hb, fun i hi => by rw [hc i (by omega), List.getElem?_take_of_lt hi]⟩⟩
theorem bv_take (l : List Nat) (k : Nat) : bv (l.take k) = (bv l).take k := by simp [bv]
theorem Rd.alloc (h : Rd w B a n vs) (hB : B ≤ w.heap.size) (o : Obj) : Rd (w.alloc o) B a n vs := h.below ((Below.refl _ _).alloc hB _)
theorem Rd.bytes_at {k : Nat} (h : Rd w B a n (bv l)) (hk : k < n) : ∃ b o, a = some ⟨b, o, none⟩ ∧ ∃ hk' : k < l.length, w.cell? ⟨b, o + k, none⟩ = some (.int .u8 (l[k] : Int)) := by
  obtain ⟨b, o, e, _, hc⟩ := h.2 (by omega)
  have hl : k < l.length := by have := h.1; rw [bv_length] at this; omega
  exact ⟨b, o, e, hl, by rw [hc k hk, bv_get hl]⟩
theorem Rd.length (h : Rd w B a n (bv l)) : l.length = n := by have := h.1; rwa [bv_length] at this
theorem Rd.made (w : World) (cs : Array Value) (t : TypeId) (mark : Nat × Nat) (n : Nat) (hn : cs.size = n) : Rd (w.alloc (.cells cs t mark)) (w.heap.size + 1) (some ⟨w.heap.size, 0, none⟩) n cs.toList :=
  ⟨by simpa using hn, fun _ => ⟨_, _, rfl, by omega, fun i hi => by rw [Nat.zero_add, World.cell?_alloc_mark]; simp⟩⟩
end

theorem Rd.one (w : World) (x : Nat) (t : TypeId) : Rd (w.alloc (.cells #[.int .u8 (x : Int)] t)) (w.heap.size + 1) (some ⟨w.heap.size, 0, none⟩) 1 (bv [x]) := Rd.made w #[.int .u8 (x : Int)] t (0, 0) 1 rfl
theorem Rd.oneCell {l : List Nat} : ∀ u ∈ bv l, u.oneCell' = true := by
  intro u hu
  obtain ⟨x, _, rfl⟩ := List.mem_map.1 hu
  rfl
/-- what is appended, from whatever slice that reads as vs, nil too, to a row of the call's own -/
theorem run_append_rd {P : Program} (w : World) (base : Nat) (t ty e : TypeId) (i : TypeInfo) (z : Value) (bytes : Nat) (ht : P.underlying t = some (.slice e)) (hi : P.info? e = some i) (hz : i.zero = some z)
    (hsize : i.size = 1) (hby : i.bytes = bytes) (hzs : z.cells.size = 1)
    (v : Value) (n : Nat) (xs : List Value) (hown : w.ownsRow base e 1 v n xs)
    (B : Nat) (a : Option Addr) (m c : Nat) (vs : List Value) (hr : Rd w B a m vs) (h1 : ∀ u ∈ vs, u.oneCell' = true)
    (h63 : n + m ≤ maxLen) (hbytes : (n + m) * bytes ≤ 140737488355328) (hbase : base ≤ w.heap.size) :
    ∃ v' w', (Builtin.append_ #[t, t] ty #[v, .slice a m c]).run P w = .ok v' w' ∧ w'.ownsRow base e 1 v' (n + m) (xs ++ vs) ∧ w.grownBy w' v.ownBlock ∧
      (v'.ownBlock = v.ownBlock ∨ v'.ownBlock = some w.heap.size) := by
  rcases Nat.eq_zero_or_pos m with h0 | h0
  · subst h0
    have hn : vs = [] := List.eq_nil_of_length_eq_zero hr.1
    subst hn
    cases a with
    | none =>
      refine ⟨v, w, ?_, by simpa using hown, World.grownBy.refl w _, .inl rfl⟩
      rcases hown.2 with ⟨rfl, rfl⟩ | ⟨g, cap, cur, rfl, _, _, hnc, _⟩
      · simp [Builtin.append_, run_underlying ht, sizeOf, typeInfo, hi, Builtin.lenOf, Builtin.firstCells]
      · simp [Builtin.append_, run_underlying ht, sizeOf, typeInfo, hi, Builtin.lenOf, Builtin.firstCells, hnc, storeCells]
    | some ad =>
      obtain ⟨v', w', hrun, h2, h3, _, h5⟩ := run_append_own_at (P := P) w base t ty e i z 1 bytes ht hi hz hsize hby hzs (by omega) v n xs hown ad 0 c [] rfl (by simp) h1 h63 hbytes hbase
      exact ⟨v', w', hrun, h2, h3, h5⟩
  · obtain ⟨b, o, rfl, _, hc⟩ := hr.2 h0
    have hadd : ∀ j, (⟨b, o, none⟩ : Addr).add j = ⟨b, o + j, none⟩ := fun j => by unfold Addr.add; split <;> simp_all
    obtain ⟨v', w', hrun, h2, h3, _, h5⟩ := run_append_own_at (P := P) w base t ty e i z 1 bytes ht hi hz hsize hby hzs (by omega) v n xs hown ⟨b, o, none⟩ m c vs (by rw [hr.1, Nat.mul_one])
      (fun j u hu => by
        have hj : j < m := by have := (List.getElem?_eq_some_iff.1 hu).1; rw [hr.1] at this; exact this
        rw [hadd, hc j hj, hu]) h1 h63 hbytes hbase
    exact ⟨v', w', hrun, h2, h3, h5⟩
/-- a row of the call's own reads -/
theorem Rd.of_own {w : World} {base n : Nat} {e : TypeId} {v : Value} {vs : List Value} (h : w.ownsRow base e 1 v n vs) : ∃ a c, v = .slice a n c ∧ Rd w w.heap.size a n vs := by
  have hl : vs.length = n := by simpa using h.1
  rcases h.2 with ⟨rfl, rfl⟩ | ⟨g, cap, cur, rfl, _, hh, hnc, hm, hs, ht⟩
  · exact ⟨none, 0, rfl, by rw [List.eq_nil_of_length_eq_zero hl]; exact Rd.none_ _ _ _⟩
  · have hlt : g < w.heap.size := by
      rcases Nat.lt_or_ge g w.heap.size with h' | h'
      · exact h'
      · rw [Array.getElem?_eq_none h'] at hh; cases hh
    refine ⟨_, cap, rfl, hl, fun _ => ⟨g, 0, rfl, hlt, fun i hi => ?_⟩⟩
    have h1 := h.cellAt i (by omega)
    rw [Nat.zero_add]
    exact h1

theorem Rd.own_ {w : World} {base n c : Nat} {e : TypeId} {A : Option Addr} {vs : List Value} (h : w.ownsRow base e 1 (.slice A n c) n vs) : Rd w w.heap.size A n vs := by
  obtain ⟨a, c', hv, hr⟩ := Rd.of_own h
  injection hv with h1
  subst h1
  exact hr
/-- t is a type of slices of bytes, e the bytes' -/
structure ByteT (P : Program) (t e : TypeId) : Prop where
  under : P.underlying t = some (.slice e)
  info : (P.info? e).map (fun i => (i.zero, i.size, i.bytes)) = some (some (.int .u8 0), 1, 1)

section
variable {P : Program} {t e : TypeId}
/-- append, of bytes, onto a row of the call's own, from whatever bytes: the law for the walk. W is the world in which the call began. -/
theorem wpList_append_bytes {W w : World} (hT : ByteT P t e) {ops : Array Oper} {rest : List Oper} {o : Oper} {a : Act} {Q : Exit → Act → World → Prop} (s x : Operand)
    (ho : o.op = .call { callee := .builtin .append, args := #[s, x], argTypes := #[t, t] }) (hw : Region.wanted o (yielded ops a.tmps) = true)
    {A : Option Addr} {n c : Nat} {l : List Nat} (hs : a.eval s = .slice A n c) (hown : w.ownsRow W.heap.size e 1 (.slice A n c) n (bv l))
    {B : Nat} {A' : Option Addr} {m c' : Nat} {l' : List Nat} (hx : a.eval x = .slice A' m c') (hr : Rd w B A' m (bv l')) (hnm : n + m ≤ 1099511627776) (hB : Below W.heap.size W w)
    (h : ∀ A2 c2 w2, w2.ownsRow W.heap.size e 1 (.slice A2 (n + m) c2) (n + m) (bv (l ++ l')) → Rd w2 w2.heap.size A2 (n + m) (bv (l ++ l')) → Below W.heap.size W w2 → wpList P ops Q rest (a.put o.dst (.slice A2 (n + m) c2)) w2) :
    wpList P ops Q (o :: rest) a w := by
  obtain ⟨i, hi, hz, hsz, hby⟩ := info_parts hT.info
  obtain ⟨v', w', hrun, h2, h3, h4⟩ := run_append_rd (P := P) w W.heap.size t o.type e i (.int .u8 0) 1 hT.under hi hz hsz hby rfl _ n (bv l) hown B A' m c' (bv l') hr Rd.oneCell
    (by unfold maxLen; omega) (by omega) hB.size
  have hlt := hown.lt
  have hB2 : Below W.heap.size W w' := hB.grown h3 hB.size (fun k hk => (hlt k hk).1)
  rw [← bv_append] at h2
  obtain ⟨A2, c2, rfl, hr2⟩ := Rd.of_own h2
  have hgo := h A2 c2 w' h2 hr2 hB2
  unfold wpList
  rw [if_pos hw]
  refine Or.inl ?_
  unfold Oper.wp execOp
  simp only [ho, resolve, invoke, builtin, Sem.run_bind, Sem.run_pure, Result.andThen_ok, List.map_toArray, List.map_cons, List.map_nil, hs, hx, hrun]
  exact hgo
theorem own_empty {W w : World} (hB : Below W.heap.size W w) (t : TypeId) : (w.alloc (.cells #[] t)).ownsRow W.heap.size t 1 (.slice (some ⟨w.heap.size, 0, none⟩) 0 0) 0 (bv []) :=
  World.ownsRow_made w #[] 0 hB.size (by decide) rfl
end

/-- the bytes of a string, as numbers -/
def sb (s : ByteArray) : List Nat := s.data.toList.map UInt8.toNat
theorem sb_lt (s : ByteArray) : ∀ x ∈ sb s, x < 256 := by
  intro x hx
  obtain ⟨u, _, rfl⟩ := List.mem_map.1 hx
  exact UInt8.toNat_lt u
theorem Rd.of_string (w : World) (s : ByteArray) (cap : Nat) (t : TypeId) (mark : Nat × Nat) : Rd (w.alloc (.cells (bytesRow s cap) t mark)) (w.heap.size + 1) (some ⟨w.heap.size, 0, none⟩) s.size (bv (sb s)) := by
  have hl : (sb s).length = s.size := by unfold sb; rw [List.length_map, Array.length_toList]; rfl
  refine ⟨by rw [bv_length, hl], fun _ => ⟨_, _, rfl, by omega, fun i hi => ?_⟩⟩
  have e : (w.alloc (.cells (bytesRow s cap) t mark)).cell? ⟨w.heap.size, 0 + i, none⟩ = (bytesRow s cap)[0 + i]? := World.cell?_alloc_mark w _ _ _ _
  rw [e, Nat.zero_add, bytesRow_at s cap i hi, bv_get (by omega)]
  unfold sb
  rw [List.getElem_map, Array.getElem_toList]

/-- what a proof's frame tells of a slice of integers that came in -/
def IsRow (k : IntKind) (w : World) (a : Option Addr) (len cap : Nat) (zs : List Int) : Prop :=
  (a = none ∧ len = 0 ∧ cap = 0 ∧ zs = []) ∨
  ∃ x, a = some x ∧ len ≤ cap ∧ cap ≤ maxLen ∧ zs.length = cap ∧ (∀ i, i < zs.length → w.cell? (x.add i) = some (.int k (zs.getD i 0))) ∧ ∀ n ∈ zs, (Lit.int k n).wf = true
theorem u8_nat {n : Int} (h : (Lit.int .u8 n).wf = true) : ∃ k : Nat, n = k ∧ k < 256 := by
  have := bounds_u8 h
  exact ⟨n.toNat, by omega, by omega⟩
theorem nats_of {zs : List Int} (h : ∀ n ∈ zs, (Lit.int .u8 n).wf = true) : ∃ l : List Nat, (∀ x ∈ l, x < 256) ∧ zs = l.map fun (x : Nat) => (x : Int) := by
  induction zs with
  | nil => exact ⟨[], by simp, rfl⟩
  | cons z zs ih =>
    obtain ⟨l, hl, rfl⟩ := ih fun n hn => h n (by simp [hn])
    obtain ⟨k, rfl, hk⟩ := u8_nat (h z (by simp))
    exact ⟨k :: l, by simpa using ⟨hk, hl⟩, rfl⟩
theorem IsRow.rd {w : World} {a : Option Addr} {len cap : Nat} {zs : List Int} (h : IsRow .u8 w a len cap zs) :
    ∃ l : List Nat, (∀ x ∈ l, x < 256) ∧ Rd w w.heap.size a len (bv l) ∧ len ≤ cap ∧ cap ≤ maxLen := by
  rcases h with ⟨rfl, rfl, rfl, rfl⟩ | ⟨x, rfl, hl, hm, hz, hc, hw⟩
  · exact ⟨[], by simp, Rd.none_ _ _ _, Nat.le_refl _, by decide⟩
  · obtain ⟨l, hb, rfl⟩ := nats_of hw
    have hz' : l.length = cap := by simpa using hz
    refine ⟨l.take len, fun x hx => hb x (List.mem_of_mem_take hx), ⟨by rw [bv_length, List.length_take]; omega, fun hn => ?_⟩, hl, hm⟩
    obtain ⟨b, o, s⟩ := x
    have h0 := hc 0 (by simp; omega)
    have hs : s = none := by simpa [Addr.add] using World.cell?_spot h0
    subst hs
    have hlt : b < w.heap.size := by
      rcases Nat.lt_or_ge b w.heap.size with h' | h'
      · exact h'
      · simp [World.cell?, Addr.add, Array.getElem?_eq_none h'] at h0
    refine ⟨b, o, rfl, hlt, fun i hi => ?_⟩
    have hi' : i < l.length := by omega
    have := hc i (by simpa using hi')
    have e : (⟨b, o, none⟩ : Addr).add i = ⟨b, o + i, none⟩ := by unfold Addr.add; split <;> simp_all
    have g : (List.map (fun (x : Nat) => (x : Int)) l).getD i 0 = ((l[i] : Nat) : Int) := by
      rw [List.getD_eq_getElem?_getD, List.getElem?_map, List.getElem?_eq_getElem hi']; rfl
    rw [e, g] at this
    rw [bv_get (by rw [List.length_take]; omega), this]
    simp
end Go.Proofs.Ytijcbbommaeejaa

namespace Go.Proofs.Ytijcbbommaeejaa
open Go.RowKit
set_option linter.unusedVariables false

/-- block g is just these cells of element type t, none of them frozen -/
def Blk (w : World) (g : Nat) (t : TypeId) (cs : Array Value) : Prop := w.heap[g]? = some (.cells cs t (0, 0))
section
variable {w w' : World} {g : Nat} {t : TypeId} {cs : Array Value}
theorem Blk.lt (h : Blk w g t cs) : g < w.heap.size := by
  unfold Blk at h
  exact (Array.getElem?_eq_some_iff.1 h).1
theorem Blk.cell (h : Blk w g t cs) (i : Nat) : w.cell? ⟨g, i, none⟩ = cs[i]? := by
  unfold Blk at h
  simp [World.cell?, h]
theorem Blk.frozen (h : Blk w g t cs) (i : Nat) : w.frozen? ⟨g, i, none⟩ = false := by
  unfold Blk at h
  simp [World.frozen?, h]
theorem Blk.new (w : World) (t : TypeId) (cs : Array Value) : Blk (w.alloc (.cells cs t)) w.heap.size t cs := heap_alloc_new w _
theorem Blk.drew (h : Blk w g t cs) : Blk w.drew g t cs := h
theorem Blk.alloc (h : Blk w g t cs) (o : Obj) : Blk (w.alloc o) g t cs := (Below.heap_alloc w o g h.lt).trans h
theorem Blk.set_ (h : Blk w g t cs) (i : Nat) (u : Value) : Blk (w.setCell ⟨g, i, none⟩ u) g t (cs.setIfInBounds i u) := by
  unfold Blk at h ⊢
  simp [World.setCell, Array.getElem?_modify, h]
theorem Blk.grown {row : Option Nat} (h : Blk w g t cs) (hb : w.grownBy w' row) (hg : some g ≠ row) : Blk w' g t cs := (hb.block g h.lt hg).trans h
theorem Blk.below (h : Blk w g t cs) (hb : Below w.heap.size w w') : Blk w' g t cs := (hb.block g h.lt).trans h
theorem Blk.apart {g' : Nat} {t' : TypeId} {cs' : Array Value} (h : Blk w g t cs) (h' : Blk w g' t' cs') (hne : t ≠ t') : g ≠ g' := by
  intro he
  subst he
  unfold Blk at h h'
  rw [h] at h'
  injection h' with h'
  injection h' with _ ht
  exact hne ht
end

/-- the n elements of the slice at A are vs, one cell each, in a block whose elements have type e -/
def RdT (w : World) (e : TypeId) (A : Option Addr) (n : Nat) (vs : List Value) : Prop :=
  vs.length = n ∧ (0 < n → ∃ g o cur, A = some ⟨g, o, none⟩ ∧ Blk w g e cur ∧ ∀ i, i < n → cur[o + i]? = vs[i]?)
section
variable {w w' : World} {e : TypeId} {A : Option Addr} {n : Nat} {vs : List Value} {l : List Nat}
theorem RdT.none_ (w : World) (e : TypeId) (A : Option Addr) : RdT w e A 0 [] := ⟨rfl, fun h => absurd h (by omega)⟩
theorem RdT.rd (h : RdT w e A n vs) : Rd w w.heap.size A n vs :=
  ⟨h.1, fun hn => by
    obtain ⟨g, o, cur, e1, hb, hc⟩ := h.2 hn
    exact ⟨g, o, e1, hb.lt, fun i hi => (hb.cell _).trans (hc i hi)⟩⟩
theorem RdT.grown {b : Nat} {t : TypeId} {cs : Array Value} (h : RdT w e A n vs) (hg : w.grownBy w' (some b)) (hb : Blk w b t cs) (hne : e ≠ t) : RdT w' e A n vs :=
  ⟨h.1, fun hn => by
    obtain ⟨g, o, cur, e1, hk, hc⟩ := h.2 hn
    exact ⟨g, o, cur, e1, hk.grown hg (by intro he; injection he with he; exact hk.apart hb hne he), hc⟩⟩
theorem RdT.below (h : RdT w e A n vs) (hb : Below w.heap.size w w') : RdT w' e A n vs :=
  ⟨h.1, fun hn => by
    obtain ⟨g, o, cur, e1, hk, hc⟩ := h.2 hn
    exact ⟨g, o, cur, e1, hk.below hb, hc⟩⟩
theorem RdT.own {base c : Nat} (h : w.ownsRow base e 1 (.slice A n c) n vs) : RdT w e A n vs := by
  refine ⟨by simpa using h.1, fun hn => ?_⟩
  rcases h.2 with ⟨h1, h2⟩ | ⟨g, cap, cur, hv, _, hh, hnc, _, hs, ht⟩
  · omega
  · injection hv with h1
    refine ⟨g, 0, cur, h1, hh, fun i hi => ?_⟩
    have e1 : cur.toList[i]? = vs[i]? := by rw [← ht, List.getElem?_take_of_lt (by omega)]
    rw [Nat.zero_add, ← e1]; simp
theorem RdT.alloc (h : RdT w e A n vs) (o : Obj) : RdT (w.alloc o) e A n vs := h.below ((Below.refl _ _).alloc (Nat.le_refl _) o)
theorem own_cap {base c size : Nat} (h : w.ownsRow base e size (.slice A n c) n vs) : n ≤ c ∧ c ≤ maxLen := by
  rcases h.2 with ⟨h1, h2⟩ | ⟨g, cap, cur, hv, _, hh, hnc, hm, hs, ht⟩
  · injection h1 with _ _ h3
    subst h3
    exact ⟨by omega, by unfold maxLen; omega⟩
  · injection hv with _ _ h3
    subst h3
    exact ⟨hnc, hm⟩
/-- where a slice's rest begins: Go does not point behind an array's end -/
def cutAt (A : Option Addr) (c k : Nat) : Option Addr := if c = k then A else A.map (·.add k)
theorem RdT.drop (h : RdT w e A n vs) {k c : Nat} (hk : k ≤ n) (hc : n ≤ c) : RdT w e (cutAt A c k) (n - k) (vs.drop k) := by
  refine ⟨by rw [List.length_drop, h.1], fun hn => ?_⟩
  obtain ⟨g, o, cur, rfl, hb, hcell⟩ := h.2 (by omega)
  unfold cutAt
  rw [if_neg (by omega)]
  refine ⟨g, o + k, cur, ?_, hb, fun i hi => ?_⟩
  · show some ((⟨g, o, none⟩ : Addr).add k) = _
    congr 1
    unfold Addr.add; split <;> simp_all
  · rw [Nat.add_assoc, hcell (k + i) (by omega), List.getElem?_drop]
theorem RdT.take (h : RdT w e A n vs) {k : Nat} (hk : k ≤ n) : RdT w e A k (vs.take k) :=
  ⟨by rw [List.length_take, h.1]; omega, fun hp => by
    obtain ⟨g, o, cur, e1, hb, hc⟩ := h.2 (by omega)
    exact ⟨g, o, cur, e1, hb, fun i hi => by rw [hc i (by omega), List.getElem?_take_of_lt hi]⟩⟩
theorem Rd.fit {B : Nat} (h : Rd w B A n vs) : Rd w w.heap.size A n vs :=
  ⟨h.1, fun hn => by
    obtain ⟨g, o, e1, _, hc⟩ := h.2 hn
    have h0 := hc 0 hn
    rw [List.getElem?_eq_getElem (by rw [h.1]; exact hn)] at h0
    exact ⟨g, o, e1, World.block_lt_of_cell? w _ h0, hc⟩⟩
theorem bv_drop (l : List Nat) (k : Nat) : bv (l.drop k) = (bv l).drop k := by simp [bv]
end
theorem Rd.oneI (w : World) {v : Int} {x : Nat} (h : v = (x : Int)) (t : TypeId) : Rd (w.alloc (.cells #[.int .u8 v] t)) (w.heap.size + 1) (some ⟨w.heap.size, 0, none⟩) 1 (bv [x]) := by
  subst h; exact Rd.one w x t
/-- s[k:] -/
theorem run_slice_from {P : Program} {t e : TypeId} {i : TypeInfo} (ht : P.underlying t = some (.slice e)) (hi : P.info? e = some i) (hs : i.size = 1) (A : Option Addr) (n c k : Nat) (hk : k ≤ n) (w : World) :
    (Instr.slice t (.slice A n c) (some (.int .i64 (k : Int))) none none).run P w = .ok (.slice (cutAt A c k) (n - k) (c - k)) w := by
  simp [Instr.slice, run_underlying ht, Instr.sliceBounds, Instr.sliceBound, asIntOf, hk, sizeOf, typeInfo, hi, hs, cutAt]
/-- s[:k] -/
theorem run_slice_to {P : Program} {t e : TypeId} {i : TypeInfo} (ht : P.underlying t = some (.slice e)) (hi : P.info? e = some i) (A : Option Addr) (n c k : Nat) (hk : k ≤ c) (w : World) :
    (Instr.slice t (.slice A n c) none (some (.int .i64 (k : Int))) none).run P w = .ok (.slice A k c) w := by
  have h2 : ∀ x : Addr, x.add 0 = x := by intro x; simp [Addr.add]
  have h3 : (fun (x : Addr) => x.add 0) = id := funext h2
  simp [Instr.slice, run_underlying ht, Instr.sliceBounds, Instr.sliceBound, asIntOf, hk, sizeOf, typeInfo, hi, h3]
/-- a row of the call's own, and its elements' type, of one cell each -/
structure CellT (P : Program) (t e : TypeId) (z : Value) (bytes : Nat) : Prop where
  under : P.underlying t = some (.slice e)
  info : (P.info? e).map (fun i => (i.zero, i.size, i.bytes)) = some (some z, 1, bytes)
  one : z.cells.size = 1
theorem own_blk {w : World} {base n c size : Nat} {e : TypeId} {A : Option Addr} {vs : List Value} (h : w.ownsRow base e size (.slice A n c) n vs) :
    (A = none ∧ n = 0 ∧ vs = []) ∨ ∃ g cur, A = some ⟨g, 0, none⟩ ∧ base ≤ g ∧ Blk w g e cur := by
  rcases h.2 with ⟨h1, h2⟩ | ⟨g, cap, cur, hv, hb, hh, _⟩
  · injection h1 with h1
    subst h2
    exact .inl ⟨h1, rfl, List.eq_nil_of_length_eq_zero (by simpa using h.1)⟩
  · injection hv with h1
    exact .inr ⟨g, cur, h1, hb, hh⟩
/-- what is read of one type stays while a row of another type grows -/
theorem RdT.kept {w w' : World} {e e' : TypeId} {A A' : Option Addr} {n n' c' base size : Nat} {vs xs : List Value} (h : RdT w e A n vs) (ho : w.ownsRow base e' size (.slice A' n' c') n' xs) (hne : e ≠ e')
    (hg : w.grownBy w' (Value.slice A' n' c').ownBlock) : RdT w' e A n vs := by
  refine ⟨h.1, fun hn => ?_⟩
  obtain ⟨g, o, cur, e1, hk, hc⟩ := h.2 hn
  refine ⟨g, o, cur, e1, hk.grown hg ?_, hc⟩
  rcases own_blk ho with ⟨rfl, _, _⟩ | ⟨g', cur', rfl, _, hk'⟩
  · intro h0; cases h0
  · intro h0
    have h1 : g = g' := by simpa [Value.ownBlock] using h0
    exact hk.apart hk' hne h1
theorem ownsRow_below {w w' : World} {base n size : Nat} {e : TypeId} {v : Value} {vs : List Value} (h : w.ownsRow base e size v n vs) (hb : Below w.heap.size w w') : w'.ownsRow base e size v n vs := by
  obtain ⟨h1, h2⟩ := h
  refine ⟨h1, ?_⟩
  rcases h2 with h2 | ⟨g, cap, cur, hv, hg, hh, r⟩
  · exact .inl h2
  · exact .inr ⟨g, cap, cur, hv, hg, (hb.block g (Blk.lt hh)).trans hh, r⟩
section
variable {P : Program} {t e : TypeId} {z : Value} {bytes : Nat}
/-- append onto a row of the call's own, of whatever one-cell elements -/
theorem wpList_append_cells {W w : World} (hT : CellT P t e z bytes) {ops : Array Oper} {rest : List Oper} {o : Oper} {a : Act} {Q : Exit → Act → World → Prop} (s x : Operand)
    (ho : o.op = .call { callee := .builtin .append, args := #[s, x], argTypes := #[t, t] }) (hw : Region.wanted o (yielded ops a.tmps) = true)
    {A : Option Addr} {n c : Nat} {vs : List Value} (hs : a.eval s = .slice A n c) (hown : w.ownsRow W.heap.size e 1 (.slice A n c) n vs)
    {B : Nat} {A' : Option Addr} {m c' : Nat} {ws : List Value} (hx : a.eval x = .slice A' m c') (hr : Rd w B A' m ws) (h1 : ∀ u ∈ ws, u.oneCell' = true) (hnm : n + m ≤ 1099511627776) (hby : bytes ≤ 64) (hB : Below W.heap.size W w)
    (h : ∀ A2 c2 w2, w2.ownsRow W.heap.size e 1 (.slice A2 (n + m) c2) (n + m) (vs ++ ws) → Below W.heap.size W w2 → w.grownBy w2 (Value.slice A n c).ownBlock → wpList P ops Q rest (a.put o.dst (.slice A2 (n + m) c2)) w2) :
    wpList P ops Q (o :: rest) a w := by
  obtain ⟨i, hi, hz, hsz, hbi⟩ := info_parts hT.info
  obtain ⟨v', w', hrun, h2, h3, h4⟩ := run_append_rd (P := P) w W.heap.size t o.type e i z bytes hT.under hi hz hsz hbi hT.one _ n vs hown B A' m c' ws hr h1
    (by unfold maxLen; omega) (by have := Nat.mul_le_mul hnm hby; omega) hB.size
  have hlt := hown.lt
  have hB2 : Below W.heap.size W w' := hB.grown h3 hB.size (fun k hk => (hlt k hk).1)
  obtain ⟨A2, c2, rfl, hr2⟩ := Rd.of_own h2
  have hgo := h A2 c2 w' h2 hB2 h3
  unfold wpList
  rw [if_pos hw]
  refine Or.inl ?_
  unfold Oper.wp execOp
  simp only [ho, resolve, invoke, builtin, Sem.run_bind, Sem.run_pure, Result.andThen_ok, List.map_toArray, List.map_cons, List.map_nil, hs, hx, hrun]
  exact hgo
end
/-- integers as values -/
def iv (zs : List Int) : List Value := zs.map (Value.int .i64)
theorem iv_length (zs : List Int) : (iv zs).length = zs.length := by simp [iv]
theorem Rd.oneV (w : World) (v : Value) (t : TypeId) : Rd (w.alloc (.cells #[v] t)) (w.heap.size + 1) (some ⟨w.heap.size, 0, none⟩) 1 [v] := Rd.made w #[v] t (0, 0) 1 rfl
theorem Rd.int_at {w : World} {B n k : Nat} {A : Option Addr} {zs : List Int} (h : Rd w B A n (iv zs)) (hk : k < n) : ∃ b o, A = some ⟨b, o, none⟩ ∧ ∃ hk' : k < zs.length, w.cell? ⟨b, o + k, none⟩ = some (.int .i64 zs[k]) := by
  obtain ⟨b, o, e, _, hc⟩ := h.2 (by omega)
  have hl : k < zs.length := by have := h.1; rw [iv_length] at this; omega
  exact ⟨b, o, e, hl, by rw [hc k hk]; simp [iv, hl]⟩
theorem Rd.int_cell {w : World} {B n k b o : Nat} {zs : List Int} {z : Int} (h : Rd w B (some ⟨b, o, none⟩) n (iv zs)) (hk : k < n) (hz : zs[k]? = some z) : w.cell? ⟨b, o + k, none⟩ = some (.int .i64 z) := by
  obtain ⟨b', o', e, _, hc⟩ := h.2 (by omega)
  injection e with e
  injection e with e1 e2
  subst e1 e2
  rw [hc k hk]; simp [iv, hz]
theorem IsRow.ints {w : World} {a : Option Addr} {len cap : Nat} {zs : List Int} (h : IsRow .i64 w a len cap zs) :
    Rd w w.heap.size a len (iv (zs.take len)) ∧ (zs.take len).length = len ∧ len ≤ cap ∧ cap ≤ maxLen := by
  rcases h with ⟨rfl, rfl, rfl, rfl⟩ | ⟨x, rfl, hl, hm, hz, hc, hw⟩
  · exact ⟨Rd.none_ _ _ _, rfl, Nat.le_refl _, by decide⟩
  · have hzl : (zs.take len).length = len := by rw [List.length_take]; omega
    refine ⟨⟨by rw [iv_length, hzl], fun hn => ?_⟩, hzl, hl, hm⟩
    obtain ⟨b, o, s⟩ := x
    have h0 := hc 0 (by omega)
    have hs : s = none := by simpa [Addr.add] using World.cell?_spot h0
    subst hs
    have hlt : b < w.heap.size := by
      rcases Nat.lt_or_ge b w.heap.size with h' | h'
      · exact h'
      · simp [World.cell?, Addr.add, Array.getElem?_eq_none h'] at h0
    refine ⟨b, o, rfl, hlt, fun i hi => ?_⟩
    have := hc i (by omega)
    have e : (⟨b, o, none⟩ : Addr).add i = ⟨b, o + i, none⟩ := by unfold Addr.add; split <;> simp_all
    rw [e] at this
    rw [this]
    have hi' : i < zs.length := by omega
    simp [iv, hi', hi, List.getD]
/-- the string of some bytes -/
def strB (l : List Nat) : ByteArray := strOfNums (l.map fun (x : Nat) => (x : Int))
theorem strB_inj {l m : List Nat} (hl : ∀ x ∈ l, x < 256) (hm : ∀ x ∈ m, x < 256) (h : strB l = strB m) : l = m := by
  have h1 : (l.map fun (x : Nat) => UInt8.ofNat x) = m.map fun (x : Nat) => UInt8.ofNat x := by
    have := congrArg (fun s => s.data.toList) h
    simpa [strB, strOfNums, Function.comp_def] using this
  clear h
  induction l generalizing m with
  | nil => cases m with
    | nil => rfl
    | cons y m => simp at h1
  | cons x l ih => cases m with
    | nil => simp at h1
    | cons y m =>
      simp only [List.map_cons, List.cons.injEq] at h1
      have hx := hl x (by simp)
      have hy := hm y (by simp)
      have e : x = y := by
        have := congrArg UInt8.toNat h1.1
        simp at this
        omega
      rw [e, ih (fun z hz => hl z (by simp [hz])) (fun z hz => hm z (by simp [hz])) h1.2]
theorem ba_beq (a b : ByteArray) : (a == b) = decide (a = b) := by
  have e : (a == b) = (a.data == b.data) := by cases a; cases b; rfl
  rw [e, Bool.eq_iff_iff, beq_iff_eq, decide_eq_true_iff]
  constructor
  · intro h; cases a; cases b; simp at h; rw [h]
  · intro h; rw [h]
theorem strB_eq {l m : List Nat} (hl : ∀ x ∈ l, x < 256) (hm : ∀ x ∈ m, x < 256) : (strB l == strB m) = decide (l = m) := by
  rw [ba_beq]
  by_cases h : l = m
  · subst h; simp
  · have : strB l ≠ strB m := fun e => h (strB_inj hl hm e)
    simp [h, this]
theorem run_str_rd {P : Program} {src e dst : TypeId} (hs : P.underlying src = some (.slice e)) (he : P.underlying e = some (.int .u8)) (hd : P.underlying dst = some .string)
    {w : World} {B : Nat} {A : Option Addr} {n c : Nat} {l : List Nat} (h : Rd w B A n (bv l)) : (convert src dst (.slice A n c)).run P w = .ok (.string (strB l)) w := by
  rcases Nat.eq_zero_or_pos n with h0 | h0
  · subst h0
    have hl : l = [] := List.eq_nil_of_length_eq_zero h.length
    subst hl
    cases A with
    | none => exact run_convert_bytes_nil w src e hs he 0 c dst hd
    | some a =>
      have h1 : (loadCells a 0).run P w = .ok #[] w := by
        have := run_loadCells_list (P := P) w a [] (fun j v hj => by simp at hj)
        simpa using this
      rw [run_convert_bytes_string w src dst e _ 0 c hs he hd, run_bytesToString w _ 0 c [] (by simpa using h1)]
      rfl
  · obtain ⟨b, o, rfl, _, hc⟩ := h.2 h0
    refine run_convert_bytes_arg w src e hs he b o n c (l.map fun (x : Nat) => (x : Int)) (by rw [List.length_map]; exact h.length) (fun i hi => ?_) dst hd
    have hl : i < l.length := by rw [h.length]; exact hi
    rw [hc i hi, bv_get hl]
    simp [List.getD, List.getElem?_eq_getElem hl]
end Go.Proofs.Ytijcbbommaeejaa

namespace Go.Proofs.Ytijcbbommaeejaa
open Go.RowKit
set_option linter.unusedVariables false

theorem byteT : ByteT Try.prog 23 5 := ⟨Try.underlying23, by kernel_rfl⟩
/-- a length that may be, and n more -/
def Lim (k n : Nat) : Prop := n + k ≤ 1099511627776
theorem Lim.out {k n : Nat} (h : Lim k n) : n + k ≤ 1099511627776 := h
/-- the call that began in W made a row that is the bytes l -/
abbrev OwnB (W w : World) (A : Option Addr) (n c : Nat) (l : List Nat) : Prop := w.ownsRow W.heap.size 5 1 (.slice A n c) n (bv l)
/-- a call that began in W answered the bytes l, in memory of its own, and turned nothing that was there -/
def GotB (W : World) (l : List Nat) (e : Ending) (w' : World) : Prop := ∃ A n c, e = .returned (.slice A n c) ∧ OwnB W w' A n c l ∧ Below W.heap.size W w'
theorem own_len {W w : World} {A : Option Addr} {n c : Nat} {l : List Nat} (h : OwnB W w A n c l) : l.length = n := by
  have := h.1; rw [bv_length] at this; omega
theorem own_below {W w w' : World} {A : Option Addr} {n c : Nat} {l : List Nat} (h : OwnB W w A n c l) (hb : Below w.heap.size w w') : OwnB W w' A n c l := ownsRow_below h hb
/-- the call began in W; from w on it answered the bytes l in memory of W's own -/
def GotIn (W w : World) (l : List Nat) (e : Ending) (w' : World) : Prop := ∃ A c, e = .returned (.slice A l.length c) ∧ OwnB W w' A l.length c l ∧ Below W.heap.size W w' ∧ Below w.heap.size w w'
theorem GotIn.of {W w : World} {l : List Nat} {e : Ending} {w' : World} (hB : Below W.heap.size W w) (h : GotB w l e w') : GotIn W w l e w' := by
  obtain ⟨A, n, c, rfl, ho, hb⟩ := h
  have hn := own_len ho
  subst hn
  refine ⟨A, c, rfl, ?_, hB.trans (hb.mono hB.size), hb⟩
  obtain ⟨h1, h2⟩ := ho
  refine ⟨h1, ?_⟩
  rcases h2 with h2 | ⟨g, cap, cur, hv, hg, r⟩
  · exact .inl h2
  · exact .inr ⟨g, cap, cur, hv, Nat.le_trans hB.size hg, r⟩
/-- a row of the call's own, over a store into a block of another type -/
theorem own_set_t {w : World} {base size n b i : Nat} {e t : TypeId} {v u : Value} {xs : List Value} {cs : Array Value} (h : w.ownsRow base e size v n xs) (hb : Blk w b t cs) (hne : e ≠ t) : (w.setCell ⟨b, i, none⟩ u).ownsRow base e size v n xs := by
  have hg : w.grownBy (w.setCell ⟨b, i, none⟩ u) (some b) :=
    ⟨rfl, rfl, rfl, by simp [World.setCell], fun k hk hn => Below.heap_setCell w ⟨b, i, none⟩ u k (by rintro rfl; exact hn rfl)⟩
  refine h.kept hg ?_
  rcases h.2 with ⟨h1, _⟩ | ⟨g, cap, cur, h1, _, hh, _⟩
  · rw [h1]; exact .inl rfl
  · rw [h1]
    refine .inr ?_
    show some g ≠ some b
    intro h0
    injection h0 with h0
    exact Blk.apart hh hb hne h0
theorem Blk.set_other {w : World} {g b i : Nat} {t : TypeId} {cs : Array Value} {u : Value} (h : Blk w g t cs) (hne : g ≠ b) : Blk (w.setCell ⟨b, i, none⟩ u) g t cs := (Below.heap_setCell w ⟨b, i, none⟩ u g hne).trans h
/-- a row of bytes as a string -/
theorem str_of {w : World} {B : Nat} {A : Option Addr} {n c : Nat} {l : List Nat} (h : Rd w B A n (bv l)) : (convert 23 9 (.slice A n c)).run Try.prog w = .ok (.string (strB l)) w :=
  run_str_rd Try.underlying23 Try.underlying5 Try.underlying9 h
end Go.Proofs.Ytijcbbommaeejaa

namespace Go.Proofs.Ytijcbbommaeejaa
open Go.RowKit
set_option linter.unusedVariables false

/-- two strings alike, as the walk asks it -/
theorem strL_eq {l m : List Nat} (hl : ∀ x ∈ l, x < 256) (hm : ∀ x ∈ m, x < 256) : ((strB l).toList == (strB m).toList) = decide (l = m) := by
  rw [← strB_eq hl hm, ba_beq, Bool.eq_iff_iff, beq_iff_eq, decide_eq_true_iff]
  constructor
  · intro h
    rw [ByteArray.toList_eq, ByteArray.toList_eq] at h
    have h1 := Array.toList_inj.1 h
    generalize strB l = a at h1 ⊢
    generalize strB m = b at h1 ⊢
    cases a; cases b; simp at h1; rw [h1]
  · intro h; rw [h]
theorem own_nil (W w : World) : OwnB W w none 0 0 [] := ⟨rfl, .inl ⟨rfl, rfl⟩⟩
end Go.Proofs.Ytijcbbommaeejaa

namespace Go.Proofs.Ytijcbbommaeejaa
open Go.RowKit
set_option linter.unusedVariables false

/-- the slices vs read as the rows qs, in blocks below B -/
structure Cells (w : World) (B : Nat) (vs : List Value) (qs : List (List Nat)) : Prop where
  len : vs.length = qs.length
  cell : ∀ (i : Nat) (l : List Nat), qs[i]? = some l → ∃ A c, vs[i]? = some (.slice A l.length c) ∧ Rd w B A l.length (bv l)
section
variable {w w' : World} {B B' n : Nat} {A : Option Addr} {vs : List Value} {qs : List (List Nat)}
end
end Go.Proofs.Ytijcbbommaeejaa

namespace Go.Proofs.Ytijcbbommaeejaa
open Go.RowKit
set_option linter.unusedVariables false
theorem Blk.apart_own {w w' : World} {g n c base' size' : Nat} {t e' : TypeId} {cs : Array Value} {A' : Option Addr} {xs' : List Value} (h : Blk w g t cs) (ho : w.ownsRow base' e' size' (.slice A' n c) n xs') (hne : t ≠ e') (hg : w.grownBy w' (Value.slice A' n c).ownBlock) : Blk w' g t cs := by
  refine h.grown hg ?_
  rcases own_blk ho with ⟨q1, _, _⟩ | ⟨g', cur', q1, _, hk'⟩
  · rw [q1]; intro h0; cases h0
  · rw [q1]; intro h0
    have h3 : g = g' := by simpa [Value.ownBlock] using h0
    exact Blk.apart h hk' hne h3
end Go.Proofs.Ytijcbbommaeejaa

namespace Go.Proofs.Ytijcbbommaeejaa
open Go.RowKit
set_option linter.unusedVariables false
theorem cellI : CellT Try.prog 22 3 (.int .i64 0) 8 := ⟨Try.underlying22, by kernel_rfl, rfl⟩
/-- the call that began in W made a row that is the integers l -/
abbrev OwnI (W w : World) (A : Option Addr) (n c : Nat) (l : List Int) : Prop := w.ownsRow W.heap.size 3 1 (.slice A n c) n (iv l)
theorem ownI_len {W w : World} {A : Option Addr} {n c : Nat} {l : List Int} (h : OwnI W w A n c l) : l.length = n := by
  have := h.1; rw [iv_length] at this; omega
theorem ownI_nil (W w : World) : OwnI W w none 0 0 [] := ⟨rfl, .inl ⟨rfl, rfl⟩⟩
theorem own_of {W w w' : World} {e : TypeId} {size n : Nat} {v : Value} {xs : List Value} (hs : W.heap.size ≤ w.heap.size) (h : w'.ownsRow w.heap.size e size v n xs) : w'.ownsRow W.heap.size e size v n xs := by
  obtain ⟨h1, h2⟩ := h
  refine ⟨h1, ?_⟩
  rcases h2 with h2 | ⟨g, cap, cur, hv, hg, r⟩
  · exact .inl h2
  · exact .inr ⟨g, cap, cur, hv, Nat.le_trans hs hg, r⟩
end Go.Proofs.Ytijcbbommaeejaa

namespace Go.Proofs.Ytijcbbommaeejaa
open Go.RowKit
set_option linter.unusedVariables false
/-- a command -/
structure Cm where
  kind : Int
  who : Int
  key : List Nat
  val : List Nat
  old : List Nat
/-- where a command lies -/
structure CA where
  Ak : Option Addr
  ck : Nat
  Av : Option Addr
  cv : Nat
  Ao : Option Addr
  co : Nat
def cmdC (a : CA) (c : Cm) : Array Value := #[.int .i64 c.kind, .int .i64 c.who, .slice a.Ak c.key.length a.ck, .slice a.Av c.val.length a.cv, .slice a.Ao c.old.length a.co]
def cmdV (a : CA) (c : Cm) : Value := .agg (cmdC a c)
/-- a command that reads -/
structure RdC (w : World) (B : Nat) (a : CA) (c : Cm) : Prop where
  rk : Rd w B a.Ak c.key.length (bv c.key)
  rv : Rd w B a.Av c.val.length (bv c.val)
  ro : Rd w B a.Ao c.old.length (bv c.old)
section
variable {W w w' : World} {B : Nat} {ca : CA} {c : Cm}
theorem RdC.below (h : RdC w B ca c) (hb : Below B w w') : RdC w' B ca c := ⟨h.rk.below hb, h.rv.below hb, h.ro.below hb⟩
theorem RdC.fit (h : RdC w B ca c) : RdC w w.heap.size ca c := ⟨h.rk.fit, h.rv.fit, h.ro.fit⟩
end
/-- what a command keeps -/
structure Cm.Fits (c : Cm) : Prop where
  key : c.key.length ≤ 100 ∧ ∀ x ∈ c.key, x < 256
  val : c.val.length ≤ 100 ∧ ∀ x ∈ c.val, x < 256
  old : c.old.length ≤ 100 ∧ ∀ x ∈ c.old, x < 256
/-- .. of five -/
theorem five {w : World} {b : Nat} {t : TypeId} {x y z u v : Value} (h : Blk w b t #[x, y, z, u, v]) :
    w.cell? ⟨b, 0, none⟩ = some x ∧ w.cell? ⟨b, 1, none⟩ = some y ∧ w.cell? ⟨b, 2, none⟩ = some z ∧ w.cell? ⟨b, 3, none⟩ = some u ∧ w.cell? ⟨b, 4, none⟩ = some v :=
  ⟨h.cell 0, h.cell 1, h.cell 2, h.cell 3, h.cell 4⟩
end Go.Proofs.Ytijcbbommaeejaa

namespace Go.Proofs.Ytijcbbommaeejaa
open Go.RowKit
set_option linter.unusedVariables false
theorem results_cell_tmp {P : Program} {fn : Func} {u p : Tmp} {ty : TypeId} (h : fn.results = #[.cell p ty, .tmp u]) (tmps : Array Value) (w : World) (g : Nat) (t : TypeId) (cs : Array Value) (d : TypeDesc)
    (hp : tmps.getD p undef = .pointer (some ⟨g, 0, none⟩)) (hg : Blk w g t cs)
    (hu : P.underlying ty = some d) (hd : (match d with | .struct _ | .array _ _ => true | _ => false) = true) (hi : (P.info? ty).map (·.size) = some cs.size) :
    (results fn tmps).run P w = .ok (.tuple #[.agg cs, tmps.getD u undef]) w := by
  have hp' : tmps[p]?.getD undef = .pointer (some ⟨g, 0, none⟩) := by simpa using hp
  simp [results, h, hp', asAddr, run_loadVar_row w g t ty cs (0, 0) d hg hu hd hi]
end Go.Proofs.Ytijcbbommaeejaa

namespace Go.Proofs.Ytijcbbommaeejaa
namespace Pk
/-- the greatest number -/
def top : Nat := 4611686018427387904
/-- the nearest number that may be -/
def held (n : Int) : Nat := min n.toNat top
theorem held_le (n : Int) : held n ≤ top := Nat.min_le_right _ _
theorem held_of {n : Nat} (h : n ≤ top) : held (n : Int) = n := by unfold held; omega
/-- groups of seven bits, the lowest first; at most f more -/
def encF : Nat → Nat → List Nat
  | 0, n => [n]
  | f + 1, n => if n < 128 then [n] else (n % 128 + 128) :: encF f (n / 128)
def enc (n : Nat) : List Nat := encF 8 n
theorem encF_more : ∀ (f n : Nat), n < 128 ^ (f + 1) → encF f n = encF (f + 1) n := by
  intro f
  induction f with
  | zero => intro n h; have h' : n < 128 := by simpa using h
            simp [encF, h']
  | succ f ih =>
    intro n h
    show (if n < 128 then [n] else (n % 128 + 128) :: encF f (n / 128)) = (if n < 128 then [n] else (n % 128 + 128) :: encF (f + 1) (n / 128))
    rw [ih (n / 128) (by rw [Nat.pow_succ] at h; exact Nat.div_lt_of_lt_mul (by omega))]
theorem enc_small {n : Nat} (h : n < 128) : enc n = [n] := by simp [enc, encF, h]
theorem enc_big {n : Nat} (h : 128 ≤ n) (ht : n ≤ top) : enc n = (n % 128 + 128) :: enc (n / 128) := by
  have e : encF 7 (n / 128) = encF 8 (n / 128) := encF_more 7 _ (by unfold top at ht; omega)
  unfold enc
  rw [← e]
  show (if n < 128 then [n] else (n % 128 + 128) :: encF 7 (n / 128)) = _
  rw [if_neg (by omega)]
theorem encF_length : ∀ (f n : Nat), 1 ≤ (encF f n).length ∧ (encF f n).length ≤ f + 1 := by
  intro f
  induction f with
  | zero => intro n; simp [encF]
  | succ f ih =>
    intro n
    have := ih (n / 128)
    unfold encF
    split
    · simp
    · simp only [List.length_cons]; omega
theorem enc_length (n : Nat) : 1 ≤ (enc n).length ∧ (enc n).length ≤ 9 := encF_length 8 n
theorem enc_lt {n : Nat} (h : n ≤ top) : ∀ x ∈ enc n, x < 256 := by
  have key : ∀ (f n : Nat), n < 128 ^ (f + 1) → ∀ x ∈ encF f n, x < 256 := by
    intro f
    induction f with
    | zero => intro n h x hx; simp [encF] at hx; subst hx; simp at h; omega
    | succ f ih =>
      intro n h x hx
      unfold encF at hx
      split at hx
      · simp at hx; omega
      · rcases List.mem_cons.1 hx with rfl | hx
        · omega
        · exact ih (n / 128) (by rw [Nat.pow_succ] at h; exact Nat.div_lt_of_lt_mul (by omega)) x hx
  exact key 8 n (by unfold top at h; omega)
/-- the number at the head, and how many bytes it takes: 0 where none is there in its one form; i bytes are read, and say acc -/
def dec : Nat → Nat → List Nat → Nat × Nat
  | _, _, [] => (0, 0)
  | i, acc, x :: l =>
    if 9 ≤ i then (0, 0)
    else if 128 ≤ x then dec (i + 1) (acc + x % 128 * 128 ^ i) l
    else if x = 0 ∧ 0 < i then (0, 0)
    else (acc + x * 128 ^ i, i + 1)
def first (l : List Nat) : Nat × Nat := dec 0 0 l
theorem dec_enc : ∀ (f i n acc : Nat) (rest : List Nat), n < 128 ^ (f + 1) → i + f ≤ 8 → (0 < i → 0 < n) → dec i acc (encF f n ++ rest) = (acc + n * 128 ^ i, i + (encF f n).length) := by
  intro f
  induction f with
  | zero =>
    intro i n acc rest h hi h0
    have h' : n < 128 := by simpa using h
    show dec i acc (n :: rest) = _
    simp only [dec]
    rw [if_neg (by omega), if_neg (by omega), if_neg (by omega)]; rfl
  | succ f ih =>
    intro i n acc rest h hi h0
    by_cases hs : n < 128
    · have e : encF (f + 1) n = [n] := by unfold encF; rw [if_pos hs]
      rw [e]
      show dec i acc (n :: rest) = _
      simp only [dec]
      rw [if_neg (by omega), if_neg (by omega), if_neg (by omega)]; rfl
    · have e : encF (f + 1) n = (n % 128 + 128) :: encF f (n / 128) := by
        show (if n < 128 then [n] else (n % 128 + 128) :: encF f (n / 128)) = _
        rw [if_neg hs]
      rw [e]
      show dec i acc ((n % 128 + 128) :: (encF f (n / 128) ++ rest)) = _
      simp only [dec]
      rw [if_neg (by omega), if_pos (by omega), ih (i + 1) (n / 128) _ rest (by rw [Nat.pow_succ] at h; exact Nat.div_lt_of_lt_mul (by omega)) (by omega) (by omega)]
      simp only [List.length_cons, Prod.mk.injEq]
      constructor
      · have e1 : (n % 128 + 128) % 128 = n % 128 := by omega
        have e2 : n % 128 * 128 ^ i + n / 128 * 128 ^ (i + 1) = n * 128 ^ i := by
          have h1 : n / 128 * 128 ^ (i + 1) = n / 128 * 128 * 128 ^ i := by rw [Nat.pow_succ]; rw [Nat.mul_comm (128 ^ i) 128, ← Nat.mul_assoc]
          rw [h1, ← Nat.add_mul]
          congr 1
          omega
        rw [e1]; omega
      · omega
theorem first_enc {n : Nat} (h : n ≤ top) (rest : List Nat) : first (enc n ++ rest) = (n, (enc n).length) := by
  have := dec_enc 8 0 n 0 rest (by unfold top at h; omega) (by omega) (by omega)
  simpa [first, enc] using this
theorem dec_size : ∀ (l : List Nat) (i acc : Nat), (dec i acc l).2 = 0 ∨ (i < (dec i acc l).2 ∧ (dec i acc l).2 ≤ i + l.length ∧ (dec i acc l).2 ≤ 9) := by
  intro l
  induction l with
  | nil => intro i acc; left; rfl
  | cons x l ih =>
    intro i acc
    simp only [dec]
    split
    · left; rfl
    · split
      · have := ih (i + 1) (acc + x % 128 * 128 ^ i)
        simp only [List.length_cons]
        omega
      · split
        · left; rfl
        · right
          simp only [List.length_cons]
          omega
theorem first_size (l : List Nat) : (first l).2 ≤ l.length ∧ (first l).2 ≤ 9 := by
  have := dec_size l 0 0
  unfold first
  omega
/-- one number read out of l, of at most m -/
def rNum (l : List Nat) (m : Nat) : Option (Nat × List Nat) := if (first l).2 = 0 ∨ m < (first l).1 then none else some ((first l).1, l.drop (first l).2)
/-- a reader that read nothing that is none: what is left; one that did: none -/
abbrev St := Option (List Nat)
def numN (s : St) (m : Int) : Option (Nat × List Nat) := s.bind fun l => rNum l (held m)
def numV (s : St) (m : Int) : Nat := ((numN s m).map (·.1)).getD 0
def numS (s : St) (m : Int) : St := (numN s m).map (·.2)
def bytN (s : St) (m : Int) : Option (List Nat × List Nat) := (numN s m).bind fun p => if p.2.length < p.1 then none else some (p.2.take p.1, p.2.drop p.1)
def bytV (s : St) (m : Int) : List Nat := ((bytN s m).map (·.1)).getD []
def bytS (s : St) (m : Int) : St := (bytN s m).map (·.2)
theorem byt_of {s : St} {m : Int} (h : ¬ ((numS s m).getD []).length < numV s m) : bytV s m = ((numS s m).getD []).take (numV s m) ∧ bytS s m = (numS s m).map (List.drop (numV s m)) := by
  unfold bytV bytS bytN
  unfold numS numV at *
  cases hn : numN s m with
  | none => exact ⟨rfl, rfl⟩
  | some p =>
    rw [hn] at h
    have h' : ¬ p.2.length < p.1 := h
    simp [h']
theorem byt_no {s : St} {m : Int} (h : ((numS s m).getD []).length < numV s m) : bytV s m = [] ∧ bytS s m = none := by
  unfold bytV bytS bytN
  unfold numS numV at *
  cases hn : numN s m with
  | none => exact ⟨rfl, rfl⟩
  | some p =>
    rw [hn] at h
    have h' : p.2.length < p.1 := h
    simp [h']
theorem rNum_enc {n : Nat} (h : n ≤ top) (rest : List Nat) (m : Nat) (hm : n ≤ m) : rNum (enc n ++ rest) m = some (n, rest) := by
  unfold rNum
  rw [first_enc h]
  have := enc_length n
  simp only
  rw [if_neg (by omega), List.drop_left']
  rfl
/-- the bytes of some bytes: their length, and they -/
def encB (x : List Nat) : List Nat := enc x.length ++ x
theorem encB_lt {x : List Nat} (h : ∀ y ∈ x, y < 256) (hl : x.length ≤ top) : ∀ y ∈ encB x, y < 256 := by
  intro y hy
  rcases List.mem_append.1 hy with hy | hy
  · exact enc_lt hl y hy
  · exact h y hy
theorem numN_enc {n : Nat} (h : n ≤ top) (rest : List Nat) (m : Int) (hm : n ≤ held m) : numN (some (enc n ++ rest)) m = some (n, rest) := rNum_enc h rest _ hm
theorem bytN_enc (x rest : List Nat) (m : Int) (h : x.length ≤ top) (hm : x.length ≤ held m) : bytN (some (encB x ++ rest)) m = some (x, rest) := by
  unfold bytN encB
  rw [List.append_assoc, numN_enc h _ _ hm]
  simp only [Option.bind_some]
  rw [if_neg (by simp), List.take_left', List.drop_left'] <;> rfl
theorem numV_is {s : St} {m : Int} {n : Nat} {l : List Nat} (h : numN s m = some (n, l)) : numV s m = n ∧ numS s m = some l := by
  unfold numV numS; rw [h]; exact ⟨rfl, rfl⟩
theorem numV_no {s : St} {m : Int} (h : numN s m = none) : numV s m = 0 ∧ numS s m = none := by
  unfold numV numS; rw [h]; exact ⟨rfl, rfl⟩
theorem bytV_is {s : St} {m : Int} {x l : List Nat} (h : bytN s m = some (x, l)) : bytV s m = x ∧ bytS s m = some l := by
  unfold bytV bytS; rw [h]; exact ⟨rfl, rfl⟩
/-- numbers, one behind the other -/
def encs : List Int → List Nat
  | [] => []
  | z :: zs => enc (held z) ++ encs zs
theorem encs_snoc (zs : List Int) (z : Int) : encs (zs ++ [z]) = encs zs ++ enc (held z) := by
  induction zs with
  | nil => simp [encs]
  | cons y zs ih => simp [encs, ih]
theorem encs_length (zs : List Int) : (encs zs).length ≤ 9 * zs.length := by
  induction zs with
  | nil => simp [encs]
  | cons y zs ih =>
    have := enc_length (held y)
    simp only [encs, List.length_append, List.length_cons]
    omega
theorem encs_lt (zs : List Int) : ∀ x ∈ encs zs, x < 256 := by
  induction zs with
  | nil => intro x hx; cases hx
  | cons y zs ih =>
    intro x hx
    rcases List.mem_append.1 hx with hx | hx
    · exact enc_lt (held_le y) x hx
    · exact ih x hx
end Pk
end Go.Proofs.Ytijcbbommaeejaa

namespace Go.Proofs.Ytijcbbommaeejaa
open Go.RowKit
set_option linter.unusedVariables false
/-- an entry: session, number, command -/
structure En where
  s : Int
  q : Int
  c : Cm
end Go.Proofs.Ytijcbbommaeejaa

namespace Go.Proofs.Ytijcbbommaeejaa
set_option linter.unusedVariables false
def encQ (qs : List (List Nat)) : List Nat := qs.flatMap Pk.encB
/-- how many -/
def encN (n : Nat) : List Nat := Pk.enc (Pk.held (n : Int))
def En.enc (e : En) : List Nat := Pk.enc (Pk.held e.s) ++ (Pk.enc (Pk.held e.q) ++ (Pk.enc (Pk.held e.c.kind) ++ (Pk.enc (Pk.held e.c.who) ++ (Pk.encB e.c.key ++ (Pk.encB e.c.val ++ Pk.encB e.c.old)))))
theorem encQ_snoc (qs : List (List Nat)) (x : List Nat) : encQ (qs ++ [x]) = encQ qs ++ Pk.encB x := by simp [encQ]
theorem encB_length (x : List Nat) : (Pk.encB x).length ≤ x.length + 9 := by
  unfold Pk.encB; have := (Pk.enc_length x.length).2; simp; omega
theorem encN_length (n : Nat) : (encN n).length ≤ 9 := (Pk.enc_length _).2
/-- an entry that is read -/
def En.get (s : Pk.St) : En × Pk.St :=
  let s1 := Pk.numS s 1073741824
  let s2 := Pk.numS s1 1073741824
  let s3 := Pk.numS s2 1073741824
  let s4 := Pk.numS s3 1073741824
  let s5 := Pk.bytS s4 32
  let s6 := Pk.bytS s5 32
  (⟨Pk.numV s 1073741824, Pk.numV s1 1073741824, ⟨Pk.numV s2 1073741824, Pk.numV s3 1073741824, Pk.bytV s4 32, Pk.bytV s5 32, Pk.bytV s6 32⟩⟩, Pk.bytS s6 32)
def En.zero : En := ⟨0, 0, ⟨0, 0, [], [], []⟩⟩
def En.read (s : Pk.St) : En := if (En.get s).2 = none then En.zero else (En.get s).1
-- back
theorem num_of_enc {n : Nat} {m : Int} {rest : List Nat} (h : n ≤ Pk.top) (hm : n ≤ Pk.held m) : Pk.numV (some (Pk.enc n ++ rest)) m = n ∧ Pk.numS (some (Pk.enc n ++ rest)) m = some rest := Pk.numV_is (Pk.numN_enc h rest m hm)
theorem num_of_encI {z : Int} {m : Int} {rest : List Nat} (h0 : 0 ≤ z) (hm : z ≤ m) (ht : m ≤ 4611686018427387904) : (Pk.numV (some (Pk.enc (Pk.held z) ++ rest)) m : Int) = z ∧ Pk.numS (some (Pk.enc (Pk.held z) ++ rest)) m = some rest := by
  have e : (Pk.held z : Int) = z := by unfold Pk.held Pk.top; omega
  have h1 := num_of_enc (n := Pk.held z) (m := m) (rest := rest) (Pk.held_le z) (by unfold Pk.held Pk.top; omega)
  exact ⟨by rw [h1.1, e], h1.2⟩
theorem num_of_encN {n : Nat} {m : Int} {rest : List Nat} (hm : (n : Int) ≤ m) (ht : m ≤ 4611686018427387904) : Pk.numV (some (encN n ++ rest)) m = n ∧ Pk.numS (some (encN n ++ rest)) m = some rest := by
  have := num_of_encI (z := (n : Int)) (m := m) (rest := rest) (by omega) hm ht
  exact ⟨by have := this.1; unfold encN; omega, this.2⟩
theorem byt_of_enc {x : List Nat} {m : Int} {rest : List Nat} (h : (x.length : Int) ≤ m) (ht : m ≤ 1000) : Pk.bytV (some (Pk.encB x ++ rest)) m = x ∧ Pk.bytS (some (Pk.encB x ++ rest)) m = some rest :=
  Pk.bytV_is (Pk.bytN_enc x rest m (by unfold Pk.top; omega) (by unfold Pk.held Pk.top; omega))
end Go.Proofs.Ytijcbbommaeejaa

namespace Go.Proofs.Ytijcbbommaeejaa
set_option linter.unusedVariables false
/-- all that is left are bytes -/
def BytesSt (s : Pk.St) : Prop := ∀ l, s = some l → ∀ x ∈ l, x < 256
theorem numN_cases (s : Pk.St) (m : Int) : (Pk.numV s m = 0 ∧ Pk.numS s m = none) ∨ ∃ l, s = some l ∧ Pk.numV s m = (Pk.first l).1 ∧ Pk.numV s m ≤ Pk.held m ∧ Pk.numS s m = some (l.drop (Pk.first l).2) := by
  cases s with
  | none => left; exact ⟨rfl, rfl⟩
  | some l =>
    by_cases h : (Pk.first l).2 = 0 ∨ Pk.held m < (Pk.first l).1
    · left
      refine Pk.numV_no ?_
      show Pk.rNum l (Pk.held m) = none
      unfold Pk.rNum; rw [if_pos h]
    · right
      have := Pk.numV_is (s := some l) (m := m) (n := (Pk.first l).1) (l := l.drop (Pk.first l).2) (by show Pk.rNum l (Pk.held m) = _; unfold Pk.rNum; rw [if_neg h])
      refine ⟨l, rfl, this.1, ?_, this.2⟩
      rw [this.1]
      omega
theorem numV_le (s : Pk.St) {m : Int} (hm : 0 ≤ m) : (Pk.numV s m : Int) ≤ m := by
  have hh : (Pk.held m : Int) ≤ m := by unfold Pk.held Pk.top; omega
  rcases numN_cases s m with h | ⟨l, _, _, h, _⟩
  · rw [h.1]; exact hm
  · omega
theorem numS_bytes {s : Pk.St} (h : BytesSt s) (m : Int) : BytesSt (Pk.numS s m) := by
  rcases numN_cases s m with h1 | ⟨l, h1, _, _, h2⟩
  · rw [h1.2]; intro l hl; cases hl
  · rw [h2]
    intro l' hl'
    injection hl' with hl'
    subst hl'
    exact fun x hx => h l h1 x (List.mem_of_mem_drop hx)
theorem bytV_facts {s : Pk.St} (h : BytesSt s) {m : Int} (hm : 0 ≤ m) : ((Pk.bytV s m).length : Int) ≤ m ∧ (∀ x ∈ Pk.bytV s m, x < 256) ∧ BytesSt (Pk.bytS s m) := by
  have hn := numV_le s hm
  have hb := numS_bytes h m
  by_cases hl : ((Pk.numS s m).getD []).length < Pk.numV s m
  · obtain ⟨e1, e2⟩ := Pk.byt_no hl
    rw [e1, e2]
    exact ⟨by simpa using hm, by simp, fun l hl => by cases hl⟩
  · obtain ⟨e1, e2⟩ := Pk.byt_of hl
    rw [e1, e2]
    cases hs : Pk.numS s m with
    | none => exact ⟨by simpa using hm, by simp, fun l hl => by cases hl⟩
    | some l =>
      refine ⟨by simp only [Option.getD_some, List.length_take]; omega, fun x hx => hb l hs x (List.mem_of_mem_take (by simpa using hx)), ?_⟩
      intro l' hl'
      simp only [Option.map_some] at hl'
      injection hl' with hl'
      subst hl'
      exact fun x hx => hb l hs x (List.mem_of_mem_drop hx)
theorem En.read_fits {s : Pk.St} (h : BytesSt s) : (En.read s).c.Fits ∧ BytesSt (En.get s).2 := by
  have s1 := numS_bytes h 1073741824
  have s2 := numS_bytes s1 1073741824
  have s3 := numS_bytes s2 1073741824
  have s4 := numS_bytes s3 1073741824
  obtain ⟨a1, a2, a3⟩ := bytV_facts s4 (m := 32) (by omega)
  obtain ⟨b1, b2, b3⟩ := bytV_facts a3 (m := 32) (by omega)
  obtain ⟨c1, c2, c3⟩ := bytV_facts b3 (m := 32) (by omega)
  refine ⟨?_, c3⟩
  unfold En.read
  split
  · exact ⟨⟨by simp [En.zero], by simp [En.zero]⟩, ⟨by simp [En.zero], by simp [En.zero]⟩, ⟨by simp [En.zero], by simp [En.zero]⟩⟩
  · exact ⟨⟨by show (Pk.bytV _ 32).length ≤ 100; omega, a2⟩, ⟨by show (Pk.bytV _ 32).length ≤ 100; omega, b2⟩, ⟨by show (Pk.bytV _ 32).length ≤ 100; omega, c2⟩⟩
end Go.Proofs.Ytijcbbommaeejaa

namespace Go.Proofs.Ytijcbbommaeejaa
open Go.RowKit
set_option linter.unusedVariables false
def entC (a : CA) (e : En) : Array Value := #[.int .i64 e.s, .int .i64 e.q, .int .i64 e.c.kind, .int .i64 e.c.who, .slice a.Ak e.c.key.length a.ck, .slice a.Av e.c.val.length a.cv, .slice a.Ao e.c.old.length a.co]
def entV (a : CA) (e : En) : Value := .agg (entC a e)
section
variable {W w w' : World} {B : Nat}
end
/-- a block of seven cells: what a walk reads of it -/
theorem seven {w : World} {b : Nat} {t : TypeId} {x0 x1 x2 x3 x4 x5 x6 : Value} (h : Blk w b t #[x0, x1, x2, x3, x4, x5, x6]) :
    w.cell? ⟨b, 0, none⟩ = some x0 ∧ w.cell? ⟨b, 1, none⟩ = some x1 ∧ w.cell? ⟨b, 2, none⟩ = some x2 ∧ w.cell? ⟨b, 3, none⟩ = some x3 ∧ w.cell? ⟨b, 4, none⟩ = some x4 ∧ w.cell? ⟨b, 5, none⟩ = some x5 ∧ w.cell? ⟨b, 6, none⟩ = some x6 :=
  ⟨h.cell 0, h.cell 1, h.cell 2, h.cell 3, h.cell 4, h.cell 5, h.cell 6⟩
theorem Cm.Fits.zero : Cm.Fits ⟨0, 0, [], [], []⟩ := ⟨⟨by simp, by simp⟩, ⟨by simp, by simp⟩, ⟨by simp, by simp⟩⟩
theorem RdC.zero (w : World) (B : Nat) : RdC w B ⟨none, 0, none, 0, none, 0⟩ ⟨0, 0, [], [], []⟩ := ⟨Rd.none_ _ _ _, Rd.none_ _ _ _, Rd.none_ _ _ _⟩
end Go.Proofs.Ytijcbbommaeejaa

namespace Go.Proofs.Ytijcbbommaeejaa
open Go.RowKit
set_option linter.unusedVariables false
theorem En.eq_iff (a b : En) : a = b ↔ a.s = b.s ∧ a.q = b.q ∧ a.c.kind = b.c.kind ∧ a.c.who = b.c.who ∧ a.c.key = b.c.key ∧ a.c.val = b.c.val ∧ a.c.old = b.c.old := by
  constructor
  · rintro rfl; exact ⟨rfl, rfl, rfl, rfl, rfl, rfl, rfl⟩
  · rintro ⟨h1, h2, h3, h4, h5, h6, h7⟩; obtain ⟨_, _, ⟨_, _, _, _, _⟩⟩ := a; obtain ⟨_, _, ⟨_, _, _, _, _⟩⟩ := b; simp at h1 h2 h3 h4 h5 h6 h7; subst h1 h2 h3 h4 h5 h6 h7; rfl
instance : DecidableEq En := fun a b => decidable_of_iff _ (En.eq_iff a b).symm
theorem encN_lt (n : Nat) : ∀ x ∈ encN n, x < 256 := Pk.enc_lt (Pk.held_le _)
end Go.Proofs.Ytijcbbommaeejaa

namespace Go.Proofs.Ytijcbbommaeejaa
open Go.RowKit
set_option linter.unusedVariables false
/-- a message -/
structure Mg where
  kind : Int
  frm : Int
  dst : Int
  view : Int
  inst : Int
  len : Int
  has : Bool
  mem : Int
  src : Int
  pos : Int
  tot : Int
  data : List Nat
  hop : Int
  seq : Int
  hav : List Int
  nee : List Int
  idx : Int
  ent : En
def Mg.zero : Mg := ⟨0, 0, 0, 0, 0, 0, false, 0, 0, 0, 0, [], 0, 0, [], [], 0, En.zero⟩
theorem Mg.eq_iff (a b : Mg) : a = b ↔ a.kind = b.kind ∧ a.frm = b.frm ∧ a.dst = b.dst ∧ a.view = b.view ∧ a.inst = b.inst ∧ a.len = b.len ∧ a.has = b.has ∧ a.mem = b.mem ∧ a.src = b.src ∧ a.pos = b.pos ∧ a.tot = b.tot ∧ a.data = b.data ∧ a.hop = b.hop ∧ a.seq = b.seq ∧ a.hav = b.hav ∧ a.nee = b.nee ∧ a.idx = b.idx ∧ a.ent = b.ent := by
  constructor
  · rintro rfl; exact ⟨rfl, rfl, rfl, rfl, rfl, rfl, rfl, rfl, rfl, rfl, rfl, rfl, rfl, rfl, rfl, rfl, rfl, rfl⟩
  · rintro ⟨h1, h2, h3, h4, h5, h6, h7, h8, h9, h10, h11, h12, h13, h14, h15, h16, h17, h18⟩; cases a; cases b; simp at h1 h2 h3 h4 h5 h6 h7 h8 h9 h10 h11 h12 h13 h14 h15 h16 h17 h18; subst h1 h2 h3 h4 h5 h6 h7 h8 h9 h10 h11 h12 h13 h14 h15 h16 h17 h18; rfl
instance : DecidableEq Mg := fun a b => decidable_of_iff _ (Mg.eq_iff a b).symm
/-- 0 to m -/
def wi (m z : Int) : Bool := decide (0 ≤ z) && decide (z ≤ m)
theorem wi_iff {m z : Int} : wi m z = true ↔ 0 ≤ z ∧ z ≤ m := by unfold wi; simp
def wis (k : Nat) (l : List Int) : Bool := decide (l.length ≤ k) && l.all (wi 1099511627776)
/-- an entry that may be told -/
def En.ok (e : En) : Bool := wi 1073741824 e.s && (wi 1073741824 e.q && (wi 1073741824 e.c.kind && (wi 1073741824 e.c.who && (decide (e.c.key.length ≤ 32) && (decide (e.c.val.length ≤ 32) && decide (e.c.old.length ≤ 32))))))
def Mg.headOk (m : Mg) : Bool := wi 6 m.frm && (wi 6 m.dst && wi 1099511627776 m.view)
def Mg.tailOk (m : Mg) : Bool :=
  if m.kind = 2 then wi 1099511627776 m.inst && wi 1099511627776 m.len
  else if m.kind = 3 then wi 127 m.mem && (wi 6 m.src && wi 1099511627776 m.len)
  else if m.kind = 4 then wi 1099511627776 m.pos
  else if m.kind = 5 then wi 1099511627776 m.pos && (wi 1099511627776 m.tot && decide (m.data.length ≤ 64))
  else if m.kind = 7 then wi 1099511627776 m.hop && (wi 1099511627776 m.seq && (wis 7 m.hav && wis 8 m.nee))
  else if m.kind = 8 then wi 1099511627776 m.idx && m.ent.ok
  else decide (m.kind = 1) || decide (m.kind = 6)
def Mg.ok (m : Mg) : Bool := m.headOk && m.tailOk
def eI (z : Int) : List Nat := Pk.enc (Pk.held z)
def Mg.has01 (m : Mg) : Int := if m.has then 1 else 0
def Mg.head (m : Mg) : List Nat := eI m.kind ++ (eI m.frm ++ (eI m.dst ++ eI m.view))
def Mg.tail (m : Mg) : List Nat :=
  if m.kind = 2 then eI m.inst ++ (eI m.len ++ eI m.has01)
  else if m.kind = 3 then eI m.mem ++ (eI m.src ++ eI m.len)
  else if m.kind = 4 then eI m.pos
  else if m.kind = 5 then eI m.pos ++ (eI m.tot ++ Pk.encB m.data)
  else if m.kind = 7 then eI m.hop ++ (eI m.seq ++ (encN m.hav.length ++ (Pk.encs m.hav ++ (encN m.nee.length ++ Pk.encs m.nee))))
  else if m.kind = 8 then eI m.idx ++ m.ent.enc
  else []
/-- its bytes -/
def Mg.enc (m : Mg) : List Nat := if m.ok = true then m.head ++ m.tail else []
/-- the fields that its kind names -/
def Mg.bare (m : Mg) : Mg :=
  let z := { Mg.zero with kind := m.kind, frm := m.frm, dst := m.dst, view := m.view }
  if m.kind = 2 then { z with inst := m.inst, len := m.len, has := m.has }
  else if m.kind = 3 then { z with mem := m.mem, src := m.src, len := m.len }
  else if m.kind = 4 then { z with pos := m.pos }
  else if m.kind = 5 then { z with pos := m.pos, tot := m.tot, data := m.data }
  else if m.kind = 7 then { z with hop := m.hop, seq := m.seq, hav := m.hav, nee := m.nee }
  else if m.kind = 8 then { z with idx := m.idx, ent := m.ent }
  else z
/-- numbers that are read -/
def getF : Nat → Pk.St → List Int × Pk.St
  | 0, s => ([], s)
  | k + 1, s => ((Pk.numV s 1099511627776 : Int) :: (getF k (Pk.numS s 1099511627776)).1, (getF k (Pk.numS s 1099511627776)).2)
def stF (m : Int) (s : Pk.St) : List Int × Pk.St := getF (Pk.numV s m) (Pk.numS s m)
/-- the state behind the head -/
def s4 (s : Pk.St) : Pk.St := Pk.numS (Pk.numS (Pk.numS (Pk.numS s 8) 6) 6) 1099511627776
def hd (s : Pk.St) : Mg := { Mg.zero with kind := (Pk.numV s 8 : Int), frm := (Pk.numV (Pk.numS s 8) 6 : Int), dst := (Pk.numV (Pk.numS (Pk.numS s 8) 6) 6 : Int), view := (Pk.numV (Pk.numS (Pk.numS (Pk.numS s 8) 6) 6) 1099511627776 : Int) }
def Mg.get (s : Pk.St) : Mg × Pk.St :=
  if Pk.numV s 8 = 2 then ({ hd s with inst := (Pk.numV (s4 s) 1099511627776 : Int), len := (Pk.numV (Pk.numS (s4 s) 1099511627776) 1099511627776 : Int), has := decide (Pk.numV (Pk.numS (Pk.numS (s4 s) 1099511627776) 1099511627776) 1 = 1) }, Pk.numS (Pk.numS (Pk.numS (s4 s) 1099511627776) 1099511627776) 1)
  else if Pk.numV s 8 = 3 then ({ hd s with mem := (Pk.numV (s4 s) 127 : Int), src := (Pk.numV (Pk.numS (s4 s) 127) 6 : Int), len := (Pk.numV (Pk.numS (Pk.numS (s4 s) 127) 6) 1099511627776 : Int) }, Pk.numS (Pk.numS (Pk.numS (s4 s) 127) 6) 1099511627776)
  else if Pk.numV s 8 = 4 then ({ hd s with pos := (Pk.numV (s4 s) 1099511627776 : Int) }, Pk.numS (s4 s) 1099511627776)
  else if Pk.numV s 8 = 5 then ({ hd s with pos := (Pk.numV (s4 s) 1099511627776 : Int), tot := (Pk.numV (Pk.numS (s4 s) 1099511627776) 1099511627776 : Int), data := Pk.bytV (Pk.numS (Pk.numS (s4 s) 1099511627776) 1099511627776) 64 }, Pk.bytS (Pk.numS (Pk.numS (s4 s) 1099511627776) 1099511627776) 64)
  else if Pk.numV s 8 = 7 then ({ hd s with hop := (Pk.numV (s4 s) 1099511627776 : Int), seq := (Pk.numV (Pk.numS (s4 s) 1099511627776) 1099511627776 : Int), hav := (stF 7 (Pk.numS (Pk.numS (s4 s) 1099511627776) 1099511627776)).1, nee := (stF 8 (stF 7 (Pk.numS (Pk.numS (s4 s) 1099511627776) 1099511627776)).2).1 }, (stF 8 (stF 7 (Pk.numS (Pk.numS (s4 s) 1099511627776) 1099511627776)).2).2)
  else if Pk.numV s 8 = 8 then ({ hd s with idx := (Pk.numV (s4 s) 1099511627776 : Int), ent := En.read (Pk.numS (s4 s) 1099511627776) }, (En.get (Pk.numS (s4 s) 1099511627776)).2)
  else (hd s, s4 s)
/-- the message of bytes, or none -/
def Mg.dec (l : List Nat) : Option Mg := if (Mg.get (some l)).1.kind ≠ 0 ∧ (Mg.get (some l)).2 = some [] then some (Mg.get (some l)).1 else none
theorem Mg.get_kind (s : Pk.St) : (Mg.get s).1.kind = (Pk.numV s 8 : Int) := by
  unfold Mg.get
  split; rfl
  split; rfl
  split; rfl
  split; rfl
  split; rfl
  split; rfl
  rfl
-- back
theorem rd1 {z m : Int} {rest : List Nat} (h : wi m z = true) (ht : m ≤ 4611686018427387904) : (Pk.numV (some (eI z ++ rest)) m : Int) = z ∧ Pk.numS (some (eI z ++ rest)) m = some rest :=
  num_of_encI (wi_iff.1 h).1 (wi_iff.1 h).2 ht
theorem rdN {n : Nat} {m : Int} {rest : List Nat} (hm : (n : Int) ≤ m) (ht : m ≤ 4611686018427387904) : Pk.numV (some (encN n ++ rest)) m = n ∧ Pk.numS (some (encN n ++ rest)) m = some rest := num_of_encN hm ht
theorem getF_enc (zs : List Int) (rest : List Nat) (h : zs.all (wi 1099511627776) = true) : getF zs.length (some (Pk.encs zs ++ rest)) = (zs, some rest) := by
  induction zs with
  | nil => rfl
  | cons z zs ih =>
    rw [List.all_cons, Bool.and_eq_true] at h
    have hb := rd1 (z := z) (m := 1099511627776) (rest := Pk.encs zs ++ rest) h.1 (by omega)
    have ih := ih h.2
    unfold eI at hb
    rw [show Pk.encs (z :: zs) ++ rest = Pk.enc (Pk.held z) ++ (Pk.encs zs ++ rest) by simp [Pk.encs]]
    simp only [List.length_cons, getF]
    rw [hb.1, hb.2, ih]
theorem stF_enc (zs : List Int) (k : Nat) (rest : List Nat) (h : wis k zs = true) (hk : k ≤ 100) : stF (k : Int) (some (encN zs.length ++ (Pk.encs zs ++ rest))) = (zs, some rest) := by
  unfold wis at h
  rw [Bool.and_eq_true, decide_eq_true_eq] at h
  have h1 := rdN (n := zs.length) (m := (k : Int)) (rest := Pk.encs zs ++ rest) (by omega) (by omega)
  unfold stF
  rw [h1.1, h1.2, getF_enc zs rest h.2]
theorem En.get_enc {e : En} (h : e.ok = true) (rest : List Nat) : En.get (some (e.enc ++ rest)) = (e, some rest) := by
  unfold En.ok at h
  simp only [Bool.and_eq_true, decide_eq_true_eq] at h
  obtain ⟨h1, h2, h3, h4, h5, h6, h7⟩ := h
  have e0 : e.enc ++ rest = eI e.s ++ (eI e.q ++ (eI e.c.kind ++ (eI e.c.who ++ (Pk.encB e.c.key ++ (Pk.encB e.c.val ++ (Pk.encB e.c.old ++ rest)))))) := by
    unfold En.enc eI; simp only [List.append_assoc]
  have k1 := rd1 (rest := eI e.q ++ (eI e.c.kind ++ (eI e.c.who ++ (Pk.encB e.c.key ++ (Pk.encB e.c.val ++ (Pk.encB e.c.old ++ rest)))))) h1 (by omega)
  have k2 := rd1 (rest := eI e.c.kind ++ (eI e.c.who ++ (Pk.encB e.c.key ++ (Pk.encB e.c.val ++ (Pk.encB e.c.old ++ rest))))) h2 (by omega)
  have k3 := rd1 (rest := eI e.c.who ++ (Pk.encB e.c.key ++ (Pk.encB e.c.val ++ (Pk.encB e.c.old ++ rest)))) h3 (by omega)
  have k4 := rd1 (rest := Pk.encB e.c.key ++ (Pk.encB e.c.val ++ (Pk.encB e.c.old ++ rest))) h4 (by omega)
  have k5 := byt_of_enc (x := e.c.key) (m := 32) (rest := Pk.encB e.c.val ++ (Pk.encB e.c.old ++ rest)) (by omega) (by omega)
  have k6 := byt_of_enc (x := e.c.val) (m := 32) (rest := Pk.encB e.c.old ++ rest) (by omega) (by omega)
  have k7 := byt_of_enc (x := e.c.old) (m := 32) (rest := rest) (by omega) (by omega)
  rw [e0]
  unfold En.get
  simp only []
  rw [k1.1, k1.2, k2.1, k2.2, k3.1, k3.2, k4.1, k4.2, k5.1, k5.2, k6.1, k6.2, k7.1, k7.2]
theorem En.read_enc {e : En} (h : e.ok = true) (rest : List Nat) : En.read (some (e.enc ++ rest)) = e := by
  unfold En.read
  rw [En.get_enc h]
  simp
theorem Mg.get_enc {m : Mg} (h : m.ok = true) (rest : List Nat) : Mg.get (some (m.enc ++ rest)) = (m.bare, some rest) := by
  have h0 := h
  unfold Mg.enc
  rw [if_pos h]
  unfold Mg.ok at h
  rw [Bool.and_eq_true] at h
  obtain ⟨hh, ht⟩ := h
  unfold Mg.headOk at hh
  simp only [Bool.and_eq_true] at hh
  obtain ⟨hh1, hh2, hh3⟩ := hh
  obtain ⟨T, hT⟩ : ∃ T, m.tail = T := ⟨_, rfl⟩
  have hk : wi 8 m.kind = true := by
    unfold Mg.tailOk at ht
    rw [wi_iff]
    split at ht; omega
    split at ht; omega
    split at ht; omega
    split at ht; omega
    split at ht; omega
    split at ht; omega
    simp at ht; omega
  have e0 : m.head ++ T ++ rest = eI m.kind ++ (eI m.frm ++ (eI m.dst ++ (eI m.view ++ (T ++ rest)))) := by
    unfold Mg.head; simp only [List.append_assoc]
  have k1 := rd1 (rest := eI m.frm ++ (eI m.dst ++ (eI m.view ++ (T ++ rest)))) hk (by omega)
  have k2 := rd1 (rest := eI m.dst ++ (eI m.view ++ (T ++ rest))) hh1 (by omega)
  have k3 := rd1 (rest := eI m.view ++ (T ++ rest)) hh2 (by omega)
  have k4 := rd1 (rest := T ++ rest) hh3 (by omega)
  rw [hT, e0]
  obtain ⟨s, hs⟩ : ∃ s : Pk.St, some (eI m.kind ++ (eI m.frm ++ (eI m.dst ++ (eI m.view ++ (T ++ rest))))) = s := ⟨_, rfl⟩
  have a4 : s4 s = some (T ++ rest) := by
    rw [← hs]; unfold s4; rw [k1.2, k2.2, k3.2, k4.2]
  have ah : hd s = { Mg.zero with kind := m.kind, frm := m.frm, dst := m.dst, view := m.view } := by
    rw [← hs]; unfold hd; rw [k1.1, k1.2, k2.1, k2.2, k3.1, k3.2, k4.1]
  have ak : (Pk.numV s 8 : Int) = m.kind := by rw [← hs]; exact k1.1
  rw [hs]
  clear hs k1 k2 k3 k4 e0 hh1 hh2 hh3 h0
  unfold Mg.get Mg.bare
  rw [a4, ah]
  unfold Mg.tailOk at ht
  unfold Mg.tail at hT
  by_cases c2 : m.kind = 2
  · rw [if_pos c2] at ht hT
    rw [if_pos (by omega), if_pos c2]
    rw [Bool.and_eq_true] at ht
    subst hT
    simp only [List.append_assoc]
    have q1 := rd1 (rest := eI m.len ++ (eI m.has01 ++ rest)) ht.1 (by omega)
    have q2 := rd1 (rest := eI m.has01 ++ rest) ht.2 (by omega)
    have q3 := rd1 (z := m.has01) (m := 1) (rest := rest) (by unfold Mg.has01; split <;> rfl) (by omega)
    rw [q1.1, q1.2, q2.1, q2.2, q3.2]
    have q4 : decide (Pk.numV (some (eI m.has01 ++ rest)) 1 = 1) = m.has := by
      have := q3.1
      unfold Mg.has01 at this ⊢
      cases hb : m.has <;> rw [hb] at this <;> simp at this ⊢ <;> omega
    rw [q4]
  rw [if_neg c2] at ht hT
  rw [if_neg (by omega), if_neg c2]
  by_cases c3 : m.kind = 3
  · rw [if_pos c3] at ht hT
    rw [if_pos (by omega), if_pos c3]
    simp only [Bool.and_eq_true] at ht
    subst hT
    simp only [List.append_assoc]
    have q1 := rd1 (rest := eI m.src ++ (eI m.len ++ rest)) ht.1 (by omega)
    have q2 := rd1 (rest := eI m.len ++ rest) ht.2.1 (by omega)
    have q3 := rd1 (rest := rest) ht.2.2 (by omega)
    rw [q1.1, q1.2, q2.1, q2.2, q3.1, q3.2]
  rw [if_neg c3] at ht hT
  rw [if_neg (by omega), if_neg c3]
  by_cases c4 : m.kind = 4
  · rw [if_pos c4] at ht hT
    rw [if_pos (by omega), if_pos c4]
    subst hT
    have q1 := rd1 (rest := rest) ht (by omega)
    rw [q1.1, q1.2]
  rw [if_neg c4] at ht hT
  rw [if_neg (by omega), if_neg c4]
  by_cases c5 : m.kind = 5
  · rw [if_pos c5] at ht hT
    rw [if_pos (by omega), if_pos c5]
    simp only [Bool.and_eq_true, decide_eq_true_eq] at ht
    subst hT
    simp only [List.append_assoc]
    have q1 := rd1 (rest := eI m.tot ++ (Pk.encB m.data ++ rest)) ht.1 (by omega)
    have q2 := rd1 (rest := Pk.encB m.data ++ rest) ht.2.1 (by omega)
    have q3 := byt_of_enc (x := m.data) (m := 64) (rest := rest) (by omega) (by omega)
    rw [q1.1, q1.2, q2.1, q2.2, q3.1, q3.2]
  rw [if_neg c5] at ht hT
  rw [if_neg (by omega), if_neg c5]
  by_cases c7 : m.kind = 7
  · rw [if_pos c7] at ht hT
    rw [if_pos (by omega), if_pos c7]
    simp only [Bool.and_eq_true] at ht
    subst hT
    simp only [List.append_assoc]
    have q1 := rd1 (rest := eI m.seq ++ (encN m.hav.length ++ (Pk.encs m.hav ++ (encN m.nee.length ++ (Pk.encs m.nee ++ rest))))) ht.1 (by omega)
    have q2 := rd1 (rest := encN m.hav.length ++ (Pk.encs m.hav ++ (encN m.nee.length ++ (Pk.encs m.nee ++ rest)))) ht.2.1 (by omega)
    have q3 : stF 7 (some (encN m.hav.length ++ (Pk.encs m.hav ++ (encN m.nee.length ++ (Pk.encs m.nee ++ rest))))) = _ := stF_enc m.hav 7 (encN m.nee.length ++ (Pk.encs m.nee ++ rest)) ht.2.2.1 (by omega)
    have q4 : stF 8 (some (encN m.nee.length ++ (Pk.encs m.nee ++ rest))) = _ := stF_enc m.nee 8 rest ht.2.2.2 (by omega)
    rw [q1.1, q1.2, q2.1, q2.2]
    rw [q3]
    simp only []
    rw [q4]
  rw [if_neg c7] at ht hT
  rw [if_neg (by omega), if_neg c7]
  by_cases c8 : m.kind = 8
  · rw [if_pos c8] at ht hT
    rw [if_pos (by omega), if_pos c8]
    simp only [Bool.and_eq_true] at ht
    subst hT
    simp only [List.append_assoc]
    have q1 := rd1 (rest := m.ent.enc ++ rest) ht.1 (by omega)
    rw [q1.1, q1.2, En.get_enc ht.2, En.read_enc ht.2]
  rw [if_neg c8] at ht hT
  rw [if_neg (by omega), if_neg c8]
  subst hT
  rfl
theorem Mg.bare_kind (m : Mg) : m.bare.kind = m.kind := by
  unfold Mg.bare; simp only []
  split; rfl
  split; rfl
  split; rfl
  split; rfl
  split; rfl
  split; rfl
  rfl
theorem Mg.ok_kind {m : Mg} (h : m.ok = true) : m.kind ≠ 0 := by
  intro h0
  unfold Mg.ok Mg.tailOk at h
  simp [h0] at h
theorem Mg.dec_enc {m : Mg} (h : m.ok = true) : Mg.dec m.enc = some m.bare := by
  have e := Mg.get_enc h []
  rw [List.append_nil] at e
  have hk : m.bare.kind ≠ 0 := by rw [Mg.bare_kind]; exact Mg.ok_kind h
  unfold Mg.dec
  rw [e, if_pos ⟨hk, rfl⟩]
end Go.Proofs.Ytijcbbommaeejaa

namespace Go.Proofs.Ytijcbbommaeejaa
open Go.RowKit
set_option linter.unusedVariables false
theorem encF_small (f : Nat) {x : Nat} (h : x < 128) : Pk.encF f x = [x] := by
  cases f with
  | zero => rfl
  | succ f => unfold Pk.encF; rw [if_pos h]
theorem encF_big (f : Nat) {n : Nat} (h : 128 ≤ n) : Pk.encF (f + 1) n = (n % 128 + 128) :: Pk.encF f (n / 128) := by
  show (if n < 128 then [n] else (n % 128 + 128) :: Pk.encF f (n / 128)) = _
  rw [if_neg (by omega)]
theorem dec_canon : ∀ (l : List Nat) (i acc : Nat), (∀ x ∈ l, x < 256) → (Pk.dec i acc l).2 ≠ 0 →
    ∃ n, Pk.dec i acc l = (acc + n * 128 ^ i, i + (Pk.encF (8 - i) n).length) ∧ l = Pk.encF (8 - i) n ++ l.drop (Pk.encF (8 - i) n).length ∧ (0 < i → 0 < n)
  | [], i, acc, _, h => by simp [Pk.dec] at h
  | x :: l, i, acc, hb, h => by
    unfold Pk.dec at h ⊢
    by_cases h9 : 9 ≤ i
    · simp [h9] at h
    rw [if_neg h9] at h ⊢
    by_cases hx : 128 ≤ x
    · rw [if_pos hx] at h ⊢
      obtain ⟨n, e1, e2, e3⟩ := dec_canon l (i + 1) (acc + x % 128 * 128 ^ i) (fun y hy => hb y (List.mem_cons_of_mem _ hy)) h
      have hx2 := hb x (by simp)
      have hn := e3 (by omega)
      by_cases h8 : i = 8
      · subst h8
        exfalso
        cases l with
        | nil => simp [Pk.dec] at h
        | cons y l => unfold Pk.dec at h; simp at h
      obtain ⟨f, hf⟩ : ∃ f, 8 - i = f + 1 := ⟨7 - i, by omega⟩
      have hf' : 8 - (i + 1) = f := by omega
      rw [hf'] at e1 e2
      have hN : 128 ≤ x % 128 + 128 * n := by omega
      have e4 : Pk.encF (8 - i) (x % 128 + 128 * n) = x :: Pk.encF f n := by
        rw [hf, encF_big f hN, show (x % 128 + 128 * n) % 128 + 128 = x by omega, show (x % 128 + 128 * n) / 128 = n by omega]
      refine ⟨x % 128 + 128 * n, ?_, ?_, fun _ => by omega⟩
      · rw [e1, e4, Nat.pow_succ, List.length_cons]
        congr 1
        · rw [Nat.add_mul, Nat.mul_comm 128 n, Nat.mul_assoc n 128, Nat.mul_comm 128 (128 ^ i)]; omega
        · omega
      · rw [e4]
        simp only [List.length_cons, List.drop_succ_cons, List.cons_append]
        rw [← e2]
    · rw [if_neg hx] at h ⊢
      by_cases h0 : x = 0 ∧ 0 < i
      · rw [if_pos h0] at h; simp at h
      rw [if_neg h0]
      refine ⟨x, ?_, ?_, fun hi => by omega⟩
      · rw [encF_small _ (by omega)]; rfl
      · rw [encF_small _ (by omega)]; rfl
theorem first_canon {l : List Nat} (hb : ∀ x ∈ l, x < 256) (h : (Pk.first l).2 ≠ 0) : l = Pk.enc (Pk.first l).1 ++ l.drop (Pk.first l).2 := by
  obtain ⟨n, e1, e2, _⟩ := dec_canon l 0 0 hb h
  have e1 : Pk.first l = (n, (Pk.enc n).length) := by
    show Pk.dec 0 0 l = _
    rw [e1]
    simp [Pk.enc]
  rw [e1]
  exact e2
theorem num_canon {s : Pk.St} {m : Int} {l' : List Nat} (hb : BytesSt s) (h : Pk.numS s m = some l') (h0 : 0 ≤ m) (hm : m ≤ 4611686018427387904) :
    s = some (eI (Pk.numV s m : Int) ++ l') ∧ wi m (Pk.numV s m : Int) = true := by
  have hle := numV_le s h0
  refine ⟨?_, wi_iff.2 ⟨by omega, hle⟩⟩
  rcases numN_cases s m with h1 | ⟨l, e, h1, h2, h3⟩
  · rw [h1.2] at h; cases h
  · rw [h3] at h
    injection h with h
    unfold eI
    rw [Pk.held_of (by unfold Pk.top; omega), h1, ← h, e]
    congr 1
    refine first_canon (hb l e) fun hz => ?_
    have hn : Pk.numS s m = none := by
      rw [e]; unfold Pk.numS Pk.numN Pk.rNum; simp [hz]
    rw [hn] at h3; cases h3
theorem num_bytes {s : Pk.St} {m : Int} (hb : BytesSt s) : BytesSt (Pk.numS s m) := numS_bytes hb m
theorem byt_canon {s : Pk.St} {m : Int} {l' : List Nat} (hb : BytesSt s) (h : Pk.bytS s m = some l') (h0 : 0 ≤ m) (hm : m ≤ 1000) :
    s = some (Pk.encB (Pk.bytV s m) ++ l') ∧ ((Pk.bytV s m).length : Int) ≤ m := by
  refine ⟨?_, (bytV_facts hb h0).1⟩
  by_cases hl : ((Pk.numS s m).getD []).length < Pk.numV s m
  · rw [(Pk.byt_no hl).2] at h; cases h
  · obtain ⟨e1, e2⟩ := Pk.byt_of hl
    rw [e2] at h
    cases hs : Pk.numS s m with
    | none => rw [hs] at h; cases h
    | some r =>
      rw [hs] at h e1 hl
      obtain ⟨k1, k2⟩ := num_canon hb hs h0 (by omega)
      simp only [Option.map_some] at h
      injection h with h
      simp only [Option.getD_some] at e1 hl
      have hlen : (Pk.bytV s m).length = Pk.numV s m := by rw [e1, List.length_take]; omega
      unfold eI at k1
      have hle := numV_le s h0
      rw [Pk.held_of (by unfold Pk.top; omega)] at k1
      conv => lhs; rw [k1]
      unfold Pk.encB
      rw [hlen, e1, List.append_assoc, ← h, List.take_append_drop]
theorem getF_canon : ∀ (k : Nat) {s : Pk.St} {l' : List Nat}, BytesSt s → (getF k s).2 = some l' → s = some (Pk.encs (getF k s).1 ++ l') ∧ (getF k s).1.all (wi 1099511627776) = true ∧ (getF k s).1.length = k
  | 0, s, l', hb, h => ⟨h, rfl, rfl⟩
  | k + 1, s, l', hb, h => by
    obtain ⟨e1, e2, e3⟩ := getF_canon k (num_bytes (m := 1099511627776) hb) h
    obtain ⟨k1, k2⟩ := num_canon hb e1 (by omega) (by omega)
    refine ⟨?_, ?_, by simp only [getF, List.length_cons, e3]⟩
    · conv => lhs; rw [k1]
      simp only [getF, Pk.encs, List.append_assoc]
      rfl
    · simp only [getF, List.all_cons, Bool.and_eq_true]
      exact ⟨k2, e2⟩
theorem getF_bytes : ∀ (k : Nat) {s : Pk.St}, BytesSt s → BytesSt (getF k s).2
  | 0, s, hb => hb
  | k + 1, s, hb => getF_bytes k (num_bytes (m := 1099511627776) hb)
theorem stF_canon {k : Nat} {s : Pk.St} {l' : List Nat} (hb : BytesSt s) (hk : k ≤ 100) (h : (stF (k : Int) s).2 = some l') : s = some (encN (stF (k : Int) s).1.length ++ (Pk.encs (stF (k : Int) s).1 ++ l')) ∧ wis k (stF (k : Int) s).1 = true := by
  unfold stF at h ⊢
  obtain ⟨e1, e2, e3⟩ := getF_canon _ (num_bytes (m := (k : Int)) hb) h
  obtain ⟨k1, k2⟩ := num_canon hb e1 (by omega) (by omega)
  rw [wi_iff] at k2
  refine ⟨?_, ?_⟩
  · rw [e3]; exact k1
  · unfold wis
    rw [e2, e3, Bool.and_true, decide_eq_true_eq]
    omega
theorem stF_bytes {m : Int} {s : Pk.St} (hb : BytesSt s) : BytesSt (stF m s).2 := getF_bytes _ (num_bytes (m := m) hb)
theorem En.get_canon {s : Pk.St} {l' : List Nat} (hb : BytesSt s) (h : (En.get s).2 = some l') : s = some ((En.get s).1.enc ++ l') ∧ (En.get s).1.ok = true := by
  unfold En.get at h ⊢
  simp only [] at h ⊢
  have b1 := num_bytes (m := 1073741824) hb
  have b2 := num_bytes (m := 1073741824) b1
  have b3 := num_bytes (m := 1073741824) b2
  have b4 := num_bytes (m := 1073741824) b3
  have b5 := (bytV_facts b4 (m := 32) (by omega)).2.2
  have b6 := (bytV_facts b5 (m := 32) (by omega)).2.2
  obtain ⟨e7, o7⟩ := byt_canon b6 h (by omega) (by omega)
  obtain ⟨e6, o6⟩ := byt_canon b5 e7 (by omega) (by omega)
  obtain ⟨e5, o5⟩ := byt_canon b4 e6 (by omega) (by omega)
  obtain ⟨e4, o4⟩ := num_canon b3 e5 (by omega) (by omega)
  obtain ⟨e3, o3⟩ := num_canon b2 e4 (by omega) (by omega)
  obtain ⟨e2, o2⟩ := num_canon b1 e3 (by omega) (by omega)
  obtain ⟨e1, o1⟩ := num_canon hb e2 (by omega) (by omega)
  refine ⟨?_, ?_⟩
  · conv => lhs; rw [e1]
    unfold En.enc eI
    simp only [List.append_assoc]
  · unfold En.ok
    simp only [Bool.and_eq_true, decide_eq_true_eq]
    exact ⟨o1, o2, o3, o4, by omega, by omega, by omega⟩
theorem s4_bytes {s : Pk.St} (hb : BytesSt s) : BytesSt (s4 s) := num_bytes (num_bytes (num_bytes (num_bytes hb)))
/-- what is read of the head -/
theorem s4_canon {s : Pk.St} {l' : List Nat} (hb : BytesSt s) (h : s4 s = some l') : s = some ((hd s).head ++ l') ∧ (hd s).headOk = true ∧ wi 8 (hd s).kind = true := by
  unfold s4 at h
  have b1 := num_bytes (m := 8) hb
  have b2 := num_bytes (m := 6) b1
  have b3 := num_bytes (m := 6) b2
  obtain ⟨e4, o4⟩ := num_canon b3 h (by omega) (by omega)
  obtain ⟨e3, o3⟩ := num_canon b2 e4 (by omega) (by omega)
  obtain ⟨e2, o2⟩ := num_canon b1 e3 (by omega) (by omega)
  obtain ⟨e1, o1⟩ := num_canon hb e2 (by omega) (by omega)
  refine ⟨?_, ?_, o1⟩
  · conv => lhs; rw [e1]
    unfold Mg.head hd
    simp only [List.append_assoc]
  · unfold Mg.headOk hd
    simp only [Bool.and_eq_true]
    exact ⟨o2, o3, o4⟩
theorem hd_kind (s : Pk.St) : (hd s).kind = (Pk.numV s 8 : Int) := rfl
theorem Mg.get_canon {s : Pk.St} {l' : List Nat} (hb : BytesSt s) (h : (Mg.get s).2 = some l') (hk : (Mg.get s).1.kind ≠ 0) :
    s = some ((Mg.get s).1.head ++ ((Mg.get s).1.tail ++ l')) ∧ (Mg.get s).1.ok = true ∧ (Mg.get s).1.bare = (Mg.get s).1 := by
  rw [Mg.get_kind] at hk
  have b4 := s4_bytes hb
  have b5 := num_bytes (m := 1099511627776) b4
  have b6 := num_bytes (m := 1099511627776) b5
  unfold Mg.get at h ⊢
  by_cases c2 : Pk.numV s 8 = 2
  · rw [if_pos c2] at h ⊢
    obtain ⟨e3, o3⟩ := num_canon b6 h (by omega) (by omega)
    obtain ⟨e2, o2⟩ := num_canon b5 e3 (by omega) (by omega)
    obtain ⟨e1, o1⟩ := num_canon b4 e2 (by omega) (by omega)
    obtain ⟨e0, o0, oz⟩ := s4_canon hb e1
    have hkk : (hd s).kind = 2 := by rw [hd_kind, c2]; rfl
    have hz : (if decide (Pk.numV (Pk.numS (Pk.numS (s4 s) 1099511627776) 1099511627776) 1 = 1) then (1 : Int) else 0) = (Pk.numV (Pk.numS (Pk.numS (s4 s) 1099511627776) 1099511627776) 1 : Int) := by
      rw [wi_iff] at o3
      split
      · rename_i q; simp at q; omega
      · rename_i q; simp at q; omega
    refine ⟨?_, ?_, ?_⟩
    · conv => lhs; rw [e0]
      unfold Mg.tail Mg.head
      simp only [hkk, if_true, List.append_assoc]
      unfold Mg.has01
      simp only []
      rw [hz]
    · unfold Mg.ok Mg.tailOk
      simp only [hkk, if_true, Bool.and_eq_true]
      exact ⟨o0, o1, o2⟩
    · unfold Mg.bare; simp only [hkk, if_true]; rfl
  rw [if_neg c2] at h ⊢
  by_cases c3 : Pk.numV s 8 = 3
  · rw [if_pos c3] at h ⊢
    have b5 := num_bytes (m := 127) b4
    have b6 := num_bytes (m := 6) b5
    obtain ⟨e3, o3⟩ := num_canon b6 h (by omega) (by omega)
    obtain ⟨e2, o2⟩ := num_canon b5 e3 (by omega) (by omega)
    obtain ⟨e1, o1⟩ := num_canon b4 e2 (by omega) (by omega)
    obtain ⟨e0, o0, oz⟩ := s4_canon hb e1
    have hkk : (hd s).kind = 3 := by rw [hd_kind, c3]; rfl
    refine ⟨?_, ?_, ?_⟩
    · conv => lhs; rw [e0]
      unfold Mg.tail Mg.head
      simp [hkk, List.append_assoc]
    · unfold Mg.ok Mg.tailOk
      simp [hkk]
      exact ⟨o0, o1, o2, o3⟩
    · unfold Mg.bare; simp [hkk]; simp [hd]
  rw [if_neg c3] at h ⊢
  by_cases c4 : Pk.numV s 8 = 4
  · rw [if_pos c4] at h ⊢
    obtain ⟨e1, o1⟩ := num_canon b4 h (by omega) (by omega)
    obtain ⟨e0, o0, oz⟩ := s4_canon hb e1
    have hkk : (hd s).kind = 4 := by rw [hd_kind, c4]; rfl
    refine ⟨?_, ?_, ?_⟩
    · conv => lhs; rw [e0]
      unfold Mg.tail Mg.head
      simp [hkk, List.append_assoc]
    · unfold Mg.ok Mg.tailOk
      simp [hkk]
      exact ⟨o0, o1⟩
    · unfold Mg.bare; simp [hkk]; simp [hd]
  rw [if_neg c4] at h ⊢
  by_cases c5 : Pk.numV s 8 = 5
  · rw [if_pos c5] at h ⊢
    obtain ⟨e3, o3⟩ := byt_canon b6 h (by omega) (by omega)
    obtain ⟨e2, o2⟩ := num_canon b5 e3 (by omega) (by omega)
    obtain ⟨e1, o1⟩ := num_canon b4 e2 (by omega) (by omega)
    obtain ⟨e0, o0, oz⟩ := s4_canon hb e1
    have hkk : (hd s).kind = 5 := by rw [hd_kind, c5]; rfl
    refine ⟨?_, ?_, ?_⟩
    · conv => lhs; rw [e0]
      unfold Mg.tail Mg.head
      simp [hkk, List.append_assoc]
    · unfold Mg.ok Mg.tailOk
      simp [hkk]
      exact ⟨o0, o1, o2, by omega⟩
    · unfold Mg.bare; simp [hkk]; simp [hd]
  rw [if_neg c5] at h ⊢
  by_cases c7 : Pk.numV s 8 = 7
  · rw [if_pos c7] at h ⊢
    obtain ⟨t, ht⟩ : ∃ t, Pk.numS (Pk.numS (s4 s) 1099511627776) 1099511627776 = t := ⟨_, rfl⟩
    rw [ht] at h b6 ⊢
    obtain ⟨e4, o4⟩ : _ ∧ wis 8 (stF 8 (stF 7 t).2).1 = true := stF_canon (k := 8) (stF_bytes (m := 7) b6) (by omega) h
    obtain ⟨e3, o3⟩ : _ ∧ wis 7 (stF 7 t).1 = true := stF_canon (k := 7) b6 (by omega) e4
    rw [← ht] at e3
    obtain ⟨e2, o2⟩ := num_canon b5 e3 (by omega) (by omega)
    obtain ⟨e1, o1⟩ := num_canon b4 e2 (by omega) (by omega)
    obtain ⟨e0, o0, oz⟩ := s4_canon hb e1
    have hkk : (hd s).kind = 7 := by rw [hd_kind, c7]; rfl
    refine ⟨?_, ?_, ?_⟩
    · conv => lhs; rw [e0]
      unfold Mg.tail Mg.head
      simp [hkk, List.append_assoc, ht]
    · unfold Mg.ok Mg.tailOk
      simp [hkk]
      exact ⟨o0, o1, o2, o3, o4⟩
    · unfold Mg.bare; simp [hkk]; simp [hd]
  rw [if_neg c7] at h ⊢
  by_cases c8 : Pk.numV s 8 = 8
  · rw [if_pos c8] at h ⊢
    have hre : En.read (Pk.numS (s4 s) 1099511627776) = (En.get (Pk.numS (s4 s) 1099511627776)).1 := by
      unfold En.read; rw [h]; simp
    obtain ⟨e2, o2⟩ := En.get_canon b5 h
    obtain ⟨e1, o1⟩ := num_canon b4 e2 (by omega) (by omega)
    obtain ⟨e0, o0, oz⟩ := s4_canon hb e1
    have hkk : (hd s).kind = 8 := by rw [hd_kind, c8]; rfl
    rw [hre]
    refine ⟨?_, ?_, ?_⟩
    · conv => lhs; rw [e0]
      unfold Mg.tail Mg.head
      simp [hkk, List.append_assoc]
    · unfold Mg.ok Mg.tailOk
      simp [hkk]
      exact ⟨o0, o1, o2⟩
    · unfold Mg.bare; simp [hkk]; simp [hd]
  rw [if_neg c8] at h ⊢
  obtain ⟨e0, o0, oz⟩ := s4_canon hb h
  rw [wi_iff, hd_kind] at oz
  have hkk : (hd s).kind = 1 ∨ (hd s).kind = 6 := by rw [hd_kind]; omega
  refine ⟨?_, ?_, ?_⟩
  · conv => lhs; rw [e0]
    unfold Mg.tail
    rcases hkk with hkk | hkk <;> simp [hkk]
  · unfold Mg.ok Mg.tailOk
    rcases hkk with hkk | hkk <;> simp [hkk, o0]
  · unfold Mg.bare
    rcases hkk with hkk | hkk <;> simp [hkk] <;> simp [hd] <;> rw [hd_kind] at hkk <;> omega
/-- bytes that are a message are its own -/
theorem Mg.dec_canon {l : List Nat} (hb : ∀ x ∈ l, x < 256) {m : Mg} (h : Mg.dec l = some m) : m.ok = true ∧ m.enc = l ∧ m.bare = m := by
  unfold Mg.dec at h
  split at h
  · rename_i hw
    injection h with h
    obtain ⟨e1, e2, e3⟩ := Mg.get_canon (s := some l) (fun l' hl' => by injection hl' with hl'; subst hl'; exact hb) hw.2 hw.1
    rw [h] at e1 e2 e3
    injection e1 with e1
    rw [List.append_nil] at e1
    refine ⟨e2, ?_, e3⟩
    unfold Mg.enc
    rw [if_pos e2, ← e1]
  · cases h
end Go.Proofs.Ytijcbbommaeejaa

namespace Go.Proofs.Ytijcbbommaeejaa
open Go.RowKit
set_option linter.unusedVariables false
/-- the row that grows was there when W's call began -/
def Old (W : World) (row : Option Nat) : Prop := ∀ k, row = some k → k < W.heap.size
section
variable {W w w' : World} {row : Option Nat}
theorem Old.some {b : Nat} (h : b < W.heap.size) : Old W (some b) := fun k hk => by injection hk with hk; omega
theorem own_old {e : TypeId} {size n : Nat} {v : Value} {xs : List Value} (h : w.ownsRow W.heap.size e size v n xs) (hg : w.grownBy w' row) (ho : Old W row) : w'.ownsRow W.heap.size e size v n xs := by
  refine h.kept hg ?_
  rcases he : v.ownBlock with _ | k
  · exact .inl rfl
  · right
    intro h2
    have h3 := ho k h2.symm
    have := (h.lt k he).1
    omega
/-- the block of a row of the call's own -/
theorem own_row_old {W1 : World} {e : TypeId} {size n : Nat} {v : Value} {xs : List Value} (h : w.ownsRow W1.heap.size e size v n xs) (hs : w.heap.size ≤ W.heap.size) : Old W v.ownBlock := fun k hk => by have := (h.lt k hk).2; omega
end
theorem cellB : CellT Try.prog 23 5 (.int .u8 0) 1 := ⟨Try.underlying23, by kernel_rfl, rfl⟩
theorem bv_one (l : List Nat) : ∀ u ∈ bv l, u.oneCell' = true := by
  intro u hu
  unfold bv at hu
  obtain ⟨x, _, rfl⟩ := List.mem_map.1 hu
  rfl
theorem bv_app (l m : List Nat) : bv (l ++ m) = bv l ++ bv m := by simp [bv]
end Go.Proofs.Ytijcbbommaeejaa

namespace Go.Proofs.Ytijcbbommaeejaa
open Go.RowKit
set_option linter.unusedVariables false

theorem run_max0 {P : Program} (w : World) (ts : Array TypeId) (t : TypeId) (n : Int) :
    (Builtin.max_ ts t #[.int .i64 n, .int .i64 0]).run P w = .ok (.int .i64 (max n 0)) w := by
  have e : max n 0 = if (n : Int) < 0 then 0 else n := by omega
  rw [e]
  simp [Builtin.max_, Builtin.max2]
theorem run_min_top {P : Program} (w : World) (ts : Array TypeId) (t : TypeId) (n : Int) :
    (Builtin.min_ ts t #[.int .i64 (max n 0), .int .i64 4611686018427387904]).run P w = .ok (.int .i64 (Pk.held n : Nat)) w := by
  have e : ((Pk.held n : Nat) : Int) = if (4611686018427387904 : Int) < max n 0 then 4611686018427387904 else max n 0 := by unfold Pk.held Pk.top; omega
  rw [e]
  simp [Builtin.min_, Builtin.min2]
theorem held_any (n : Int) (w : World) :
    Calls Try.prog 71 #[.int .i64 n] w fun e w' => e = .returned (.int .i64 (Pk.held n : Nat)) ∧ w = w' := by
  have h1 := fun (w : World) ts t => run_max0 (P := Try.prog) w ts t n
  have h2 := fun (w : World) ts t => run_min_top (P := Try.prog) w ts t n
  go_enter Try.func71, Try.ntmps71
  go_wp2
  go_ret
  exact ⟨rfl, rfl⟩
theorem wpList_make_room {P : Program} {t e : TypeId} {W w : World} (hT : ByteT P t e) {ops : Array Oper} {rest : List Oper} {o : Oper} {a : Act} {Q : Exit → Act → World → Prop} (hg : o.guard = none) (l c : Operand)
    (hop : o.op = Op.makeSlice t l c) {C : Int} (hl : a.eval l = .int .i64 0) (hc : a.eval c = .int .i64 C) (n : Nat) (hC : C = (n : Int)) (hn : n ≤ 2199023255552) (hB : Below W.heap.size W w)
    (h : ∀ w2, w2.ownsRow W.heap.size e 1 (.slice (some ⟨w.heap.size, 0, none⟩) 0 n) 0 (bv []) → Below W.heap.size W w2 → wpList P ops Q rest (a.put o.dst (.slice (some ⟨w.heap.size, 0, none⟩) 0 n)) w2) :
    wpList P ops Q (o :: rest) a w := by
  obtain ⟨i, hi, hz, hsz, hby⟩ := info_parts hT.info
  refine wpList_make_own w hg l c t hop W.heap.size e i (.int .u8 0) 1 hT.under hi hz hsz .i64 .i64 C n hl hc hC (by rw [hby]; omega) (by unfold maxLen; omega) hB.size ?_
  intro w2 h2 h3
  exact h w2 h2 (hB.grown h3 hB.size (fun k hk => by cases hk))
theorem withRoom_any (l : List Nat) (A : Option Addr) (n c B : Nat) (room : Int) (hn : Lim 0 n) (h0 : 0 ≤ room) (hm : room ≤ 1099511627776) (w : World) (hr : Rd w B A n (bv l)) :
    Calls Try.prog 34 #[.slice A n c, .int .i64 room] w (GotB w l) := by
  obtain ⟨room, rfl⟩ := Int.eq_ofNat_of_zero_le h0
  clear h0
  have hn := hn.out
  have H := Lib.hid hr.fit
  clear hr
  have hB0 : Below w.heap.size w w := Below.refl _ _
  go_enter Try.func34, Try.ntmps34
  go_wp2_with (first
    | (at_make
       refine wpList_make_room (W := w) byteT rfl _ _ rfl rfl rfl (n + room) (by omega) (by omega) hB0 ?_
       intro w1 hown1 hB1)
    | (at_builtin
       refine wpList_append_bytes (W := w) byteT (.tmp 9) (.tmp 10) rfl (by rfl) rfl hown1 rfl (H.out.below hB1) (by omega) hB1 ?_
       intro A2 c2 w2 hown2 hr2 hB2
       simp only [Nat.zero_add, List.nil_append] at hown2 hr2)
    | fail)
  go_ret
  exact ⟨_, _, _, rfl, hown2, hB2⟩
def PutT (n : Nat) : Prop := n ≤ Pk.top
set_option maxRecDepth 100000 in
theorem put_any (l : List Nat) (A : Option Addr) (n c : Nat) (N : Int) (hn : Lim 20 n) (W w : World) (hown : OwnB W w A n c l) (hB : Below W.heap.size W w) :
    Calls Try.prog 65 #[.slice A n c, .int .i64 N] w (GotB W (l ++ Pk.enc (Pk.held N))) := by
  have hT : PutT (Pk.held N) := Pk.held_le N
  have HL := Lib.hid (Pk.enc_length (Pk.held N))
  have HO := Lib.hid hown
  clear hown
  go_enter Try.func65, Try.ntmps65
  go_wp2_with (go_at_call 71; refine (held_any _ _).mono ?_; rintro e w' ⟨rfl, rfl⟩)
  go_loopw [0, 1] (fun s0 s1 wr => ∃ (m : Nat) (A' : Option Addr) (n' c' : Nat) (l' : List Nat), PutT m ∧ s1 = .int .i64 m ∧ s0 = .slice A' n' c' ∧ OwnB W wr A' n' c' l' ∧ Below W.heap.size W wr ∧ Hid (l' ++ Pk.enc m = l ++ Pk.enc (Pk.held N)) ∧ n' ≤ n + 9)
    (fun _ s1 _ => (intOf s1).toNat)
  case atStart => exact ⟨_, _, _, _, l, hT, rfl, rfl, HO.out, hB, Lib.hid rfl, by omega⟩
  case round =>
    obtain ⟨m, A', n', c', l', hm, rfl, rfl, hown, hB', hl, hn'⟩ := hrel
    by_cases hlt : 128 ≤ m
    · have hm2 : (m : Int) ≤ 4611686018427387904 := by have : m ≤ Pk.top := hm; unfold Pk.top at this; omega
      have HE := Lib.hid (Pk.enc_big hlt hm)
      have hq : PutT (m / 128) := by have : m ≤ Pk.top := hm; exact Nat.le_trans (Nat.div_le_self _ _) this
      have HB := Lib.hid (Pk.enc_length (m / 128))
      go_wp2_with (first
        | (at_builtin
           refine wpList_append_bytes (W := W) byteT (.tmp 9) (.tmp 14) rfl (by rfl) rfl (hown.alloc _) rfl (Rd.oneI wr (x := m % 128 + 128) (by omega) 5) (by have := hn.out; omega) (hB'.alloc hB'.size _) ?_
           intro A1 c1 w1 hown1 hr1 hB1)
        | fail)
      go_roundw
      case rel =>
        have HL' := Lib.hid (congrArg List.length hl.out)
        refine ⟨m / 128, A1, n' + 1, c1, l' ++ [m % 128 + 128], hq, by go_num, rfl, hown1, hB1, Lib.hid ?_, ?_⟩
        · have := hl.out
          rw [HE.out] at this
          rw [← this, List.append_assoc]; rfl
        · have h1 := HL'.out
          have h2 := HL.out
          have h3 := own_len hown
          have h4 := own_len HO.out
          have h5 := HB.out
          rw [HE.out] at h1
          simp only [List.length_append, List.length_cons] at h1
          omega
      case measure => simp [intOf]; omega
    · have HE := Lib.hid (Pk.enc_small (n := m) (by omega))
      have hi : (m : Int) < 128 := by omega
      go_wp2_with (first
        | (at_builtin
           refine wpList_append_bytes (W := W) byteT (.tmp 18) (.tmp 21) rfl (by rfl) rfl (hown.alloc _) rfl (Rd.oneI wr (x := m) (by omega) 5) (by have := hn.out; omega) (hB'.alloc hB'.size _) ?_
           intro A1 c1 w1 hown1 hr1 hB1)
        | fail)
      go_ret
      have h1 := hl.out
      rw [HE.out] at h1
      rw [h1] at hown1
      exact ⟨_, _, _, rfl, hown1, hB1⟩
theorem num_any (l : List Nat) (A : Option Addr) (n c B : Nat) (N : Int) (hn : Lim 20 n) (w : World) (hr : Rd w B A n (bv l)) :
    Calls Try.prog 64 #[.slice A n c, .int .i64 N] w (GotB w (l ++ Pk.enc (Pk.held N))) := by
  have hl := hr.length
  have H := Lib.hid hr
  have HL := Lib.hid hl
  clear hr hl
  go_enter Try.func64, Try.ntmps64
  go_wp2_with fail
  refine (withRoom_any l A n c B 9 (by have := hn.out; unfold Lim; omega) (by omega) (by omega) _ H.out).mono ?_
  rintro e w1 ⟨A1, n1, c1, rfl, hown1, hB1⟩
  have hn1 : Lim 20 n1 := by have := own_len hown1; have := HL.out; have := hn.out; unfold Lim; omega
  go_wp2_with fail
  refine (put_any l A1 n1 c1 N hn1 w w1 hown1 hB1).mono ?_
  rintro e w2 ⟨A2, n2, c2, rfl, hown2, hB2⟩
  go_wp2
  go_ret
  exact ⟨_, _, _, rfl, hown2, hB2⟩
theorem held_len {n : Nat} (h : Lim 20 n) : Pk.held (n : Int) = n := Pk.held_of (by have := h.out; unfold Pk.top; omega)
theorem bytes_any (l x : List Nat) (A : Option Addr) (n c B : Nat) (A' : Option Addr) (n' c' B' : Nat) (hn : Lim 20 n) (hn' : Lim 20 n') (hs : Lim 20 (n + n')) (w : World) (hr : Rd w B A n (bv l)) (hr' : Rd w B' A' n' (bv x)) :
    Calls Try.prog 61 #[.slice A n c, .slice A' n' c'] w (GotB w (l ++ Pk.encB x)) := by
  have HL := Lib.hid hr.length
  have HX := Lib.hid hr'.length
  have H := Lib.hid hr
  have H' := Lib.hid hr'.fit
  have HE := Lib.hid (Pk.enc_length n')
  have HD := Lib.hid (held_len hn')
  have hb : (n' : Int) ≤ 1099511627756 := by have := hn'.out; omega
  clear hr hr'
  go_enter Try.func61, Try.ntmps61
  go_wp2_with fail
  refine (withRoom_any l A n c B (9 + n') (by have := hn.out; unfold Lim; omega) (by omega) (by omega) _ H.out).mono ?_
  rintro e w1 ⟨A1, n1, c1, rfl, hown1, hB1⟩
  have hn1 : Lim 20 n1 := by have := own_len hown1; have := HL.out; have := hn.out; unfold Lim; omega
  have HN1 := Lib.hid (show n1 = n by have := own_len hown1; have := HL.out; omega)
  go_wp2_with fail
  refine (put_any l A1 n1 c1 n' hn1 w w1 hown1 hB1).mono ?_
  rintro e w2 ⟨A2, n2, c2, rfl, hown2, hB2⟩
  have HN2 := Lib.hid (own_len hown2)
  go_wp2_with (first
    | (at_builtin
       refine wpList_append_bytes (W := w) byteT (.tmp 12) (.tmp 13) rfl (by rfl) rfl hown2 rfl (H'.out.below hB2) (by
         have h1 := HN2.out; have h2 := HN1.out; have h3 := HL.out; have h4 := HE.out; have h5 := hs.out
         rw [HD.out, List.length_append] at h1; omega) hB2 ?_
       intro A3 c3 w3 hown3 hr3 hB3)
    | fail)
  go_ret
  refine ⟨_, _, _, rfl, ?_, hB3⟩
  have h6 := hown3
  rw [HD.out] at h6
  unfold Pk.encB
  rw [HX.out, ← List.append_assoc]
  exact h6
/-- a reader at block b: what is left to read, or none -/
def RdrAt (w : World) (b : Nat) (s : Pk.St) : Prop := ∃ A n c, Blk w b 76 #[.slice A n c, .bool s.isNone] ∧ n ≤ c ∧ c ≤ maxLen ∧ Lim 40 n ∧ RdT w 5 A n (bv (s.getD [])) ∧ ∀ x ∈ s.getD [], x < 256
theorem RdrAt.below {w w' : World} {b : Nat} {s : Pk.St} (h : RdrAt w b s) (hb : Below w.heap.size w w') : RdrAt w' b s := by
  obtain ⟨A, n, c, h1, h2, h3, h4, h5, h6⟩ := h
  exact ⟨A, n, c, h1.below hb, h2, h3, h4, h5.below hb, h6⟩
theorem RdrAt.lt {w : World} {b : Nat} {s : Pk.St} (h : RdrAt w b s) : b < w.heap.size := by
  obtain ⟨A, n, c, h1, _⟩ := h
  exact h1.lt
/-- a call that began in W answered a new reader of l -/
def GotRd (W : World) (l : List Nat) (e : Ending) (w' : World) : Prop := ∃ b, e = .returned (.pointer (some ⟨b, 0, none⟩)) ∧ RdrAt w' b (some l) ∧ W.heap.size ≤ b ∧ Below W.heap.size W w'
theorem readP_any (l : List Nat) (A : Option Addr) (n c B : Nat) (hn : Lim 40 n) (hl : ∀ x ∈ l, x < 256) (w : World) (hr : Rd w B A n (bv l)) :
    Calls Try.prog 16 #[.slice A n c] w (GotRd w l) := by
  have HL := Lib.hid hr.length
  have H := Lib.hid hr
  have HX := Lib.hid hl
  clear hr hl
  go_enter Try.func16, Try.ntmps16
  go_wp2_with fail
  refine (withRoom_any l A n c B 0 (by have := hn.out; unfold Lim; omega) (by omega) (by omega) _ H.out).mono ?_
  rintro e w1 ⟨A1, n1, c1, rfl, hown1, hB1⟩
  have hn1 : Lim 40 n1 := by have := own_len hown1; have := HL.out; have := hn.out; unfold Lim; omega
  go_wp2
  go_ret
  exact ⟨w1.heap.size, rfl, ⟨A1, n1, c1, Blk.new _ _ _, (own_cap hown1).1, (own_cap hown1).2, hn1, (RdT.own hown1).alloc _, HX.out⟩, hB1.size, hB1.alloc hB1.size _⟩
theorem run_min9 {P : Program} (w : World) (ts : Array TypeId) (t : TypeId) (n : Nat) :
    (Builtin.min_ ts t #[.int .i64 (n : Int), .int .i64 9]).run P w = .ok (.int .i64 ((min n 9 : Nat) : Int)) w := by
  have e : ((min n 9 : Nat) : Int) = if (9 : Int) < (n : Int) then 9 else (n : Int) := by omega
  rw [e]
  simp [Builtin.min_, Builtin.min2]
theorem i64_or_nat (a b : Nat) (ha : a < 9223372036854775808) (hb : b < 9223372036854775808) : bits .or .i64 (a : Int) (b : Int) = ((a ||| b : Nat) : Int) := by
  show IntKind.i64.wrap ((BitVec.ofInt 64 a ||| BitVec.ofInt 64 b).toNat : Int) = _
  have hlt : a ||| b < 2 ^ 63 := Nat.or_lt_two_pow (by omega) (by omega)
  have e : (BitVec.ofInt 64 a ||| BitVec.ofInt 64 b).toNat = a ||| b := by
    rw [BitVec.toNat_or, BitVec.toNat_ofInt, BitVec.toNat_ofInt]
    have h1 : ((a : Int) % ((2 ^ 64 : Nat) : Int)).toNat = a := by omega
    have h2 : ((b : Int) % ((2 ^ 64 : Nat) : Int)).toNat = b := by omega
    rw [h1, h2]
  rw [e, IntKind.wrap_i64]
  omega
theorem or_group {k acc x : Nat} (hk : k < 9) (ha : acc < 128 ^ k) (hx : x < 256) :
    bits .or .i64 (acc : Int) (wrap64 ((x : Int) % 128 * 2 ^ (7 * k))) = ((acc + x % 128 * 128 ^ k : Nat) : Int) := by
  have e128 : (128 : Nat) ^ k = 2 ^ (7 * k) := by rw [Nat.pow_mul]
  have hp : (128 : Nat) ^ k ≤ 128 ^ 8 := Nat.pow_le_pow_right (by omega) (by omega)
  have hm : x % 128 * 128 ^ k ≤ 127 * 128 ^ k := Nat.mul_le_mul_right _ (by omega)
  have e1 : ((x : Int) % 128 * 2 ^ (7 * k)) = ((x % 128 * 128 ^ k : Nat) : Int) := by rw [e128]; simp
  have e2 : wrap64 ((x : Int) % 128 * 2 ^ (7 * k)) = ((x % 128 * 128 ^ k : Nat) : Int) := by
    rw [e1]
    unfold wrap64
    generalize x % 128 * 128 ^ k = q at hm
    omega
  rw [e2, i64_or_nat _ _ (by omega) (by omega), Nat.or_comm, nat_join (7 * k) _ _ (by rw [e128]; exact Nat.mul_mod_left _ _) (by rw [← e128]; exact ha), Nat.add_comm]
set_option maxRecDepth 100000 in
theorem first_any (l : List Nat) (A : Option Addr) (n c B : Nat) (hl : ∀ x ∈ l, x < 256) (hc : n ≤ c) (hn : Lim 0 n) (w : World) (hr : Rd w B A n (bv l)) :
    Calls Try.prog 72 #[.slice A n c] w fun e w' => e = .returned (.tuple #[.int .i64 ((Pk.first l).1 : Nat), .int .i64 ((Pk.first l).2 : Nat)]) ∧ w = w' := by
  have HL := Lib.hid hr.length
  have HX := Lib.hid hl
  obtain ⟨i, hi1, hi2, hi3, hi4⟩ := info_parts byteT.info
  have H9 := Lib.hid (run_slice_to (P := Try.prog) (t := 23) byteT.under hi1 A n c (min n 9) (by omega))
  obtain ⟨m, hm1, hm2, hm3, hmin, hsl⟩ : ∃ m : Nat, m ≤ n ∧ m ≤ 9 ∧ (m = n ∨ m = 9) ∧ (∀ (w : World) ts t, (Builtin.min_ ts t #[.int .i64 (n : Int), .int .i64 9]).run Try.prog w = .ok (.int .i64 (m : Int)) w) ∧
      ∀ w : World, (Instr.slice 23 (.slice A n c) none (some (.int .i64 (m : Int))) none).run Try.prog w = .ok (.slice A m c) w :=
    ⟨min n 9, by omega, by omega, by omega, fun w ts t => run_min9 w ts t n, H9.out⟩
  have H := Lib.hid (hr.take hm1)
  have HM := Lib.hid hm3
  clear hr hl hi1 hi2 hi3 hi4 H9 hm3
  go_enter Try.func72, Try.ntmps72
  go_wp2_with fail
  go_loop [2, 12] (fun s2 s12 => ∃ (k acc : Nat), k ≤ m ∧ s12 = .int .i64 k ∧ s2 = .int .i64 acc ∧ Hid (Pk.dec k acc (l.drop k) = Pk.first l ∧ acc < 128 ^ k)) (fun _ i => m - (intOf i).toNat)
  case atStart => exact ⟨0, 0, by omega, rfl, rfl, Lib.hid ⟨rfl, by simp⟩⟩
  case round =>
    obtain ⟨k, acc, hk, rfl, rfl, hd⟩ := hrel
    by_cases hlt : k < m
    · have hkl : k < l.length := by have := HL.out; omega
      obtain ⟨b, o, rfl, hk', hcell⟩ := (show Rd w B A m (bv (l.take m)) by rw [bv_take]; exact H.out).bytes_at hlt
      have HT := Lib.hid (show (l.take m)[k] = l[k] by simp)
      rw [HT.out] at hcell
      have hx : l[k] < 256 := HX.out _ (List.getElem_mem hkl)
      obtain ⟨x, hxe⟩ : ∃ x, x = l[k] := ⟨_, rfl⟩
      rw [← hxe] at hcell hx
      have HE := Lib.hid hxe
      clear hxe
      by_cases hbig : 128 ≤ x
      · have HD := Lib.hid (show Pk.dec k acc (l.drop k) = Pk.dec (k + 1) (acc + x % 128 * 128 ^ k) (l.drop (k + 1)) by
          rw [List.drop_eq_getElem_cons hkl, ← HE.out]
          simp only [Pk.dec]
          rw [if_neg (by omega), if_pos hbig])
        go_wp2
        go_round
        case rel =>
          refine ⟨k + 1, acc + x % 128 * 128 ^ k, by omega, by go_num, by rw [or_group (by omega) hd.out.2 hx], Lib.hid ⟨?_, ?_⟩⟩
          · rw [← HD.out]; exact hd.out.1
          · have h1 := hd.out.2
            have h2 : 128 ^ (k + 1) = 128 * 128 ^ k := by rw [Nat.pow_succ, Nat.mul_comm]
            have h3 : x % 128 * 128 ^ k ≤ 127 * 128 ^ k := Nat.mul_le_mul_right _ (by omega)
            omega
        case measure => simp [intOf]; omega
      · by_cases hz : x = 0 ∧ 0 < k
        · have HD := Lib.hid (show Pk.dec k acc (l.drop k) = (0, 0) by
            rw [List.drop_eq_getElem_cons hkl, ← HE.out]
            simp only [Pk.dec]
            rw [if_neg (by omega), if_neg hbig, if_pos hz])
          obtain ⟨rfl, hk0⟩ := hz
          have hk1 : ((k : Int) == 0) = false := by simp; omega
          go_wp2
          go_ret2
          have h1 : Pk.first l = (0, 0) := by rw [← hd.out.1]; exact HD.out
          exact ⟨by rw [h1]; rfl, rfl⟩
        · have HD := Lib.hid (show Pk.dec k acc (l.drop k) = (acc + x * 128 ^ k, k + 1) by
            rw [List.drop_eq_getElem_cons hkl, ← HE.out]
            simp only [Pk.dec]
            rw [if_neg (by omega), if_neg hbig, if_neg hz])
          have HO := Lib.hid (or_group (k := k) (by omega) hd.out.2 hx)
          have hx8 : (x : Int) < 128 := by omega
          have HF := Lib.hid (show (Ending.returned (.tuple #[.int .i64 (bits .or .i64 (acc : Int) (wrap64 ((x : Int) % 128 * 2 ^ (7 * k)))), .int .i64 ((k : Int) + 1)])) = .returned (.tuple #[.int .i64 ((Pk.first l).1 : Nat), .int .i64 ((Pk.first l).2 : Nat)]) by
            have h1 : Pk.first l = (acc + x * 128 ^ k, k + 1) := by rw [← hd.out.1]; exact HD.out
            have h2 : x % 128 = x := by omega
            rw [HO.out, h1, h2]; rfl)
          by_cases hx0 : x = 0
          · have hk0 : ¬ (0 < (k : Int)) := by omega
            have hz0 : ((x : Int) == 0) = true := by simp; omega
            clear hx0 hz hd HD HO
            go_wp2
            go_ret2
            exact ⟨HF.out, rfl⟩
          · have hz0 : ((x : Int) == 0) = false := by simp; omega
            clear hx0 hz hd HD HO
            go_wp2
            go_ret2
            exact ⟨HF.out, rfl⟩
    · have HD := Lib.hid (show Pk.dec k acc (l.drop k) = (0, 0) by
        rcases HM.out with h | h
        · rw [List.drop_of_length_le (by have := HL.out; omega)]; rfl
        · rcases Nat.lt_or_ge k l.length with h2 | h2
          · rw [List.drop_eq_getElem_cons h2]
            simp only [Pk.dec]
            rw [if_pos (by omega)]
          · rw [List.drop_of_length_le h2]; rfl)
      go_wp2
      go_ret2
      have h1 : Pk.first l = (0, 0) := by rw [← hd.out.1]; exact HD.out
      exact ⟨by rw [h1]; rfl, rfl⟩
end Go.Proofs.Ytijcbbommaeejaa

namespace Go.Proofs.Ytijcbbommaeejaa
open Go.RowKit
set_option linter.unusedVariables false

/-- only block b has turned; what is new stands behind -/
abbrev Only (b : Nat) (w w' : World) : Prop := w.grownBy w' (some b)
theorem only_set {a w : World} {g : Nat} (h : Only g a w) (i : Nat) (u : Value) : Only g a (w.setCell ⟨g, i, none⟩ u) :=
  ⟨h.os, h.tape, h.output, by simpa [World.setCell] using h.size, fun k hk hne => (Below.heap_setCell w ⟨g, i, none⟩ u k (by rintro rfl; exact hne rfl)).trans (h.block k hk hne)⟩
theorem only_refl (g : Nat) (w : World) : Only g w w := World.grownBy.refl w _
theorem only_trans {a b c : World} {g : Nat} (h : Only g a b) (k : Only g b c) : Only g a c :=
  ⟨k.os.trans h.os, k.tape.trans h.tape, k.output.trans h.output, Nat.le_trans h.size k.size, fun i hi hn => (k.block i (Nat.lt_of_lt_of_le hi h.size) hn).trans (h.block i hi hn)⟩
theorem only_below {a w w' : World} {g B : Nat} (h : Only g a w) (hb : Below B w w') (hB : a.heap.size ≤ B) : Only g a w' :=
  ⟨hb.os.trans h.os, hb.tape.trans h.tape, hb.output.trans h.output, Nat.le_trans h.size hb.size, fun i hi hn => (hb.block i (by omega)).trans (h.block i hi hn)⟩
theorem below_only {W w w' : World} {g : Nat} (hB : Below W.heap.size W w) (h : Only g w w') (hg : W.heap.size ≤ g) : Below W.heap.size W w' :=
  hB.grown h hB.size (fun k hk => by injection hk with hk; omega)

theorem fail_any (w : World) (b : Nat) (s : Pk.St) (h : RdrAt w b s) :
    Calls Try.prog 73 #[.pointer (some ⟨b, 0, none⟩)] w fun e w' => e = .returned (.tuple #[]) ∧ RdrAt w' b none ∧ Only b w w' := by
  obtain ⟨A, n, c, hblk, h2, h3, h4, h5, h6⟩ := h
  have hc0 : w.cell? ⟨b, 0, none⟩ = some (.slice A n c) := hblk.cell 0
  have hc1 : w.cell? ⟨b, 1, none⟩ = some (.bool s.isNone) := hblk.cell 1
  have hf0 := hblk.frozen 0
  have hf1 := hblk.frozen 1
  have HB := Lib.hid hblk
  clear hblk h2 h3 h4 h5 h6
  go_enter Try.func73, Try.ntmps73
  go_wp2
  go_end0
  have hb := HB.out
  exact ⟨rfl, ⟨none, 0, 0, (hb.set_ 1 (.bool true)).set_ 0 (.slice none 0 0), by omega, by unfold maxLen; omega, by unfold Lim; omega, RdT.none_ _ _ _, by intro x hx; cases hx⟩, only_set (only_set (only_refl b w) 1 _) 0 _⟩
theorem first_is {l : List Nat} {v sz : Nat} (hf : Pk.first l = (v, sz)) (A : Option Addr) (n c B : Nat) (hl : ∀ x ∈ l, x < 256) (hc : n ≤ c) (hn : Lim 0 n) (w : World) (hr : Rd w B A n (bv l)) :
    Calls Try.prog 72 #[.slice A n c] w fun e w' => e = .returned (.tuple #[.int .i64 (v : Int), .int .i64 (sz : Int)]) ∧ w = w' := by
  have h := first_any l A n c B hl hc hn w hr
  rw [hf] at h
  exact h
/-- the reader's block turns to what is left -/
theorem rdr_cut {w : World} {b n c k : Nat} {A : Option Addr} {l : List Nat} (hb : Blk w b 76 #[.slice A n c, .bool false]) (hc : n ≤ c) (hm : c ≤ maxLen) (hn : Lim 40 n) (hr : RdT w 5 A n (bv l)) (hl : ∀ x ∈ l, x < 256) (hk : k ≤ n) :
    RdrAt (w.setCell ⟨b, 0, none⟩ (.slice (cutAt A c k) (n - k) (c - k))) b (some (l.drop k)) := by
  refine ⟨cutAt A c k, n - k, c - k, hb.set_ 0 _, by omega, by omega, by have := hn.out; unfold Lim; omega, ?_, fun x hx => hl x (List.mem_of_mem_drop hx)⟩
  have h1 := (hr.drop hk hc).grown (only_set (only_refl b w) 0 (.slice (cutAt A c k) (n - k) (c - k))) hb (by decide)
  rw [← bv_drop] at h1
  exact h1
theorem rdr_cuts {w : World} {b n c k : Nat} {A : Option Addr} {s : Pk.St} (hb : Blk w b 76 #[.slice A n c, .bool s.isNone]) (hc : n ≤ c) (hm : c ≤ maxLen) (hn : Lim 40 n) (hr : RdT w 5 A n (bv (s.getD []))) (hl : ∀ x ∈ s.getD [], x < 256) (hk : k ≤ n) :
    RdrAt (w.setCell ⟨b, 0, none⟩ (.slice (cutAt A c k) (n - k) (c - k))) b (s.map (List.drop k)) := by
  cases s with
  | some l => exact rdr_cut hb hc hm hn hr hl hk
  | none =>
    refine ⟨cutAt A c k, n - k, c - k, hb.set_ 0 _, by omega, by omega, by have := hn.out; unfold Lim; omega, ?_, fun x hx => by cases hx⟩
    have h0 : n = 0 := by have := hr.rd.length; simpa using this.symm
    subst h0
    rw [Nat.zero_sub]
    exact RdT.none_ _ _ _
/-- what Num answers, and leaves -/
def NumP (w : World) (b : Nat) (v : Nat) (s : Pk.St) (e : Ending) (w' : World) : Prop := e = .returned (.int .i64 (v : Int)) ∧ RdrAt w' b s ∧ Only b w w'
set_option maxRecDepth 100000 in
theorem rnum_any (w : World) (b : Nat) (s : Pk.St) (most : Int) (h : RdrAt w b s) :
    Calls Try.prog 66 #[.pointer (some ⟨b, 0, none⟩), .int .i64 most] w (NumP w b (Pk.numV s most) (Pk.numS s most)) := by
  have HR := Lib.hid h
  obtain ⟨A, n, c, hblk, h2, h3, h4, h5, h6⟩ := h
  have hc0 : w.cell? ⟨b, 0, none⟩ = some (.slice A n c) := hblk.cell 0
  have hf0 := hblk.frozen 0
  obtain ⟨v, sz, hf⟩ : ∃ v sz, Pk.first (s.getD []) = (v, sz) := ⟨_, _, rfl⟩
  have hsz := Pk.first_size (s.getD [])
  have hlen := h5.rd.length
  rw [hf] at hsz
  have hszn : sz ≤ n := by have := hsz.1; simp only at this; omega
  have HB := Lib.hid hblk
  have HT := Lib.hid h5
  have HL := Lib.hid h6
  have HF := Lib.hid hf
  have HM := Lib.hid h3
  clear hblk h5 h6 hlen hsz hf h3
  have hcall := Lib.hid (first_is HF.out A n c w.heap.size HL.out h2 (by have := h4.out; unfold Lim; omega) w HT.out.rd)
  by_cases hz : sz = 0
  · have HN := Lib.hid (show Pk.numN s most = none by
      cases s with
      | none => rfl
      | some l => have := HF.out; simp only [Option.getD_some] at this; simp [Pk.numN, Pk.rNum, this, hz])
    subst hz
    go_enter Try.func66, Try.ntmps66
    go_wp2_with fail
    refine hcall.out.mono ?_
    rintro e w' ⟨rfl, rfl⟩
    go_wp2_with fail
    refine (fail_any w b s HR.out).mono ?_
    rintro e w' ⟨rfl, hr1, ho1⟩
    go_wp2
    go_ret
    unfold NumP Pk.numV Pk.numS
    rw [HN.out]
    exact ⟨rfl, hr1, ho1⟩
  · obtain ⟨l, rfl⟩ : ∃ l, s = some l := by
      cases s with
      | none => exfalso; apply hz; have := HF.out; simp [Pk.first, Pk.dec] at this; omega
      | some l => exact ⟨l, rfl⟩
    have hzi : ((sz : Int) == 0) = false := by simp; omega
    by_cases hm : Pk.held most < v
    · have HN := Lib.hid (show Pk.numN (some l) most = none by
        have := HF.out; simp only [Option.getD_some] at this; simp [Pk.numN, Pk.rNum, this, hm])
      go_enter Try.func66, Try.ntmps66
      go_wp2_with fail
      refine hcall.out.mono ?_
      rintro e w' ⟨rfl, rfl⟩
      go_wp2_with (go_at_call 71; refine (held_any _ _).mono ?_; rintro e w' ⟨rfl, rfl⟩)
      refine (fail_any w b _ HR.out).mono ?_
      rintro e w' ⟨rfl, hr1, ho1⟩
      go_wp2
      go_ret
      unfold NumP Pk.numV Pk.numS
      rw [HN.out]
      exact ⟨rfl, hr1, ho1⟩
    · have HN := Lib.hid (show Pk.numN (some l) most = some (v, l.drop sz) by
        have := HF.out; simp only [Option.getD_some] at this; simp [Pk.numN, Pk.rNum, this, hm, hz])
      obtain ⟨i, hi1, hi2, hi3, hi4⟩ := info_parts byteT.info
      have hsl := run_slice_from (P := Try.prog) (t := 23) byteT.under hi1 hi3 A n c sz hszn
      clear hi1 hi2 hi3 hi4 hz
      go_enter Try.func66, Try.ntmps66
      go_wp2_with fail
      refine hcall.out.mono ?_
      rintro e w' ⟨rfl, rfl⟩
      go_wp2_with (go_at_call 71; refine (held_any _ _).mono ?_; rintro e w' ⟨rfl, rfl⟩)
      go_ret
      unfold NumP Pk.numV Pk.numS
      rw [HN.out]
      exact ⟨rfl, rdr_cut HB.out h2 HM.out h4 HT.out HL.out hszn, only_set (only_refl b w) 0 _⟩
/-- what Bytes answers, and leaves -/
def BytP (W : World) (b : Nat) (vs : List Nat) (s : Pk.St) (e : Ending) (w' : World) : Prop := ∃ A n c, e = .returned (.slice A n c) ∧ OwnB W w' A n c vs ∧ RdrAt w' b s ∧ Only b W w'
theorem own_only {W w w' : World} {A : Option Addr} {n c b : Nat} {l : List Nat} (h : OwnB W w A n c l) (ho : Only b w w') (hb : b < W.heap.size) : OwnB W w' A n c l :=
  h.kept ho (by
    rcases he : (Value.slice A n c).ownBlock with _ | k
    · exact .inl rfl
    · right
      intro h2
      injection h2 with h2
      have := (h.lt k he).1
      omega)
/-- what is a row of the call's own in a later world of it -/
theorem own_base {W W' w : World} {A : Option Addr} {n c : Nat} {l : List Nat} (h : OwnB W' w A n c l) (hs : W.heap.size ≤ W'.heap.size) : OwnB W w A n c l := by
  obtain ⟨h1, h2⟩ := h
  refine ⟨h1, ?_⟩
  rcases h2 with h2 | ⟨g, cap, cur, hv, hb, r⟩
  · exact .inl h2
  · exact .inr ⟨g, cap, cur, hv, by omega, r⟩
set_option maxRecDepth 100000 in
theorem rbytes_any (w : World) (b : Nat) (s : Pk.St) (most : Int) (h : RdrAt w b s) :
    Calls Try.prog 67 #[.pointer (some ⟨b, 0, none⟩), .int .i64 most] w (BytP w b (Pk.bytV s most) (Pk.bytS s most)) := by
  have hbl := h.lt
  have hcall := Lib.hid (rnum_any w b s most h)
  clear h
  by_cases hv : ((Pk.numS s most).getD []).length < Pk.numV s most
  · obtain ⟨hb1, hb2⟩ := Pk.byt_no hv
    rw [hb1, hb2]
    clear hb1 hb2
    go_enter Try.func67, Try.ntmps67
    go_wp2_with fail
    refine hcall.out.mono ?_
    rintro e w1 ⟨rfl, hr1, ho1⟩
    have HR := Lib.hid hr1
    obtain ⟨A, n, c, hblk, h2, h3, h4, h5, h6⟩ := hr1
    have hc0 : w1.cell? ⟨b, 0, none⟩ = some (.slice A n c) := hblk.cell 0
    have hlt : n < Pk.numV s most := by have := h5.rd.length; omega
    clear hblk h5 h6 hv h3
    go_wp2_with fail
    refine (fail_any w1 b _ HR.out).mono ?_
    rintro e w2 ⟨rfl, hr2, ho2⟩
    go_wp2
    go_ret
    exact ⟨none, 0, 0, rfl, World.ownsRow_nil _ _ _ _, hr2, only_trans ho1 ho2⟩
  · obtain ⟨hb1, hb2⟩ := Pk.byt_of hv
    have HB1 := Lib.hid hb1
    have HB2 := Lib.hid hb2
    clear hb1 hb2
    go_enter Try.func67, Try.ntmps67
    go_wp2_with fail
    refine hcall.out.mono ?_
    rintro e w1 ⟨rfl, hr1, ho1⟩
    obtain ⟨A, n, c, hblk, h2, h3, h4, h5, h6⟩ := hr1
    have hc0 : w1.cell? ⟨b, 0, none⟩ = some (.slice A n c) := hblk.cell 0
    have hlt : Pk.numV s most ≤ n := by have := h5.rd.length; omega
    have hltc : Pk.numV s most ≤ c := by omega
    have HT := Lib.hid h5
    have HB := Lib.hid hblk
    have HL := Lib.hid h6
    have HM := Lib.hid h3
    obtain ⟨i, hi1, hi2, hi3, hi4⟩ := info_parts byteT.info
    have hs1 := run_slice_from (P := Try.prog) (t := 23) byteT.under hi1 hi3 A n c (Pk.numV s most) hlt
    have hs2 := run_slice_to (P := Try.prog) (t := 23) byteT.under hi1 A n c (Pk.numV s most) hltc
    clear hblk h5 h6 hv h3 hi1 hi2 hi3 hi4
    go_wp2_with fail
    refine (withRoom_any (((Pk.numS s most).getD []).take (Pk.numV s most)) A (Pk.numV s most) c w1.heap.size 0 (by have := h4.out; unfold Lim; omega) (by omega) (by omega) _ (by rw [bv_take]; exact (HT.out.take hlt).rd)).mono ?_
    rintro e w2 ⟨A2, n2, c2, rfl, hown2, hB2⟩
    have hb2 := HB.out.below hB2
    have hc1 : w2.cell? ⟨b, 0, none⟩ = some (.slice A n c) := hb2.cell 0
    have hf1 := hb2.frozen 0
    have HB3 := Lib.hid hb2
    clear hc0 hb2
    go_wp2
    go_ret
    unfold BytP
    rw [HB1.out, HB2.out]
    have ho2 := only_set (only_below ho1 hB2 ho1.size) 0 (.slice (cutAt A c (Pk.numV s most)) (n - Pk.numV s most) (c - Pk.numV s most))
    exact ⟨A2, n2, c2, rfl, own_only (own_base hown2 ho1.size) (only_set (only_refl b w2) 0 _) hbl, rdr_cuts HB3.out h2 HM.out h4 (HT.out.below hB2) HL.out hlt, ho2⟩
theorem ok_any (w : World) (b : Nat) (s : Pk.St) (h : RdrAt w b s) :
    Calls Try.prog 35 #[.pointer (some ⟨b, 0, none⟩)] w fun e w' => e = .returned (.bool s.isSome) ∧ w = w' := by
  obtain ⟨A, n, c, hblk, h2, h3, h4, h5, h6⟩ := h
  have hc1 : w.cell? ⟨b, 1, none⟩ = some (.bool s.isNone) := hblk.cell 1
  clear hblk h2 h3 h4 h5 h6
  cases s with
  | none =>
    go_enter Try.func35, Try.ntmps35
    go_wp2
    go_ret
    exact ⟨rfl, rfl⟩
  | some l =>
    go_enter Try.func35, Try.ntmps35
    go_wp2
    go_ret
    exact ⟨rfl, rfl⟩
/-- is all read, and well? -/
def Pk.endOf (s : Pk.St) : Bool := decide (s = some [])
theorem end_any (w : World) (b : Nat) (s : Pk.St) (h : RdrAt w b s) :
    Calls Try.prog 17 #[.pointer (some ⟨b, 0, none⟩)] w fun e w' => e = .returned (.bool (Pk.endOf s)) ∧ w = w' := by
  have HK := Lib.hid (ok_any w b s h)
  obtain ⟨A, n, c, hblk, h2, h3, h4, h5, h6⟩ := h
  have hc0 : w.cell? ⟨b, 0, none⟩ = some (.slice A n c) := hblk.cell 0
  have hlen := h5.rd.length
  clear hblk h2 h3 h4 h5 h6
  rcases s with _ | l
  · clear hlen
    go_enter Try.func17, Try.ntmps17
    go_wp2_with fail
    refine HK.out.mono ?_
    rintro e w1 ⟨rfl, rfl⟩
    go_wp2
    go_ret
    exact ⟨rfl, rfl⟩
  · obtain ⟨d, hd1, hd2⟩ : ∃ d : Bool, ((n : Int) == 0) = d ∧ Pk.endOf (some l) = d := by
      refine ⟨_, rfl, ?_⟩
      have hl : l.length = n := hlen
      unfold Pk.endOf
      rw [Bool.eq_iff_iff]
      cases l with
      | nil => simp at hl; simp; omega
      | cons x l => simp at hl; simp; omega
    have HD := Lib.hid hd2
    clear hlen hd2
    cases d
    all_goals
      go_enter Try.func17, Try.ntmps17
      go_wp2_with fail
      refine HK.out.mono ?_
      rintro e w1 ⟨rfl, rfl⟩
      go_wp2
      go_ret
      exact ⟨by rw [HD.out]; rfl, rfl⟩
end Go.Proofs.Ytijcbbommaeejaa

namespace Go.Proofs.Ytijcbbommaeejaa
open Go.RowKit
set_option linter.unusedVariables false
theorem awake_str {w : World} {B : Nat} {A : Option Addr} {n c : Nat} {l : List Nat} (h : Rd w B A n (bv l)) : (convert 23 9 (.slice A n c)).run Try.prog w = .ok (.string (strB l)) w :=
  run_str_rd Try.underlying23 Try.underlying5 Try.underlying9 h
theorem rnum_is (w : World) (b : Nat) (s : Pk.St) (most : Int) (h : RdrAt w b s) (v : Nat) (s' : Pk.St) (hv : Pk.numV s most = v) (hs : Pk.numS s most = s') :
    Calls Try.prog 66 #[.pointer (some ⟨b, 0, none⟩), .int .i64 most] w (NumP w b v s') := by
  subst hv hs; exact rnum_any w b s most h
theorem rbytes_is (w : World) (b : Nat) (s : Pk.St) (most : Int) (h : RdrAt w b s) (v : List Nat) (s' : Pk.St) (hv : Pk.bytV s most = v) (hs : Pk.bytS s most = s') :
    Calls Try.prog 67 #[.pointer (some ⟨b, 0, none⟩), .int .i64 most] w (BytP w b v s') := by
  subst hv hs; exact rbytes_any w b s most h
theorem read_in {W w : World} {l : List Nat} {A : Option Addr} {n c B : Nat} (hn : Lim 40 n) (hl : ∀ x ∈ l, x < 256) (hr : Rd w B A n (bv l)) (hB : Below W.heap.size W w) :
    Calls Try.prog 16 #[.slice A n c] w fun e w' => ∃ b, e = .returned (.pointer (some ⟨b, 0, none⟩)) ∧ RdrAt w' b (some l) ∧ W.heap.size ≤ b ∧ w.heap.size ≤ b ∧ Below W.heap.size W w' ∧ Below w.heap.size w w' :=
  (readP_any l A n c B hn hl w hr).mono fun e w' ⟨b, h1, h2, h3, h4⟩ => ⟨b, h1, h2, Nat.le_trans hB.size h3, h3, hB.trans (h4.mono hB.size), h4⟩
theorem put_in {W w : World} {l l' : List Nat} {A : Option Addr} {n c B : Nat} {N : Int} (hn : Lim 20 n) (hr : Rd w B A n (bv l)) (hB : Below W.heap.size W w) (he : l ++ Pk.enc (Pk.held N) = l') :
    Calls Try.prog 64 #[.slice A n c, .int .i64 N] w fun e w' => ∃ A n c, e = .returned (.slice A n c) ∧ OwnB W w' A n c l' ∧ Below W.heap.size W w' ∧ Below w.heap.size w w' := by
  subst he
  refine (num_any l A n c B N hn w hr).mono ?_
  rintro e w' ⟨A, n, c, h1, h2, h3⟩
  exact ⟨A, n, c, h1, own_base h2 hB.size, hB.trans (h3.mono hB.size), h3⟩
theorem putb_in {W w : World} {l x l' : List Nat} {A : Option Addr} {n c B : Nat} {A' : Option Addr} {n' c' B' : Nat} (hr : Rd w B A n (bv l)) (hr' : Rd w B' A' n' (bv x)) (hn : Lim 20 (l.length + x.length)) (hB : Below W.heap.size W w) (he : l ++ Pk.encB x = l') :
    Calls Try.prog 61 #[.slice A n c, .slice A' n' c'] w fun e w' => ∃ A n c, e = .returned (.slice A n c) ∧ OwnB W w' A n c l' ∧ Below W.heap.size W w' ∧ Below w.heap.size w w' := by
  subst he
  have h1 := hr.length
  have h2 := hr'.length
  have h3 := hn.out
  refine (bytes_any l x A n c B A' n' c' B' (by unfold Lim; omega) (by unfold Lim; omega) (by unfold Lim; omega) w hr hr').mono ?_
  rintro e w' ⟨A, n, c, h1, h2, h3⟩
  exact ⟨A, n, c, h1, own_base h2 hB.size, hB.trans (h3.mono hB.size), h3⟩
end Go.Proofs.Ytijcbbommaeejaa

namespace Go.Proofs.Ytijcbbommaeejaa
open Go.RowKit
set_option linter.unusedVariables false
/-- a command of the call's own -/
structure OwnC (W w : World) (a : CA) (c : Cm) : Prop where
  k : OwnB W w a.Ak c.key.length a.ck c.key
  v : OwnB W w a.Av c.val.length a.cv c.val
  o : OwnB W w a.Ao c.old.length a.co c.old
theorem OwnC.rd {W w : World} {a : CA} {c : Cm} (h : OwnC W w a c) : RdC w w.heap.size a c := ⟨Rd.own_ h.k, Rd.own_ h.v, Rd.own_ h.o⟩
theorem OwnC.old {W w w' : World} {row : Option Nat} {a : CA} {c : Cm} (h : OwnC W w a c) (hg : w.grownBy w' row) (ho : Old W row) : OwnC W w' a c := ⟨own_old h.k hg ho, own_old h.v hg ho, own_old h.o hg ho⟩
/-- an own row of bytes, over what a reader turns -/
theorem own_read {w wx wy : World} {A : Option Addr} {n c b : Nat} {l : List Nat} (h : OwnB w wx A n c l) (ho : Only b wx wy) (hb : b < w.heap.size) : OwnB w wy A n c l := own_old h ho (Old.some hb)
end Go.Proofs.Ytijcbbommaeejaa

namespace Go.Proofs.Ytijcbbommaeejaa
open Go.RowKit
set_option linter.unusedVariables false
/-- where a message lies -/
structure GA where
  Ad : Option Addr
  cd : Nat
  Ah : Option Addr
  ch : Nat
  An : Option Addr
  cn : Nat
  c : CA
def CA.zero : CA := ⟨none, 0, none, 0, none, 0⟩
def GA.zero : GA := ⟨none, 0, none, 0, none, 0, CA.zero⟩
def msgC (a : GA) (m : Mg) : Array Value := #[.int .i64 m.kind, .int .i64 m.frm, .int .i64 m.dst, .int .i64 m.view, .int .i64 m.inst, .int .i64 m.len, .bool m.has, .int .i64 m.mem, .int .i64 m.src, .int .i64 m.pos, .int .i64 m.tot, .slice a.Ad m.data.length a.cd, .int .i64 m.hop, .int .i64 m.seq, .slice a.Ah m.hav.length a.ch, .slice a.An m.nee.length a.cn, .int .i64 m.idx, .int .i64 m.ent.s, .int .i64 m.ent.q, .int .i64 m.ent.c.kind, .int .i64 m.ent.c.who, .slice a.c.Ak m.ent.c.key.length a.c.ck, .slice a.c.Av m.ent.c.val.length a.c.cv, .slice a.c.Ao m.ent.c.old.length a.c.co]
def msgV (a : GA) (m : Mg) : Value := .agg (msgC a m)
def msgZ : Array Value := #[.int .i64 0, .int .i64 0, .int .i64 0, .int .i64 0, .int .i64 0, .int .i64 0, .bool false, .int .i64 0, .int .i64 0, .int .i64 0, .int .i64 0, .slice none 0 0, .int .i64 0, .int .i64 0, .slice none 0 0, .slice none 0 0, .int .i64 0, .int .i64 0, .int .i64 0, .int .i64 0, .int .i64 0, .slice none 0 0, .slice none 0 0, .slice none 0 0]
/-- a message that reads -/
structure RdG (w : World) (B : Nat) (a : GA) (m : Mg) : Prop where
  d : Rd w B a.Ad m.data.length (bv m.data)
  h : Rd w B a.Ah m.hav.length (iv m.hav)
  n : Rd w B a.An m.nee.length (iv m.nee)
  c : RdC w B a.c m.ent.c
  hl : m.hav.length ≤ a.ch ∧ a.ch ≤ maxLen
  nl : m.nee.length ≤ a.cn ∧ a.cn ≤ maxLen
/-- a message of the call's own -/
structure OwnG (W w : World) (a : GA) (m : Mg) : Prop where
  d : OwnB W w a.Ad m.data.length a.cd m.data
  h : OwnI W w a.Ah m.hav.length a.ch m.hav
  n : OwnI W w a.An m.nee.length a.cn m.nee
  c : OwnC W w a.c m.ent.c
section
variable {W w w' : World} {B : Nat} {a : GA} {m : Mg} {c : Cm} {ca : CA}
theorem RdG.below (h : RdG w B a m) (hb : Below B w w') : RdG w' B a m := ⟨h.d.below hb, h.h.below hb, h.n.below hb, h.c.below hb, h.hl, h.nl⟩
theorem RdG.fit (h : RdG w B a m) : RdG w w.heap.size a m := ⟨h.d.fit, h.h.fit, h.n.fit, h.c.fit, h.hl, h.nl⟩
theorem RdG.below' (h : RdG w w.heap.size a m) (hb : Below w.heap.size w w') : RdG w' w'.heap.size a m := (h.below hb).fit
theorem OwnC.below (h : OwnC W w ca c) (hb : Below w.heap.size w w') : OwnC W w' ca c := ⟨own_below h.k hb, own_below h.v hb, own_below h.o hb⟩
theorem OwnC.of (hs : W.heap.size ≤ w.heap.size) (h : OwnC w w' ca c) : OwnC W w' ca c := ⟨own_of hs h.k, own_of hs h.v, own_of hs h.o⟩
theorem OwnC.zero (W w : World) : OwnC W w CA.zero ⟨0, 0, [], [], []⟩ := ⟨own_nil _ _, own_nil _ _, own_nil _ _⟩
theorem OwnG.rd (h : OwnG W w a m) : RdG w w.heap.size a m := ⟨Rd.own_ h.d, Rd.own_ h.h, Rd.own_ h.n, h.c.rd, own_cap h.h, own_cap h.n⟩
theorem OwnG.below (h : OwnG W w a m) (hb : Below w.heap.size w w') : OwnG W w' a m := ⟨own_below h.d hb, ownsRow_below h.h hb, ownsRow_below h.n hb, h.c.below hb⟩
theorem OwnG.of (hs : W.heap.size ≤ w.heap.size) (h : OwnG w w' a m) : OwnG W w' a m := ⟨own_of hs h.d, own_of hs h.h, own_of hs h.n, h.c.of hs⟩
theorem OwnG.zero (W w : World) : OwnG W w GA.zero Mg.zero := ⟨own_nil _ _, ownI_nil _ _, ownI_nil _ _, OwnC.zero _ _⟩
theorem RdG.zero (w : World) (B : Nat) : RdG w B GA.zero Mg.zero := ⟨Rd.none_ _ _ _, Rd.none_ _ _ _, Rd.none_ _ _ _, RdC.zero _ _, ⟨Nat.le_refl _, Nat.zero_le _⟩, ⟨Nat.le_refl _, Nat.zero_le _⟩⟩
end
/-- rows of lengths that may be, and bytes -/
structure Cm.Wide (c : Cm) : Prop where
  key : c.key.length ≤ 2000000 ∧ ∀ x ∈ c.key, x < 256
  val : c.val.length ≤ 2000000 ∧ ∀ x ∈ c.val, x < 256
  old : c.old.length ≤ 2000000 ∧ ∀ x ∈ c.old, x < 256
structure Mg.Wide (m : Mg) : Prop where
  d : m.data.length ≤ 2000000 ∧ ∀ x ∈ m.data, x < 256
  h : m.hav.length ≤ 2000000
  n : m.nee.length ≤ 2000000
  c : m.ent.c.Wide
theorem Cm.Fits.wide {c : Cm} (h : c.Fits) : c.Wide := ⟨⟨by have := h.key.1; omega, h.key.2⟩, ⟨by have := h.val.1; omega, h.val.2⟩, ⟨by have := h.old.1; omega, h.old.2⟩⟩
theorem Mg.Wide.zero : Mg.zero.Wide := ⟨⟨by simp [Mg.zero], by simp [Mg.zero]⟩, by simp [Mg.zero], by simp [Mg.zero], Cm.Fits.zero.wide⟩
/-- a message, or none -/
def GotG (W w : World) (r : Option Mg) (en : Ending) (w' : World) : Prop :=
  ∃ a, en = .returned (.tuple #[msgV a (r.getD Mg.zero), .bool r.isSome]) ∧ OwnG W w' a (r.getD Mg.zero) ∧ Below W.heap.size W w' ∧ Below w.heap.size w w'
theorem GotG.of {W w w' : World} {r : Option Mg} {en : Ending} (hB : Below W.heap.size W w) (h : GotG w w r en w') : GotG W w r en w' := by
  obtain ⟨a, h1, h2, h3, h4⟩ := h
  exact ⟨a, h1, h2.of hB.size, hB.trans (h3.mono hB.size), h4⟩
def EncodeC11 : Prop := ∀ {W w : World} {a : GA} {m : Mg} {B : Nat}, m.Wide → RdG w B a m → Below W.heap.size W w → Calls Try.prog 7 #[msgV a m] w (GotIn W w m.enc)
def DecodeC11 : Prop := ∀ {W w : World} {A : Option Addr} {n c B : Nat} {l : List Nat}, l.length ≤ 2000000 → (∀ x ∈ l, x < 256) → Rd w B A n (bv l) → Below W.heap.size W w → Calls Try.prog 8 #[.slice A n c] w (GotG W w (Mg.dec l))
def SameC11 : Prop := ∀ (w : World) {a a' : GA} {m m' : Mg} {B B' : Nat}, m.Wide → m'.Wide → RdG w B a m → RdG w B' a' m' → Calls Try.prog 13 #[msgV a m, msgV a' m'] w fun e w' => e = .returned (.bool (decide (m = m'))) ∧ Below w.heap.size w w'
def AwakeC11 : Prop := ∀ (w : World), Calls Try.prog 9 #[] w fun e w' => e = .returned (.bool true) ∧ Below w.heap.size w w'
theorem EncodeC11.is (h : EncodeC11) {W w : World} {a : GA} {m : Mg} {B : Nat} {l : List Nat} (he : m.enc = l) (hM : m.Wide) (hr : RdG w B a m) (hB : Below W.heap.size W w) : Calls Try.prog 7 #[msgV a m] w (GotIn W w l) := by subst he; exact h hM hr hB
theorem DecodeC11.is (h : DecodeC11) {W w : World} {A : Option Addr} {n c B : Nat} {l : List Nat} {r : Option Mg} (he : Mg.dec l = r) (hl : l.length ≤ 2000000) (hb : ∀ x ∈ l, x < 256) (hr : Rd w B A n (bv l)) (hB : Below W.heap.size W w) : Calls Try.prog 8 #[.slice A n c] w (GotG W w r) := by subst he; exact h hl hb hr hB
theorem SameC11.is (h : SameC11) (w : World) {a a' : GA} {m m' : Mg} {B B' : Nat} {b : Bool} (hb : decide (m = m') = b) (hM : m.Wide) (hM' : m'.Wide) (hr : RdG w B a m) (hr' : RdG w B' a' m') : Calls Try.prog 13 #[msgV a m, msgV a' m'] w fun e w' => e = .returned (.bool b) ∧ Below w.heap.size w w' := by subst hb; exact h w hM hM' hr hr'
end Go.Proofs.Ytijcbbommaeejaa

namespace Go.Proofs.Ytijcbbommaeejaa
open Go.RowKit
set_option linter.unusedVariables false
/-- blocks of other types than bytes stay as they are -/
structure OnlyB (w w' : World) : Prop where
  size : w.heap.size ≤ w'.heap.size
  blk : ∀ {g : Nat} {t : TypeId} {cs : Array Value}, 5 ≠ t → Blk w g t cs → Blk w' g t cs
section
variable {W w w' w'' : World} {A : Option Addr} {n c : Nat} {l : List Nat}
theorem OnlyB.trans (h : OnlyB w w') (h' : OnlyB w' w'') : OnlyB w w'' := ⟨Nat.le_trans h.size h'.size, fun hn hb => h'.blk hn (h.blk hn hb)⟩
theorem OnlyB.of_below (h : Below w.heap.size w w') : OnlyB w w' := ⟨h.size, fun _ hb => hb.below h⟩
theorem OnlyB.grown {base : Nat} {xs : List Value} (h : w.ownsRow base 5 1 (.slice A n c) n xs) (hg : w.grownBy w' (Value.slice A n c).ownBlock) : OnlyB w w' :=
  ⟨hg.size, fun hn hb => hb.apart_own h (Ne.symm hn) hg⟩
theorem RdT.onlyB {e : TypeId} {vs : List Value} (h : RdT w e A n vs) (hb : OnlyB w w') (hne : 5 ≠ e) : RdT w' e A n vs :=
  ⟨h.1, fun hn => by obtain ⟨g, o, cur, e1, hk, hc⟩ := h.2 hn; exact ⟨g, o, cur, e1, hb.blk hne hk, hc⟩⟩
end
/-- l, in a row of W's own that may have been there -/
def GotPut (W w : World) (l : List Nat) (e : Ending) (w' : World) : Prop := ∃ A c, e = .returned (.slice A l.length c) ∧ OwnB W w' A l.length c l ∧ Below W.heap.size W w' ∧ OnlyB w w'
set_option maxRecDepth 100000 in
theorem putNum_any {W w : World} {A : Option Addr} {n c : Nat} {l : List Nat} (z : Int) (hl : l.length ≤ 1000000) (ho : OwnB W w A n c l) (hB : Below W.heap.size W w) :
    Calls Try.prog 69 #[.slice A n c, .int .i64 z] w (GotPut W w (l ++ Pk.enc (Pk.held z))) := by
  obtain rfl := own_len ho
  have HO := Lib.hid ho
  have HB := Lib.hid hB
  have HX : Hid (∀ w, Below W.heap.size W w → Calls Try.prog 64 #[.slice none 0 0, .int .i64 z] w fun e w' => ∃ A n c, e = .returned (.slice A n c) ∧ OwnB W w' A n c (Pk.enc (Pk.held z)) ∧ Below W.heap.size W w' ∧ Below w.heap.size w w') :=
    Lib.hid (fun w hb => put_in (W := W) (l := []) (B := 0) (n := 0) (by unfold Lim; omega) (Rd.none_ _ _ _) hb rfl)
  obtain ⟨x, hx⟩ : ∃ x, Pk.enc (Pk.held z) = x := ⟨_, rfl⟩
  have hxl : x.length ≤ 9 := by rw [← hx]; exact (Pk.enc_length _).2
  rw [hx] at HX ⊢
  clear ho hB hx
  go_enter Try.func69, Try.ntmps69
  go_wp2_with (first
    | (go_at_call 64; refine (HX.out _ HB.out).mono ?_; rintro e w1 ⟨A1, n1, c1, rfl, ho1, hB1, hb1⟩; obtain rfl := own_len ho1)
    | (at_builtin
       refine wpList_append_cells (W := W) cellB (.tmp 5) (.tmp 7) rfl (by rfl) rfl (own_below HO.out hb1) rfl (Rd.own_ ho1) (bv_one _) (by omega) (by omega) hB1 ?_
       intro A3 c3 w3 hown3 hB3 hg3)
    | fail)
  go_ret
  rw [← bv_app] at hown3
  refine ⟨A3, c3, by rw [List.length_append]; rfl, by rw [List.length_append]; exact hown3, hB3, (OnlyB.of_below hb1).trans (OnlyB.grown (own_below HO.out hb1) hg3)⟩
end Go.Proofs.Ytijcbbommaeejaa

