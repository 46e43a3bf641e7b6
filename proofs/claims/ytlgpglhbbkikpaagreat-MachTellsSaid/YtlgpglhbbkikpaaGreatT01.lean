/- Mem Mem2 OwnKit ResKit QKit Ref4Kit OwnrefKit FifoRef RegsMath StepKit IntKit StructKit PairKit MapsMath MapsInv ObjKit LastKit SessMath -/
import Derived.Test.YtlgpglhbbkikpaaGreatT00
import Derived.Below
import Derived.Deep.AppendLies
import Derived.Deep.Draws
import Derived.Laws.OwnMore
import Derived.Lib.SlBytesConst
import Derived.Maps.AppendAt
import Derived.OpenShut
import Derived.OwnWalk
import Derived.ProofKit
import Derived.WalkKit
import Derived.Laws.BytesArg
import Derived.Laws.Rows
import Derived.Lib.Hide
import Derived.Deep.RegionWith
import Derived.IntWalk
import Derived.Laws.BitsAllLaws
import Derived.Outline
import Derived.Test.YtlgpglhbbkikpaaGreatRows
import Derived.WalkLawsBesides
import Derived.WalkSpells
import Derived.Deep.Matrix
import Derived.BigQuiet
import Derived.Deep.DeepCutAuto
import Derived.Deep.DrawnRows
import Derived.Deep.QuietTactic
import Derived.Deep.RegionHeld3
import Derived.Deep.RegionLaw
namespace Go.Proofs.YtlgpglhbbkikpaaGreat
open Go.RowKit
def Rd (w : World) (B : Nat) (a : Option Addr) (n : Nat) (vs : List Value) : Prop :=
 vs.length = n /\ (0 < n -> ∃ b o, a = some ⟨b, o, none⟩ /\ b < B /\ ∀ i, i < n -> w.cell? ⟨b, o + i, none⟩ = vs[i]?)
def bv (l : List Nat) : List Value := l.map fun (x : Nat) => Value.int .u8 (x : Int)
theorem bv_get {l : List Nat} {k : Nat} (h : k < l.length) : (bv l)[k]? = some (.int .u8 (l[k] : Int)) := by
 unfold bv; rw [List.getElem?_map, List.getElem?_eq_getElem h]; rfl
theorem bv_length (l : List Nat) : (bv l).length = l.length := by simp [bv]
theorem bv_append (l m : List Nat) : bv (l ++ m) = bv l ++ bv m := by simp [bv]
theorem ret_int {k : IntKind} {a b : Int} (h : a = b) : Ending.returned (.int k a) = .returned (.int k b) := by rw [h]
theorem ret_bool {a b : Bool} (h : a = b) : Ending.returned (.bool a) = .returned (.bool b) := by rw [h]
section
variable {w w' : World} {B n : Nat} {a : Option Addr} {vs : List Value} {l : List Nat}
theorem Rd.none_ (w : World) (B : Nat) (a : Option Addr) : Rd w B a 0 [] := ⟨rfl, fun h => absurd h (by omega)⟩
theorem Rd.keep {B' : Nat} (h : Rd w B a n vs) (hk : ∀ p : Addr, p.block < B -> w'.cell? p = w.cell? p) (hB : B <= B') : Rd w' B' a n vs :=
 ⟨h.1, fun hn => by
   obtain ⟨b, o, e, hb, hc⟩ := h.2 hn
   exact ⟨b, o, e, by omega, fun i hi => (hk _ hb).trans (hc i hi)⟩⟩
theorem Rd.below (h : Rd w B a n vs) (hb : Below B w w') : Rd w' B a n vs := h.keep (fun _ hp => hb.cell hp) lR
theorem Rd.take (h : Rd w B a n vs) {k : Nat} (hk : k <= n) : Rd w B a k (vs.take k) :=
 ⟨by rw [List.length_take, h.1]; omega, fun hp => by
   obtain ⟨b, o, e, hb, hc⟩ := h.2 (by omega)
   exact ⟨b, o, e, hb, fun i hi => by rw [hc i (by omega), List.getElem?_take_of_lt hi]⟩⟩
theorem bv_take (l : List Nat) (k : Nat) : bv (l.take k) = (bv l).take k := by simp [bv]
theorem Rd.drew (h : Rd w B a n vs) : Rd w.drew B a n vs := h
theorem Rd.drewN (h : Rd w B a n vs) (k : Nat) : Rd (w.drewN k) B a n vs := h
theorem Rd.alloc (h : Rd w B a n vs) (hB : B <= w.heap.size) (o : Obj) : Rd (w.alloc o) B a n vs := h.below ((Below.refl _ _).alloc hB _)
theorem Rd.bytes_at {k : Nat} (h : Rd w B a n (bv l)) (hk : k < n) : ∃ b o, a = some ⟨b, o, none⟩ /\ ∃ hk' : k < l.length, w.cell? ⟨b, o + k, none⟩ = some (.int .u8 (l[k] : Int)) := by
 obtain ⟨b, o, e, _, hc⟩ := h.2 (by omega)
 have hl : k < l.length := by have := h.1; rw [bv_length] at this; omega
 exact ⟨b, o, e, hl, by rw [hc k hk, bv_get hl]⟩
theorem Rd.length (h : Rd w B a n (bv l)) : l.length = n := by have := h.1; rwa [bv_length] at this
theorem Rd.made (w : World) (cs : Array Value) (t : TypeId) (mark : Nat × Nat) (n : Nat) (hn : cs.size = n) : Rd (w.alloc (.cells cs t mark)) (w.heap.size + 1) (some ⟨w.heap.size, 0, none⟩) n cs.toList :=
 ⟨by simpa using hn, fun _ => ⟨_, _, rfl, by omega, fun i hi => by rw [Nat.zero_add, World.cell?_alloc_mark]; simp⟩⟩
end
theorem Rd.one (w : World) (x : Nat) (t : TypeId) : Rd (w.alloc (.cells #[.int .u8 (x : Int)] t)) (w.heap.size + 1) (some ⟨w.heap.size, 0, none⟩) 1 (bv [x]) := Rd.made w #[.int .u8 (x : Int)] t (0, 0) 1 rfl
theorem Rd.oneCell {l : List Nat} : ∀ u ∈ bv l, u.oneCell' = true := by
 intro u hu
 obtain ⟨x, _, rfl⟩ := List.mem_map.1 hu
 rfl
theorem run_append_rd {P : Program} (w : World) (base : Nat) (t ty e : TypeId) (i : TypeInfo) (z : Value) (bytes : Nat) (ht : P.underlying t = some (.slice e)) (hi : P.info? e = some i) (hz : i.zero = some z)
 (hsize : i.size = 1) (hby : i.bytes = bytes) (hzs : z.cells.size = 1)
 (v : Value) (n : Nat) (xs : List Value) (hown : w.ownsRow base e 1 v n xs)
 (B : Nat) (a : Option Addr) (m c : Nat) (vs : List Value) (hr : Rd w B a m vs) (h1 : ∀ u ∈ vs, u.oneCell' = true)
 (h63 : n + m <= maxLen) (hbytes : (n + m) * bytes <= 140737488355328) (hbase : base <= w.heap.size) :
 ∃ v' w', (Builtin.append_ #[t, t] ty #[v, .slice a m c]).run P w = .ok v' w' /\ w'.ownsRow base e 1 v' (n + m) (xs ++ vs) /\ w.grownBy w' v.ownBlock ∧
  (v'.ownBlock = v.ownBlock \/ v'.ownBlock = some w.heap.size) := by
 rcases Nat.eq_zero_or_pos m with h0 | h0
 · subst h0
   have hn : vs = [] := List.eq_nil_of_length_eq_zero hr.1
   subst hn
   cases a with
   | none =>
     refine ⟨v, w, ?_, by simpa using hown, World.grownBy.refl w _, .inl rfl⟩
     rcases hown.2 with ⟨rfl, rfl⟩ | ⟨g, cap, cur, rfl, _, _, hnc, _⟩
     · simp [Builtin.append_, run_underlying ht, sizeOf, typeInfo, hi, Builtin.lenOf, Builtin.firstCells]
     · simp [Builtin.append_, run_underlying ht, sizeOf, typeInfo, hi, Builtin.lenOf, Builtin.firstCells, hnc, storeCells]
   | some ad =>
     obtain ⟨v', w', hrun, h2, h3, _, h5⟩ := run_append_own_at (P := P) w base t ty e i z 1 bytes ht hi hz hsize hby hzs (by omega) v n xs hown ad 0 c [] rfl (by simp) h1 h63 hbytes hbase
     exact ⟨v', w', hrun, h2, h3, h5⟩
 · obtain ⟨b, o, rfl, _, hc⟩ := hr.2 h0
   have hadd : ∀ j, (⟨b, o, none⟩ : Addr).add j = ⟨b, o + j, none⟩ := fun j => by unfold Addr.add; split <;> simp_all
   obtain ⟨v', w', hrun, h2, h3, _, h5⟩ := run_append_own_at (P := P) w base t ty e i z 1 bytes ht hi hz hsize hby hzs (by omega) v n xs hown ⟨b, o, none⟩ m c vs (by rw [hr.1, Nat.mul_one])
    (fun j u hu => by
      have hj : j < m := by have := (List.getElem?_eq_some_iff.1 hu).1; rw [hr.1] at this; exact this
      rw [hadd, hc j hj, hu]) h1 h63 hbytes hbase
   exact ⟨v', w', hrun, h2, h3, h5⟩
theorem own_addr {w : World} {base n c : Nat} {e : TypeId} {A : Option Addr} {vs : List Value} (h : w.ownsRow base e 1 (.slice A n c) n vs) (hn : 0 < n) : ∃ g, A = some ⟨g, 0, none⟩ /\ base <= g /\ g < w.heap.size := by
 obtain ⟨g, cap, hv, hb, hlt⟩ := h.form hn
 injection hv with h1
 exact ⟨g, h1, hb, hlt⟩
theorem own_byte {w : World} {base n c g : Nat} {e : TypeId} {l : List Nat} (h : w.ownsRow base e 1 (.slice (some ⟨g, 0, none⟩) n c) n (bv l)) {j : Nat} (hj : j < n) : w.cell? ⟨g, j, none⟩ = some (.int .u8 ((l.getD j 0 : Nat) : Int)) := by
 have hl : l.length = n := by have := h.1; rw [bv_length] at this; omega
 rw [h.cellAt j (by omega), bv_get (by omega), List.getD_eq_getElem?_getD, List.getElem?_eq_getElem (by omega)]; rfl
theorem own_set {w : World} {base n c g : Nat} {e : TypeId} {l : List Nat} (h : w.ownsRow base e 1 (.slice (some ⟨g, 0, none⟩) n c) n (bv l)) (j x : Nat) :
 (w.setCell ⟨g, j, none⟩ (.int .u8 (x : Int))).ownsRow base e 1 (.slice (some ⟨g, 0, none⟩) n c) n (bv (l.set j x)) := by
 have := (h.stored j (.int .u8 (x : Int))).1
 unfold bv at this |-
 rw [List.map_set]
 exact this
theorem Rd.of_own {w : World} {base n : Nat} {e : TypeId} {v : Value} {vs : List Value} (h : w.ownsRow base e 1 v n vs) : ∃ a c, v = .slice a n c /\ Rd w w.heap.size a n vs := by
 have hl : vs.length = n := by simpa using h.1
 rcases h.2 with ⟨rfl, rfl⟩ | ⟨g, cap, cur, rfl, _, hh, hnc, hm, hs, ht⟩
 · exact ⟨none, 0, rfl, by rw [List.eq_nil_of_length_eq_zero hl]; exact Rd.none_ _ _ _⟩
 · have hlt : g < w.heap.size := by
    rcases Nat.lt_or_ge g w.heap.size with h' | h'
    · exact h'
    · rw [Array.getElem?_eq_none h'] at hh; cases hh
   refine ⟨_, cap, rfl, hl, fun _ => ⟨g, 0, rfl, hlt, fun i hi => ?_⟩⟩
   have h1 := h.cellAt i (by omega)
   rw [Nat.zero_add]
   exact h1
theorem Rd.own_ {w : World} {base n c : Nat} {e : TypeId} {A : Option Addr} {vs : List Value} (h : w.ownsRow base e 1 (.slice A n c) n vs) : Rd w w.heap.size A n vs := by
 obtain ⟨a, c', hv, hr⟩ := Rd.of_own h
 injection hv with h1
 subst h1
 exact hr
structure ByteT (P : Program) (t e : TypeId) : Prop where
 under : P.underlying t = some (.slice e)
 info : (P.info? e).map (fun i => (i.zero, i.size, i.bytes)) = some (some (.int .u8 0), 1, 1)
section
variable {P : Program} {t e : TypeId}
theorem wpList_append_bytes {W w : World} (hT : ByteT P t e) {ops : Array Oper} {rest : List Oper} {o : Oper} {a : Act} {Q : Exit -> Act -> World -> Prop} (s x : Operand)
 (ho : o.op = .call { callee := .builtin .append, args := #[s, x], argTypes := #[t, t] }) (hw : Region.wanted o (yielded ops a.tmps) = true)
 {A : Option Addr} {n c : Nat} {l : List Nat} (hs : a.eval s = .slice A n c) (hown : w.ownsRow W.heap.size e 1 (.slice A n c) n (bv l))
 {B : Nat} {A' : Option Addr} {m c' : Nat} {l' : List Nat} (hx : a.eval x = .slice A' m c') (hr : Rd w B A' m (bv l')) (hnm : n + m <= 1099511627776) (hB : Below W.heap.size W w)
 (h : ∀ A2 c2 w2, w2.ownsRow W.heap.size e 1 (.slice A2 (n + m) c2) (n + m) (bv (l ++ l')) -> Rd w2 w2.heap.size A2 (n + m) (bv (l ++ l')) -> Below W.heap.size W w2 -> wpList P ops Q rest (a.put o.dst (.slice A2 (n + m) c2)) w2) :
 wpList P ops Q (o :: rest) a w := by
 obtain ⟨i, hi, hz, hsz, hby⟩ := info_parts hT.info
 obtain ⟨v', w', hrun, h2, h3, h4⟩ := run_append_rd (P := P) w W.heap.size t o.type e i (.int .u8 0) 1 hT.under hi hz hsz hby rfl _ n (bv l) hown B A' m c' (bv l') hr Rd.oneCell
  (by unfold maxLen; omega) (by omega) hB.size
 have hlt := hown.lt
 have hB2 : Below W.heap.size W w' := hB.grown h3 hB.size (fun k hk => (hlt k hk).1)
 rw [<- bv_append] at h2
 obtain ⟨A2, c2, rfl, hr2⟩ := Rd.of_own h2
 have hgo := h A2 c2 w' h2 hr2 hB2
 unfold wpList
 rw [if_pos hw]
 refine Or.inl ?_
 unfold Oper.wp execOp
 simp only [ho, resolve, invoke, builtin, Sem.run_bind, Sem.run_pure, Result.andThen_ok, List.map_toArray, List.map_cons, List.map_nil, hs, hx, hrun]
 exact hgo
theorem own_empty {W w : World} (hB : Below W.heap.size W w) (t : TypeId) : (w.alloc (.cells #[] t)).ownsRow W.heap.size t 1 (.slice (some ⟨w.heap.size, 0, none⟩) 0 0) 0 (bv []) :=
 World.ownsRow_made w #[] 0 hB.size (by decide) rfl
end
def sb (s : ByteArray) : List Nat := s.data.toList.map UInt8.toNat
theorem sb_lt (s : ByteArray) : ∀ x ∈ sb s, x < 256 := by
 intro x hx
 obtain ⟨u, _, rfl⟩ := List.mem_map.1 hx
 exact UInt8.toNat_lt u
theorem Rd.of_string (w : World) (s : ByteArray) (cap : Nat) (t : TypeId) (mark : Nat × Nat) : Rd (w.alloc (.cells (bytesRow s cap) t mark)) (w.heap.size + 1) (some ⟨w.heap.size, 0, none⟩) s.size (bv (sb s)) := by
 have hl : (sb s).length = s.size := by unfold sb; rw [List.length_map, Array.length_toList]; rfl
 refine ⟨by rw [bv_length, hl], fun _ => ⟨_, _, rfl, by omega, fun i hi => ?_⟩⟩
 have e : (w.alloc (.cells (bytesRow s cap) t mark)).cell? ⟨w.heap.size, 0 + i, none⟩ = (bytesRow s cap)[0 + i]? := World.cell?_alloc_mark w _ _ _ _
 rw [e, Nat.zero_add, bytesRow_at s cap i hi, bv_get (by omega)]
 unfold sb
 rw [List.getElem_map, Array.getElem_toList]
def IsRow (k : IntKind) (w : World) (a : Option Addr) (len cap : Nat) (zs : List Int) : Prop :=
 (a = none /\ len = 0 /\ cap = 0 /\ zs = []) ∨
 ∃ x, a = some x /\ len <= cap /\ cap <= maxLen /\ zs.length = cap /\ (∀ i, i < zs.length -> w.cell? (x.add i) = some (.int k (zs.getD i 0))) /\ ∀ n ∈ zs, (Lit.int k n).wf = true
theorem u8_nat {n : Int} (h : (Lit.int .u8 n).wf = true) : ∃ k : Nat, n = k /\ k < 256 := by
 have := bounds_u8 h
 exact ⟨n.toNat, by omega, by omega⟩
theorem nats_of {zs : List Int} (h : ∀ n ∈ zs, (Lit.int .u8 n).wf = true) : ∃ l : List Nat, (∀ x ∈ l, x < 256) /\ zs = l.map fun (x : Nat) => (x : Int) := by
 induction zs with
 | nil => exact ⟨[], by simp, rfl⟩
 | cons z zs ih =>
   obtain ⟨l, hl, rfl⟩ := ih fun n hn => h n (by simp [hn])
   obtain ⟨k, rfl, hk⟩ := u8_nat (h z (by simp))
   exact ⟨k :: l, by simpa using ⟨hk, hl⟩, rfl⟩
theorem IsRow.rd {w : World} {a : Option Addr} {len cap : Nat} {zs : List Int} (h : IsRow .u8 w a len cap zs) :
 ∃ l : List Nat, (∀ x ∈ l, x < 256) /\ Rd w w.heap.size a len (bv l) /\ len <= cap /\ cap <= maxLen := by
 rcases h with ⟨rfl, rfl, rfl, rfl⟩ | ⟨x, rfl, hl, hm, hz, hc, hw⟩
 · exact ⟨[], by simp, Rd.none_ _ _ _, Nat.le_refl _, by decide⟩
 · obtain ⟨l, hb, rfl⟩ := nats_of hw
   have hz' : l.length = cap := by simpa using hz
   refine ⟨l.take len, fun x hx => hb x (List.mem_of_mem_take hx), ⟨by rw [bv_length, List.length_take]; omega, fun hn => ?_⟩, hl, hm⟩
   obtain ⟨b, o, s⟩ := x
   have h0 := hc 0 (by simp; omega)
   have hs : s = none := by simpa [Addr.add] using World.cell?_spot h0
   subst hs
   have hlt : b < w.heap.size := by
    rcases Nat.lt_or_ge b w.heap.size with h' | h'
    · exact h'
    · simp [World.cell?, Addr.add, Array.getElem?_eq_none h'] at h0
   refine ⟨b, o, rfl, hlt, fun i hi => ?_⟩
   have hi' : i < l.length := by omega
   have := hc i (by simpa using hi')
   have e : (⟨b, o, none⟩ : Addr).add i = ⟨b, o + i, none⟩ := by unfold Addr.add; split <;> simp_all
   have g : (List.map (fun (x : Nat) => (x : Int)) l).getD i 0 = ((l[i] : Nat) : Int) := by
    rw [List.getD_eq_getElem?_getD, List.getElem?_map, List.getElem?_eq_getElem hi']; rfl
   rw [e, g] at this
   rw [bv_get (by rw [List.length_take]; omega), this]
   simp
set_option linter.unusedVariables false
def Blk (w : World) (g : Nat) (t : TypeId) (cs : Array Value) : Prop := w.heap[g]? = some (.cells cs t (0, 0))
section
variable {w w' : World} {g : Nat} {t : TypeId} {cs : Array Value}
theorem Blk.lt (h : Blk w g t cs) : g < w.heap.size := by
 unfold Blk at h
 exact (Array.getElem?_eq_some_iff.1 h).1
theorem Blk.cell (h : Blk w g t cs) (i : Nat) : w.cell? ⟨g, i, none⟩ = cs[i]? := by
 unfold Blk at h
 simp [World.cell?, h]
theorem Blk.frozen (h : Blk w g t cs) (i : Nat) : w.frozen? ⟨g, i, none⟩ = false := by
 unfold Blk at h
 simp [World.frozen?, h]
theorem Blk.new (w : World) (t : TypeId) (cs : Array Value) : Blk (w.alloc (.cells cs t)) w.heap.size t cs := heap_alloc_new w _
theorem Blk.drew (h : Blk w g t cs) : Blk w.drew g t cs := h
theorem Blk.alloc (h : Blk w g t cs) (o : Obj) : Blk (w.alloc o) g t cs := (Below.heap_alloc w o g h.lt).trans h
theorem Blk.set_ (h : Blk w g t cs) (i : Nat) (u : Value) : Blk (w.setCell ⟨g, i, none⟩ u) g t (cs.setIfInBounds i u) := by
 unfold Blk at h |-
 simp [World.setCell, Array.getElem?_modify, h]
theorem Blk.grown {row : Option Nat} (h : Blk w g t cs) (hb : w.grownBy w' row) (hg : some g ≠ row) : Blk w' g t cs := (hb.block g h.lt hg).trans h
theorem Blk.below (h : Blk w g t cs) (hb : Below w.heap.size w w') : Blk w' g t cs := (hb.block g h.lt).trans h
theorem Blk.apart {g' : Nat} {t' : TypeId} {cs' : Array Value} (h : Blk w g t cs) (h' : Blk w g' t' cs') (hne : t ≠ t') : g ≠ g' := by
 intro he
 subst he
 unfold Blk at h h'
 rw [h] at h'
 injection h' with h'
 injection h' with _ ht
 exact hne ht
end
def RdT (w : World) (e : TypeId) (A : Option Addr) (n : Nat) (vs : List Value) : Prop :=
 vs.length = n /\ (0 < n -> ∃ g o cur, A = some ⟨g, o, none⟩ /\ Blk w g e cur /\ ∀ i, i < n -> cur[o + i]? = vs[i]?)
section
variable {w w' : World} {e : TypeId} {A : Option Addr} {n : Nat} {vs : List Value} {l : List Nat}
theorem RdT.none_ (w : World) (e : TypeId) (A : Option Addr) : RdT w e A 0 [] := ⟨rfl, fun h => absurd h (by omega)⟩
theorem RdT.rd (h : RdT w e A n vs) : Rd w w.heap.size A n vs :=
 ⟨h.1, fun hn => by
   obtain ⟨g, o, cur, e1, hb, hc⟩ := h.2 hn
   exact ⟨g, o, e1, hb.lt, fun i hi => (hb.cell _).trans (hc i hi)⟩⟩
theorem RdT.grown {b : Nat} {t : TypeId} {cs : Array Value} (h : RdT w e A n vs) (hg : w.grownBy w' (some b)) (hb : Blk w b t cs) (hne : e ≠ t) : RdT w' e A n vs :=
 ⟨h.1, fun hn => by
   obtain ⟨g, o, cur, e1, hk, hc⟩ := h.2 hn
   exact ⟨g, o, cur, e1, hk.grown hg (by intro he; injection he with he; exact hk.apart hb hne he), hc⟩⟩
theorem RdT.below (h : RdT w e A n vs) (hb : Below w.heap.size w w') : RdT w' e A n vs :=
 ⟨h.1, fun hn => by
   obtain ⟨g, o, cur, e1, hk, hc⟩ := h.2 hn
   exact ⟨g, o, cur, e1, hk.below hb, hc⟩⟩
theorem RdT.own {base c : Nat} (h : w.ownsRow base e 1 (.slice A n c) n vs) : RdT w e A n vs := by
 refine ⟨by simpa using h.1, fun hn => ?_⟩
 rcases h.2 with ⟨h1, h2⟩ | ⟨g, cap, cur, hv, _, hh, hnc, _, hs, ht⟩
 · omega
 · injection hv with h1
   refine ⟨g, 0, cur, h1, hh, fun i hi => ?_⟩
   have e1 : cur.toList[i]? = vs[i]? := by rw [<- ht, List.getElem?_take_of_lt (by omega)]
   rw [Nat.zero_add, <- e1]; simp
theorem RdT.alloc (h : RdT w e A n vs) (o : Obj) : RdT (w.alloc o) e A n vs := h.below ((Below.refl _ _).alloc lR o)
theorem own_cap {base c size : Nat} (h : w.ownsRow base e size (.slice A n c) n vs) : n <= c /\ c <= maxLen := by
 rcases h.2 with ⟨h1, h2⟩ | ⟨g, cap, cur, hv, _, hh, hnc, hm, hs, ht⟩
 · injection h1 with _ _ h3
   subst h3
   exact ⟨by omega, by unfold maxLen; omega⟩
 · injection hv with _ _ h3
   subst h3
   exact ⟨hnc, hm⟩
def cutAt (A : Option Addr) (c k : Nat) : Option Addr := if c = k then A else A.map (·.add k)
theorem RdT.drop (h : RdT w e A n vs) {k c : Nat} (hk : k <= n) (hc : n <= c) : RdT w e (cutAt A c k) (n - k) (vs.drop k) := by
 refine ⟨by rw [List.length_drop, h.1], fun hn => ?_⟩
 obtain ⟨g, o, cur, rfl, hb, hcell⟩ := h.2 (by omega)
 unfold cutAt
 rw [if_neg (by omega)]
 refine ⟨g, o + k, cur, ?_, hb, fun i hi => ?_⟩
 · show some ((⟨g, o, none⟩ : Addr).add k) = _
   congr 1
   unfold Addr.add; split <;> simp_all
 · rw [Nat.add_assoc, hcell (k + i) (by omega), List.getElem?_drop]
theorem RdT.take (h : RdT w e A n vs) {k : Nat} (hk : k <= n) : RdT w e A k (vs.take k) :=
 ⟨by rw [List.length_take, h.1]; omega, fun hp => by
   obtain ⟨g, o, cur, e1, hb, hc⟩ := h.2 (by omega)
   exact ⟨g, o, cur, e1, hb, fun i hi => by rw [hc i (by omega), List.getElem?_take_of_lt hi]⟩⟩
theorem Rd.drop {B : Nat} (h : Rd w B A n vs) {k c : Nat} (hk : k <= n) (hc : n <= c) : Rd w B (cutAt A c k) (n - k) (vs.drop k) := by
 refine ⟨by rw [List.length_drop, h.1], fun hn => ?_⟩
 obtain ⟨g, o, rfl, hb, hcell⟩ := h.2 (by omega)
 unfold cutAt
 rw [if_neg (by omega)]
 refine ⟨g, o + k, ?_, hb, fun i hi => ?_⟩
 · show some ((⟨g, o, none⟩ : Addr).add k) = _
   congr 1
   unfold Addr.add; split <;> simp_all
 · rw [Nat.add_assoc, hcell (k + i) (by omega), List.getElem?_drop]
theorem Rd.fit {B : Nat} (h : Rd w B A n vs) : Rd w w.heap.size A n vs :=
 ⟨h.1, fun hn => by
   obtain ⟨g, o, e1, _, hc⟩ := h.2 hn
   have h0 := hc 0 hn
   rw [List.getElem?_eq_getElem (by rw [h.1]; exact hn)] at h0
   exact ⟨g, o, e1, World.block_lt_of_cell? w _ h0, hc⟩⟩
theorem bv_drop (l : List Nat) (k : Nat) : bv (l.drop k) = (bv l).drop k := by simp [bv]
theorem Rd.grown {B b : Nat} (h : Rd w B A n vs) (hg : w.grownBy w' (some b)) (hB : B <= b) (hs : B <= w.heap.size) : Rd w' B A n vs :=
 h.keep (fun p hp => World.cell?_of_block (hg.block p.block (by omega) (by intro he; injection he with he; omega))) lR
end
theorem Rd.oneI (w : World) {v : Int} {x : Nat} (h : v = (x : Int)) (t : TypeId) : Rd (w.alloc (.cells #[.int .u8 v] t)) (w.heap.size + 1) (some ⟨w.heap.size, 0, none⟩) 1 (bv [x]) := by
 subst h; exact Rd.one w x t
theorem run_slice_from {P : Program} {t e : TypeId} {i : TypeInfo} (ht : P.underlying t = some (.slice e)) (hi : P.info? e = some i) (hs : i.size = 1) (A : Option Addr) (n c k : Nat) (hk : k <= n) (w : World) :
 (Instr.slice t (.slice A n c) (some (.int .i64 (k : Int))) none none).run P w = .ok (.slice (cutAt A c k) (n - k) (c - k)) w := by
 simp [Instr.slice, run_underlying ht, Instr.sliceBounds, Instr.sliceBound, asIntOf, hk, sizeOf, typeInfo, hi, hs, cutAt]
theorem run_slice_to {P : Program} {t e : TypeId} {i : TypeInfo} (ht : P.underlying t = some (.slice e)) (hi : P.info? e = some i) (A : Option Addr) (n c k : Nat) (hk : k <= c) (w : World) :
 (Instr.slice t (.slice A n c) none (some (.int .i64 (k : Int))) none).run P w = .ok (.slice A k c) w := by
 have h2 : ∀ x : Addr, x.add 0 = x := by intro x; simp [Addr.add]
 have h3 : (fun (x : Addr) => x.add 0) = id := funext h2
 simp [Instr.slice, run_underlying ht, Instr.sliceBounds, Instr.sliceBound, asIntOf, hk, sizeOf, typeInfo, hi, h3]
structure CellT (P : Program) (t e : TypeId) (z : Value) (bytes : Nat) : Prop where
 under : P.underlying t = some (.slice e)
 info : (P.info? e).map (fun i => (i.zero, i.size, i.bytes)) = some (some z, 1, bytes)
 one : z.cells.size = 1
theorem own_blk {w : World} {base n c size : Nat} {e : TypeId} {A : Option Addr} {vs : List Value} (h : w.ownsRow base e size (.slice A n c) n vs) :
 (A = none /\ n = 0 /\ vs = []) \/ ∃ g cur, A = some ⟨g, 0, none⟩ /\ base <= g /\ Blk w g e cur := by
 rcases h.2 with ⟨h1, h2⟩ | ⟨g, cap, cur, hv, hb, hh, _⟩
 · injection h1 with h1
   subst h2
   exact .inl ⟨h1, rfl, List.eq_nil_of_length_eq_zero (by simpa using h.1)⟩
 · injection hv with h1
   exact .inr ⟨g, cur, h1, hb, hh⟩
theorem RdT.kept {w w' : World} {e e' : TypeId} {A A' : Option Addr} {n n' c' base size : Nat} {vs xs : List Value} (h : RdT w e A n vs) (ho : w.ownsRow base e' size (.slice A' n' c') n' xs) (hne : e ≠ e')
 (hg : w.grownBy w' (Value.slice A' n' c').ownBlock) : RdT w' e A n vs := by
 refine ⟨h.1, fun hn => ?_⟩
 obtain ⟨g, o, cur, e1, hk, hc⟩ := h.2 hn
 refine ⟨g, o, cur, e1, hk.grown hg ?_, hc⟩
 rcases own_blk ho with ⟨rfl, _, _⟩ | ⟨g', cur', rfl, _, hk'⟩
 · intro h0; cases h0
 · intro h0
   have h1 : g = g' := by simpa [Value.ownBlock] using h0
   exact hk.apart hk' hne h1
theorem ownsRow_below {w w' : World} {base n size : Nat} {e : TypeId} {v : Value} {vs : List Value} (h : w.ownsRow base e size v n vs) (hb : Below w.heap.size w w') : w'.ownsRow base e size v n vs := by
 obtain ⟨h1, h2⟩ := h
 refine ⟨h1, ?_⟩
 rcases h2 with h2 | ⟨g, cap, cur, hv, hg, hh, r⟩
 · exact .inl h2
 · exact .inr ⟨g, cap, cur, hv, hg, (hb.block g (Blk.lt hh)).trans hh, r⟩
section
variable {P : Program} {t e : TypeId} {z : Value} {bytes : Nat}
theorem wpList_append_cells {W w : World} (hT : CellT P t e z bytes) {ops : Array Oper} {rest : List Oper} {o : Oper} {a : Act} {Q : Exit -> Act -> World -> Prop} (s x : Operand)
 (ho : o.op = .call { callee := .builtin .append, args := #[s, x], argTypes := #[t, t] }) (hw : Region.wanted o (yielded ops a.tmps) = true)
 {A : Option Addr} {n c : Nat} {vs : List Value} (hs : a.eval s = .slice A n c) (hown : w.ownsRow W.heap.size e 1 (.slice A n c) n vs)
 {B : Nat} {A' : Option Addr} {m c' : Nat} {ws : List Value} (hx : a.eval x = .slice A' m c') (hr : Rd w B A' m ws) (h1 : ∀ u ∈ ws, u.oneCell' = true) (hnm : n + m <= 1099511627776) (hby : bytes <= 64) (hB : Below W.heap.size W w)
 (h : ∀ A2 c2 w2, w2.ownsRow W.heap.size e 1 (.slice A2 (n + m) c2) (n + m) (vs ++ ws) -> Below W.heap.size W w2 -> w.grownBy w2 (Value.slice A n c).ownBlock -> wpList P ops Q rest (a.put o.dst (.slice A2 (n + m) c2)) w2) :
 wpList P ops Q (o :: rest) a w := by
 obtain ⟨i, hi, hz, hsz, hbi⟩ := info_parts hT.info
 obtain ⟨v', w', hrun, h2, h3, h4⟩ := run_append_rd (P := P) w W.heap.size t o.type e i z bytes hT.under hi hz hsz hbi hT.one _ n vs hown B A' m c' ws hr h1
  (by unfold maxLen; omega) (by have := Nat.mul_le_mul hnm hby; omega) hB.size
 have hlt := hown.lt
 have hB2 : Below W.heap.size W w' := hB.grown h3 hB.size (fun k hk => (hlt k hk).1)
 obtain ⟨A2, c2, rfl, hr2⟩ := Rd.of_own h2
 have hgo := h A2 c2 w' h2 hB2 h3
 unfold wpList
 rw [if_pos hw]
 refine Or.inl ?_
 unfold Oper.wp execOp
 simp only [ho, resolve, invoke, builtin, Sem.run_bind, Sem.run_pure, Result.andThen_ok, List.map_toArray, List.map_cons, List.map_nil, hs, hx, hrun]
 exact hgo
end
def iv (zs : List Int) : List Value := zs.map (Value.int .i64)
theorem iv_one (zs : List Int) : ∀ u ∈ iv zs, u.oneCell' = true := by
 intro u hu
 obtain ⟨x, _, rfl⟩ := List.mem_map.1 hu
 rfl
theorem iv_length (zs : List Int) : (iv zs).length = zs.length := by simp [iv]
theorem Rd.oneV (w : World) (v : Value) (t : TypeId) : Rd (w.alloc (.cells #[v] t)) (w.heap.size + 1) (some ⟨w.heap.size, 0, none⟩) 1 [v] := Rd.made w #[v] t (0, 0) 1 rfl
theorem Rd.int_at {w : World} {B n k : Nat} {A : Option Addr} {zs : List Int} (h : Rd w B A n (iv zs)) (hk : k < n) : ∃ b o, A = some ⟨b, o, none⟩ /\ ∃ hk' : k < zs.length, w.cell? ⟨b, o + k, none⟩ = some (.int .i64 zs[k]) := by
 obtain ⟨b, o, e, _, hc⟩ := h.2 (by omega)
 have hl : k < zs.length := by have := h.1; rw [iv_length] at this; omega
 exact ⟨b, o, e, hl, by rw [hc k hk]; simp [iv, hl]⟩
theorem Rd.int_cell {w : World} {B n k b o : Nat} {zs : List Int} {z : Int} (h : Rd w B (some ⟨b, o, none⟩) n (iv zs)) (hk : k < n) (hz : zs[k]? = some z) : w.cell? ⟨b, o + k, none⟩ = some (.int .i64 z) := by
 obtain ⟨b', o', e, _, hc⟩ := h.2 (by omega)
 injection e with e
 injection e with e1 e2
 subst e1 e2
 rw [hc k hk]; simp [iv, hz]
theorem IsRow.ints {w : World} {a : Option Addr} {len cap : Nat} {zs : List Int} (h : IsRow .i64 w a len cap zs) :
 Rd w w.heap.size a len (iv (zs.take len)) /\ (zs.take len).length = len /\ len <= cap /\ cap <= maxLen := by
 rcases h with ⟨rfl, rfl, rfl, rfl⟩ | ⟨x, rfl, hl, hm, hz, hc, hw⟩
 · exact ⟨Rd.none_ _ _ _, rfl, Nat.le_refl _, by decide⟩
 · have hzl : (zs.take len).length = len := by rw [List.length_take]; omega
   refine ⟨⟨by rw [iv_length, hzl], fun hn => ?_⟩, hzl, hl, hm⟩
   obtain ⟨b, o, s⟩ := x
   have h0 := hc 0 (by omega)
   have hs : s = none := by simpa [Addr.add] using World.cell?_spot h0
   subst hs
   have hlt : b < w.heap.size := by
    rcases Nat.lt_or_ge b w.heap.size with h' | h'
    · exact h'
    · simp [World.cell?, Addr.add, Array.getElem?_eq_none h'] at h0
   refine ⟨b, o, rfl, hlt, fun i hi => ?_⟩
   have := hc i (by omega)
   have e : (⟨b, o, none⟩ : Addr).add i = ⟨b, o + i, none⟩ := by unfold Addr.add; split <;> simp_all
   rw [e] at this
   rw [this]
   have hi' : i < zs.length := by omega
   simp [iv, hi', hi, List.getD]
def strB (l : List Nat) : ByteArray := strOfNums (l.map fun (x : Nat) => (x : Int))
theorem strB_inj {l m : List Nat} (hl : ∀ x ∈ l, x < 256) (hm : ∀ x ∈ m, x < 256) (h : strB l = strB m) : l = m := by
 have h1 : (l.map fun (x : Nat) => UInt8.ofNat x) = m.map fun (x : Nat) => UInt8.ofNat x := by
  have := congrArg (fun s => s.data.toList) h
  simpa [strB, strOfNums, Function.comp_def] using this
 clear h
 induction l generalizing m with
 | nil => cases m with
   | nil => rfl
   | cons y m => simp at h1
 | cons x l ih => cases m with
   | nil => simp at h1
   | cons y m =>
     simp only [List.map_cons, List.cons.injEq] at h1
     have hx := hl x (by simp)
     have hy := hm y (by simp)
     have e : x = y := by
      have := congrArg UInt8.toNat h1.1
      simp at this
      omega
     rw [e, ih (fun z hz => hl z (by simp [hz])) (fun z hz => hm z (by simp [hz])) h1.2]
theorem ba_beq (a b : ByteArray) : (a == b) = decide (a = b) := by
 have e : (a == b) = (a.data == b.data) := by cases a; cases b; rfl
 rw [e, Bool.eq_iff_iff, beq_iff_eq, decide_eq_true_iff]
 constructor
 · intro h; cases a; cases b; simp at h; rw [h]
 · intro h; rw [h]
theorem strB_eq {l m : List Nat} (hl : ∀ x ∈ l, x < 256) (hm : ∀ x ∈ m, x < 256) : (strB l == strB m) = decide (l = m) := by
 rw [ba_beq]
 by_cases h : l = m
 · subst h; simp
 · have : strB l ≠ strB m := fun e => h (strB_inj hl hm e)
   simp [h, this]
theorem strB_self (l : List Nat) : (strB l == strB l) = true := by rw [ba_beq]; simp
theorem run_str_rd {P : Program} {src e dst : TypeId} (hs : P.underlying src = some (.slice e)) (he : P.underlying e = some (.int .u8)) (hd : P.underlying dst = some .string)
 {w : World} {B : Nat} {A : Option Addr} {n c : Nat} {l : List Nat} (h : Rd w B A n (bv l)) : (convert src dst (.slice A n c)).run P w = .ok (.string (strB l)) w := by
 rcases Nat.eq_zero_or_pos n with h0 | h0
 · subst h0
   have hl : l = [] := List.eq_nil_of_length_eq_zero h.length
   subst hl
   cases A with
   | none => exact run_convert_bytes_nil w src e hs he 0 c dst hd
   | some a =>
     have h1 : (loadCells a 0).run P w = .ok #[] w := by
      have := run_loadCells_list (P := P) w a [] (fun j v hj => by simp at hj)
      simpa using this
     rw [run_convert_bytes_string w src dst e _ 0 c hs he hd, run_bytesToString w _ 0 c [] (by simpa using h1)]
     rfl
 · obtain ⟨b, o, rfl, _, hc⟩ := h.2 h0
   refine run_convert_bytes_arg w src e hs he b o n c (l.map fun (x : Nat) => (x : Int)) (by rw [List.length_map]; exact h.length) (fun i hi => ?_) dst hd
   have hl : i < l.length := by rw [h.length]; exact hi
   rw [hc i hi, bv_get hl]
   simp [List.getD, List.getElem?_eq_getElem hl]
theorem byteT : ByteT Tryz.prog 24 5 := ⟨Tryz.underlying24, by kernel_rfl⟩
def Lim (k n : Nat) : Prop := n + k <= 1099511627776
theorem Lim.out {k n : Nat} (h : Lim k n) : n + k <= 1099511627776 := h
abbrev OwnB (W w : World) (A : Option Addr) (n c : Nat) (l : List Nat) : Prop := w.ownsRow W.heap.size 5 1 (.slice A n c) n (bv l)
def GotB (W : World) (l : List Nat) (e : Ending) (w' : World) : Prop := ∃ A n c, e = .returned (.slice A n c) /\ OwnB W w' A n c l /\ Below W.heap.size W w'
theorem own_len {W w : World} {A : Option Addr} {n c : Nat} {l : List Nat} (h : OwnB W w A n c l) : l.length = n := by
 have := h.1; rw [bv_length] at this; omega
theorem own_below {W w w' : World} {A : Option Addr} {n c : Nat} {l : List Nat} (h : OwnB W w A n c l) (hb : Below w.heap.size w w') : OwnB W w' A n c l := ownsRow_below h hb
def GotIn (W w : World) (l : List Nat) (e : Ending) (w' : World) : Prop := ∃ A c, e = .returned (.slice A l.length c) /\ OwnB W w' A l.length c l /\ Below W.heap.size W w' /\ Below w.heap.size w w'
theorem GotIn.of {W w : World} {l : List Nat} {e : Ending} {w' : World} (hB : Below W.heap.size W w) (h : GotB w l e w') : GotIn W w l e w' := by
 obtain ⟨A, n, c, rfl, ho, hb⟩ := h
 have hn := own_len ho
 subst hn
 refine ⟨A, c, rfl, ?_, hB.trans (hb.mono hB.size), hb⟩
 obtain ⟨h1, h2⟩ := ho
 refine ⟨h1, ?_⟩
 rcases h2 with h2 | ⟨g, cap, cur, hv, hg, r⟩
 · exact .inl h2
 · exact .inr ⟨g, cap, cur, hv, Nat.le_trans hB.size hg, r⟩
theorem own_set_t {w : World} {base size n b i : Nat} {e t : TypeId} {v u : Value} {xs : List Value} {cs : Array Value} (h : w.ownsRow base e size v n xs) (hb : Blk w b t cs) (hne : e ≠ t) : (w.setCell ⟨b, i, none⟩ u).ownsRow base e size v n xs := by
 have hg : w.grownBy (w.setCell ⟨b, i, none⟩ u) (some b) :=
  ⟨rfl, rfl, rfl, by simp [World.setCell], fun k hk hn => Below.heap_setCell w ⟨b, i, none⟩ u k (by rintro rfl; exact hn rfl)⟩
 refine h.kept hg ?_
 rcases h.2 with ⟨h1, _⟩ | ⟨g, cap, cur, h1, _, hh, _⟩
 · rw [h1]; exact .inl rfl
 · rw [h1]
   refine .inr ?_
   show some g ≠ some b
   intro h0
   injection h0 with h0
   exact Blk.apart hh hb hne h0
theorem Blk.set_other {w : World} {g b i : Nat} {t : TypeId} {cs : Array Value} {u : Value} (h : Blk w g t cs) (hne : g ≠ b) : Blk (w.setCell ⟨b, i, none⟩ u) g t cs := (Below.heap_setCell w ⟨b, i, none⟩ u g hne).trans h
theorem put3 {w : World} {b : Nat} {t : TypeId} {x0 y0 z0 : Value} (hk : Blk w b t #[x0, y0, z0]) (x y z : Value) :
 Blk (((w.setCell ⟨b, 0, none⟩ x).setCell ⟨b, 1, none⟩ y).setCell ⟨b, 2, none⟩ z) b t #[x, y, z] ∧
 (∀ W, W.heap.size <= b -> Below W.heap.size W w -> Below W.heap.size W (((w.setCell ⟨b, 0, none⟩ x).setCell ⟨b, 1, none⟩ y).setCell ⟨b, 2, none⟩ z)) ∧
 ∀ base e size v n xs, w.ownsRow base e size v n xs -> e ≠ t -> (((w.setCell ⟨b, 0, none⟩ x).setCell ⟨b, 1, none⟩ y).setCell ⟨b, 2, none⟩ z).ownsRow base e size v n xs :=
 ⟨((hk.set_ 0 x).set_ 1 y).set_ 2 z, fun W h1 h2 => ((h2.setCell h1 _).setCell h1 _).setCell h1 _, fun base e size v n xs h hne => own_set_t (own_set_t (own_set_t h hk hne) (hk.set_ 0 x) hne) ((hk.set_ 0 x).set_ 1 y) hne⟩
theorem three {w : World} {b : Nat} {t : TypeId} {x y z : Value} (h : Blk w b t #[x, y, z]) :
 w.cell? ⟨b, 0, none⟩ = some x /\ w.cell? ⟨b, 1, none⟩ = some y /\ w.cell? ⟨b, 2, none⟩ = some z /\ w.frozen? ⟨b, 0, none⟩ = false /\ w.frozen? ⟨b, 1, none⟩ = false /\ w.frozen? ⟨b, 2, none⟩ = false :=
 ⟨h.cell 0, h.cell 1, h.cell 2, h.frozen 0, h.frozen 1, h.frozen 2⟩
theorem results_tmp_cell_row {P : Program} {fn : Func} {u p : Tmp} {ty : TypeId} (h : fn.results = #[.tmp u, .cell p ty]) (tmps : Array Value) (w : World) (g : Nat) (t : TypeId) (cs : Array Value) (d : TypeDesc)
 (hp : tmps.getD p undef = .pointer (some ⟨g, 0, none⟩)) (hg : Blk w g t cs)
 (hu : P.underlying ty = some d) (hd : (match d with | .struct _ | .array _ _ => true | _ => false) = true) (hi : (P.info? ty).map (·.size) = some cs.size) :
 (results fn tmps).run P w = .ok (.tuple #[tmps.getD u undef, .agg cs]) w := by
 have hp' : tmps[p]?.getD undef = .pointer (some ⟨g, 0, none⟩) := by simpa using hp
 simp [results, h, hp', asAddr, run_loadVar_row w g t ty cs (0, 0) d hg hu hd hi]
theorem str_of {w : World} {B : Nat} {A : Option Addr} {n c : Nat} {l : List Nat} (h : Rd w B A n (bv l)) : (convert 24 9 (.slice A n c)).run Tryz.prog w = .ok (.string (strB l)) w :=
 run_str_rd Tryz.underlying24 Tryz.underlying5 Tryz.underlying9 h
theorem strL_eq {l m : List Nat} (hl : ∀ x ∈ l, x < 256) (hm : ∀ x ∈ m, x < 256) : ((strB l).toList == (strB m).toList) = decide (l = m) := by
 rw [<- strB_eq hl hm, ba_beq, Bool.eq_iff_iff, beq_iff_eq, decide_eq_true_iff]
 constructor
 · intro h
   rw [ByteArray.toList_eq, ByteArray.toList_eq] at h
   have h1 := Array.toList_inj.1 h
   generalize strB l = a at h1 |-
   generalize strB m = b at h1 |-
   cases a; cases b; simp at h1; rw [h1]
 · intro h; rw [h]
def resV (e : Int) (A : Option Addr) (n c : Nat) (N : Int) : Value := .agg #[.int .i64 e, .slice A n c, .int .i64 N]
def GotR (W w : World) (e : Int) (l : List Nat) (N : Int) (en : Ending) (w' : World) : Prop :=
 ∃ A c, en = .returned (resV e A l.length c N) /\ OwnB W w' A l.length c l /\ Below W.heap.size W w' /\ Below w.heap.size w w'
def GotSR (W w : World) (s : List Nat) (e : Int) (l : List Nat) (N : Int) (en : Ending) (w' : World) : Prop :=
 ∃ A c A' c', en = .returned (.tuple #[.slice A s.length c, resV e A' l.length c' N]) /\ OwnB W w' A s.length c s /\ OwnB W w' A' l.length c' l /\ Below W.heap.size W w' /\ Below w.heap.size w w'
theorem own_nil (W w : World) : OwnB W w none 0 0 [] := ⟨rfl, .inl ⟨rfl, rfl⟩⟩
abbrev zeroR : Array Value := #[.int .i64 0, .slice none 0 0, .int .i64 0]
structure Cells (w : World) (B : Nat) (vs : List Value) (qs : List (List Nat)) : Prop where
 len : vs.length = qs.length
 cell : ∀ (i : Nat) (l : List Nat), qs[i]? = some l -> ∃ A c, vs[i]? = some (.slice A l.length c) /\ Rd w B A l.length (bv l)
def RdQ (w : World) (B : Nat) (A : Option Addr) (n : Nat) (qs : List (List Nat)) : Prop := ∃ vs, Rd w B A n vs /\ Cells w B vs qs
def BytesL (qs : List (List Nat)) : Prop := ∀ l ∈ qs, ∀ x ∈ l, x < 256
section
variable {w w' : World} {B B' n : Nat} {A : Option Addr} {vs : List Value} {qs : List (List Nat)}
theorem Cells.keep (h : Cells w B vs qs) (hk : ∀ p : Addr, p.block < B -> w'.cell? p = w.cell? p) (hB : B <= B') : Cells w' B' vs qs :=
 ⟨h.len, fun i l hl => by obtain ⟨A, c, e, hr⟩ := h.cell i l hl; exact ⟨A, c, e, hr.keep hk hB⟩⟩
theorem Cells.below (h : Cells w B vs qs) (hb : Below B w w') : Cells w' B vs qs := h.keep (fun _ hp => hb.cell hp) lR
theorem Cells.fit (h : Cells w B vs qs) : Cells w w.heap.size vs qs :=
 ⟨h.len, fun i l hl => by obtain ⟨A, c, e, hr⟩ := h.cell i l hl; exact ⟨A, c, e, hr.fit⟩⟩
theorem Cells.nil (w : World) (B : Nat) : Cells w B [] [] := ⟨rfl, fun i l h => by simp at h⟩
theorem Cells.snoc {A' : Option Addr} {c : Nat} {l : List Nat} (h : Cells w B vs qs) (hr : Rd w B A' l.length (bv l)) : Cells w B (vs ++ [.slice A' l.length c]) (qs ++ [l]) := by
 refine ⟨by simp [h.len], fun i l' hl => ?_⟩
 by_cases hi : i < qs.length
 · rw [List.getElem?_append_left hi] at hl
   obtain ⟨A, c, e, hr'⟩ := h.cell i l' hl
   exact ⟨A, c, by rw [List.getElem?_append_left (by rw [h.len]; exact hi)]; exact e, hr'⟩
 · rw [List.getElem?_append_right (by omega)] at hl
   have h0 : i - qs.length = 0 := by
    rcases Nat.eq_zero_or_pos (i - qs.length) with h0 | h0
    · exact h0
    · rw [List.getElem?_eq_none (by simp; omega)] at hl; cases hl
   rw [h0] at hl
   simp at hl
   subst hl
   refine ⟨A', c, ?_, hr⟩
   rw [List.getElem?_append_right (by rw [h.len]; omega), h.len, h0]
   rfl
theorem Cells.drop (h : Cells w B vs qs) (k : Nat) : Cells w B (vs.drop k) (qs.drop k) :=
 ⟨by simp [h.len], fun i l hl => by rw [List.getElem?_drop] at hl |-; exact h.cell _ l hl⟩
theorem Cells.one (h : Cells w B vs qs) : ∀ u ∈ vs, u.oneCell' = true := by
 intro u hu
 obtain ⟨i, hi, e⟩ := List.getElem_of_mem hu
 have hi2 : i < qs.length := by rw [<- h.len]; exact hi
 obtain ⟨A, c, e2, _⟩ := h.cell i qs[i] (List.getElem?_eq_getElem hi2)
 rw [List.getElem?_eq_getElem hi] at e2
 injection e2 with e2
 rw [<- e, e2]
 rfl
theorem RdQ.below (h : RdQ w B A n qs) (hb : Below B w w') : RdQ w' B A n qs := by obtain ⟨vs, h1, h2⟩ := h; exact ⟨vs, h1.below hb, h2.below hb⟩
theorem RdQ.fit (h : RdQ w B A n qs) : RdQ w w.heap.size A n qs := by obtain ⟨vs, h1, h2⟩ := h; exact ⟨vs, h1.fit, h2.fit⟩
theorem RdQ.length (h : RdQ w B A n qs) : qs.length = n := by obtain ⟨vs, h1, h2⟩ := h; rw [<- h2.len]; exact h1.1
theorem RdQ.nil (w : World) (B : Nat) (A : Option Addr) : RdQ w B A 0 [] := ⟨[], Rd.none_ _ _ _, Cells.nil _ _⟩
theorem RdQ.at {k : Nat} (h : RdQ w B A n qs) (hk : k < n) : ∃ b o l A' c, A = some ⟨b, o, none⟩ /\ qs[k]? = some l /\ w.cell? ⟨b, o + k, none⟩ = some (.slice A' l.length c) /\ Rd w B A' l.length (bv l) := by
 obtain ⟨vs, h1, h2⟩ := h
 obtain ⟨b, o, e, _, hc⟩ := h1.2 (by omega)
 have hl : k < qs.length := by rw [<- h2.len, h1.1]; exact hk
 obtain ⟨A', c, e2, hr⟩ := h2.cell k qs[k] (List.getElem?_eq_getElem hl)
 exact ⟨b, o, qs[k], A', c, e, List.getElem?_eq_getElem hl, by rw [hc k hk, e2], hr⟩
theorem RdQ.drop {k c : Nat} (h : RdQ w B A n qs) (hk : k <= n) (hc : n <= c) : RdQ w B (cutAt A c k) (n - k) (qs.drop k) := by
 obtain ⟨vs, h1, h2⟩ := h
 exact ⟨vs.drop k, h1.drop hk hc, h2.drop k⟩
end
theorem cellQ : CellT Tryz.prog 30 24 (.slice none 0 0) 24 := ⟨Tryz.underlying30, by kernel_rfl, rfl⟩
theorem own_grown_t {w w' : World} {base base' size size' n n' c' : Nat} {e e' : TypeId} {v : Value} {A' : Option Addr} {xs xs' : List Value} (h : w.ownsRow base e size v n xs) (ho : w.ownsRow base' e' size' (.slice A' n' c') n' xs') (hne : e ≠ e')
 (hg : w.grownBy w' (Value.slice A' n' c').ownBlock) : w'.ownsRow base e size v n xs := by
 refine h.kept hg ?_
 rcases h.2 with ⟨h1, _⟩ | ⟨g, cap, cur, h1, _, hh, _⟩
 · rw [h1]; exact .inl rfl
 · rw [h1]
   refine .inr ?_
   rcases own_blk ho with ⟨h2, _, _⟩ | ⟨g', cur', h2, _, hk'⟩
   · rw [h2]; intro h0; cases h0
   · rw [h2]
     intro h0
     have h3 : g = g' := by simpa [Value.ownBlock] using h0
     exact Blk.apart hh hk' hne h3
structure Owns (W w : World) (vs : List Value) (qs : List (List Nat)) : Prop where
 len : vs.length = qs.length
 cell : ∀ (i : Nat) (l : List Nat), qs[i]? = some l -> ∃ A c, vs[i]? = some (.slice A l.length c) /\ OwnB W w A l.length c l
theorem Owns.cells {W w : World} {vs : List Value} {qs : List (List Nat)} (h : Owns W w vs qs) : Cells w w.heap.size vs qs :=
 ⟨h.len, fun i l hl => by obtain ⟨A, c, e, ho⟩ := h.cell i l hl; exact ⟨A, c, e, Rd.own_ ho⟩⟩
theorem Owns.below {W w w' : World} {vs : List Value} {qs : List (List Nat)} (h : Owns W w vs qs) (hb : Below w.heap.size w w') : Owns W w' vs qs :=
 ⟨h.len, fun i l hl => by obtain ⟨A, c, e, ho⟩ := h.cell i l hl; exact ⟨A, c, e, own_below ho hb⟩⟩
theorem Owns.nil (W w : World) : Owns W w [] [] := ⟨rfl, fun i l h => by simp at h⟩
theorem Owns.snoc {W w : World} {vs : List Value} {qs : List (List Nat)} {A' : Option Addr} {c : Nat} {l : List Nat} (h : Owns W w vs qs) (ho : OwnB W w A' l.length c l) : Owns W w (vs ++ [.slice A' l.length c]) (qs ++ [l]) := by
 refine ⟨by simp [h.len], fun i l' hl => ?_⟩
 by_cases hi : i < qs.length
 · rw [List.getElem?_append_left hi] at hl
   obtain ⟨A, c, e, hr'⟩ := h.cell i l' hl
   exact ⟨A, c, by rw [List.getElem?_append_left (by rw [h.len]; exact hi)]; exact e, hr'⟩
 · rw [List.getElem?_append_right (by omega)] at hl
   have h0 : i - qs.length = 0 := by
    rcases Nat.eq_zero_or_pos (i - qs.length) with h0 | h0
    · exact h0
    · rw [List.getElem?_eq_none (by simp; omega)] at hl; cases hl
   rw [h0] at hl
   simp at hl
   subst hl
   refine ⟨A', c, ?_, ho⟩
   rw [List.getElem?_append_right (by rw [h.len]; omega), h.len, h0]
   rfl
theorem Owns.grown {W w w' : World} {base' size' n' c' : Nat} {A' : Option Addr} {vs xs' : List Value} {qs : List (List Nat)} (h : Owns W w vs qs) (ho : w.ownsRow base' 24 size' (.slice A' n' c') n' xs') (hg : w.grownBy w' (Value.slice A' n' c').ownBlock) : Owns W w' vs qs :=
 ⟨h.len, fun i l hl => by obtain ⟨A, c, e, hq⟩ := h.cell i l hl; exact ⟨A, c, e, own_grown_t hq ho (by decide) hg⟩⟩
theorem Owns.set_t {W w : World} {vs : List Value} {qs : List (List Nat)} {b i : Nat} {t : TypeId} {u : Value} {cs : Array Value} (h : Owns W w vs qs) (hb : Blk w b t cs) (hne : 5 ≠ t) : Owns W (w.setCell ⟨b, i, none⟩ u) vs qs :=
 ⟨h.len, fun i l hl => by obtain ⟨A, c, e, hq⟩ := h.cell i l hl; exact ⟨A, c, e, own_set_t hq hb hne⟩⟩
theorem Owns.one {W w : World} {vs : List Value} {qs : List (List Nat)} (h : Owns W w vs qs) : ∀ u ∈ vs, u.oneCell' = true := h.cells.one
def OwnQ (W w : World) (A : Option Addr) (n c : Nat) (qs : List (List Nat)) : Prop :=
 ∃ vs, w.ownsRow W.heap.size 24 1 (.slice A n c) n vs /\ Owns W w vs qs
theorem OwnQ.rd {W w : World} {A : Option Addr} {n c : Nat} {qs : List (List Nat)} (h : OwnQ W w A n c qs) : RdQ w w.heap.size A n qs := by
 obtain ⟨vs, h1, h2⟩ := h
 exact ⟨vs, Rd.own_ h1, h2.cells⟩
theorem OwnQ.below {W w w' : World} {A : Option Addr} {n c : Nat} {qs : List (List Nat)} (h : OwnQ W w A n c qs) (hb : Below w.heap.size w w') : OwnQ W w' A n c qs := by
 obtain ⟨vs, h1, h2⟩ := h
 exact ⟨vs, ownsRow_below h1 hb, h2.below hb⟩
theorem OwnQ.length {W w : World} {A : Option Addr} {n c : Nat} {qs : List (List Nat)} (h : OwnQ W w A n c qs) : qs.length = n := h.rd.length
theorem OwnQ.nil (W w : World) : OwnQ W w none 0 0 [] := ⟨[], ⟨rfl, .inl ⟨rfl, rfl⟩⟩, Owns.nil _ _⟩
theorem OwnQ.set_t {W w : World} {A : Option Addr} {n c b i : Nat} {t : TypeId} {u : Value} {cs : Array Value} {qs : List (List Nat)} (h : OwnQ W w A n c qs) (hb : Blk w b t cs) (h1 : 5 ≠ t) (h2 : 24 ≠ t) : OwnQ W (w.setCell ⟨b, i, none⟩ u) A n c qs := by
 obtain ⟨vs, g1, g2⟩ := h
 exact ⟨vs, own_set_t g1 hb h2, g2.set_t hb h1⟩
theorem OwnQ.put3 {W w : World} {A : Option Addr} {n c b : Nat} {t : TypeId} {x0 y0 z0 : Value} {qs : List (List Nat)} (h : OwnQ W w A n c qs) (hb : Blk w b t #[x0, y0, z0]) (h1 : 5 ≠ t) (h2 : 24 ≠ t) (x y z : Value) :
 OwnQ W (((w.setCell ⟨b, 0, none⟩ x).setCell ⟨b, 1, none⟩ y).setCell ⟨b, 2, none⟩ z) A n c qs :=
 ((h.set_t hb h1 h2).set_t (hb.set_ 0 x) h1 h2).set_t ((hb.set_ 0 x).set_ 1 y) h1 h2
theorem OwnQ.of {W w w' : World} {A : Option Addr} {n c : Nat} {qs : List (List Nat)} (hs : W.heap.size <= w.heap.size) (h : OwnQ w w' A n c qs) : OwnQ W w' A n c qs := by
 have more : ∀ {e : TypeId} {size n : Nat} {v : Value} {xs : List Value}, w'.ownsRow w.heap.size e size v n xs -> w'.ownsRow W.heap.size e size v n xs := by
  rintro e size n v xs ⟨h1, h2⟩
  refine ⟨h1, ?_⟩
  rcases h2 with h2 | ⟨g, cap, cur, hv, hg, r⟩
  · exact .inl h2
  · exact .inr ⟨g, cap, cur, hv, Nat.le_trans hs hg, r⟩
 obtain ⟨vs, h1, h2⟩ := h
 exact ⟨vs, more h1, h2.len, fun i l hl => by obtain ⟨A', c', e, ho⟩ := h2.cell i l hl; exact ⟨A', c', e, more ho⟩⟩
def GotQ (W w : World) (qs : List (List Nat)) (e : Ending) (w' : World) : Prop := ∃ A c, e = .returned (.slice A qs.length c) /\ OwnQ W w' A qs.length c qs /\ Below W.heap.size W w' /\ Below w.heap.size w w'
theorem GotQ.of {W w w' : World} {qs : List (List Nat)} {e : Ending} (hB : Below W.heap.size W w) (h : GotQ w w qs e w') : GotQ W w qs e w' := by
 obtain ⟨A, c, h1, h2, h3, h4⟩ := h
 exact ⟨A, c, h1, h2.of hB.size, hB.trans (h3.mono hB.size), h4⟩
def GotQR (W w : World) (qs : List (List Nat)) (e : Int) (l : List Nat) (N : Int) (en : Ending) (w' : World) : Prop :=
 ∃ A c A' c', en = .returned (.tuple #[.slice A qs.length c, resV e A' l.length c' N]) /\ OwnQ W w' A qs.length c qs /\ OwnB W w' A' l.length c' l /\ Below W.heap.size W w' /\ Below w.heap.size w w'
theorem GotQR.of {W w w' : World} {qs : List (List Nat)} {e : Int} {l : List Nat} {N : Int} {en : Ending} (hB : Below W.heap.size W w) (h : GotQR w w qs e l N en w') : GotQR W w qs e l N en w' := by
 obtain ⟨A, c, A', c', h1, h2, h3, h4, h5⟩ := h
 refine ⟨A, c, A', c', h1, h2.of hB.size, ?_, hB.trans (h4.mono hB.size), h5⟩
 obtain ⟨g1, g2⟩ := h3
 refine ⟨g1, ?_⟩
 rcases g2 with g2 | ⟨g, cap, cur, hv, hg, r⟩
 · exact .inl g2
 · exact .inr ⟨g, cap, cur, hv, Nat.le_trans hB.size hg, r⟩
theorem bad_any (w : World) (e : Int) :
 Calls Tryz.prog 95 #[.int .i64 e] w fun en w' => en = .returned (resV e none 0 0 0) /\ Below w.heap.size w w' := by
 go_enter Tryz.func95, Tryz.ntmps95
 go_wp2
 refine bodyPost_ret (results_cell_row rfl _ _ _ _ _ _ _ rfl (Blk.new w 41 #[.int .i64 e, .slice none 0 0, .int .i64 0]) Tryz.underlying41 rfl (by kernel_rfl)) rfl ?_
 exact ⟨rfl, (Below.refl _ _).alloc lR _⟩
set_option maxRecDepth 100000 in
theorem sameR_any (w : World) {A A' : Option Addr} {n c n' c' B B' : Nat} {l l' : List Nat} (e e' N N' : Int) (hl : ∀ x ∈ l, x < 256) (hl' : ∀ x ∈ l', x < 256) (h : Rd w B A n (bv l)) (h' : Rd w B' A' n' (bv l')) :
 Calls Tryz.prog 9 #[resV e A n c N, resV e' A' n' c' N'] w fun en w' => en = .returned (.bool (decide (e = e') && decide (l = l') && decide (N = N'))) /\ Below w.heap.size w w' := by
 have b0 : Below w.heap.size w ((w.alloc (.cells #[.int .i64 e, .slice A n c, .int .i64 N] 41)).alloc (.cells #[.int .i64 e', .slice A' n' c', .int .i64 N'] 41)) := ((Below.refl _ _).alloc lR _).alloc (by simp) _
 have q1 := str_of (c := c) (h.fit.below b0)
 have q2 := str_of (c := c') (h'.fit.below b0)
 have q3 := strL_eq hl hl'
 clear h h' hl hl'
 unfold resV
 by_cases he : e = e'
 · subst he
   by_cases hv : l = l'
   · subst hv
     rw [decide_eq_true rfl] at q3 |-
     by_cases hN : N = N'
     · subst hN
       rw [decide_eq_true rfl]
       go_enter Tryz.func9, Tryz.ntmps9
       go_wp2
       go_ret
       exact ⟨rfl, b0⟩
     · rw [decide_eq_false hN]
       have h3 : (N == N') = false := by simpa using hN
       go_enter Tryz.func9, Tryz.ntmps9
       go_wp2
       go_ret
       exact ⟨rfl, b0⟩
   · rw [decide_eq_false hv] at q3 |-
     go_enter Tryz.func9, Tryz.ntmps9
     go_wp2
     go_ret
     exact ⟨rfl, b0⟩
 · rw [decide_eq_false he]
   have h3 : (e == e') = false := by simpa using he
   go_enter Tryz.func9, Tryz.ntmps9
   go_wp2
   go_ret
   exact ⟨rfl, b0⟩
set_option maxRecDepth 100000 in
theorem ownref_raw (l : List Nat) (A : Option Addr) (n c B : Nat) (hn : Lim 0 n) (w : World) (hr : Rd w B A n (bv l)) :
 Calls Tryz.prog 98 #[.slice A n c] w (GotB w l) := by
 have hn := hn.out
 have H := hD hr.fit
 have hB0 : Below w.heap.size w w := Below.refl _ _
 clear hr
 go_enter Tryz.func98, Tryz.ntmps98
 go_wp2_with (first
  | (at_builtin
     refine wpList_append_bytes (W := w) byteT (.tmp 3) (.tmp 4) rfl (by rfl) rfl (own_empty hB0 5) rfl ((H.out).alloc lR _) (by omega) (hB0.alloc lR _) ?_
     intro A1 c1 w1 hown1 hr1 hB1
     simp only [Nat.zero_add, List.nil_append] at hown1 hr1)
  | fail)
 go_ret
 exact ⟨_, _, _, rfl, hown1, hB1⟩
theorem ownref_any {W w : World} {l : List Nat} {A : Option Addr} {n c B : Nat} (hn : Lim 0 n) (hr : Rd w B A n (bv l)) (hB : Below W.heap.size W w) :
 Calls Tryz.prog 98 #[.slice A n c] w (GotIn W w l) :=
 (ownref_raw l A n c B hn w hr).mono fun e w' h => GotIn.of hB h
def LimL (qs : List (List Nat)) : Prop := ∀ l ∈ qs, Lim 0 l.length
set_option maxRecDepth 100000 in
theorem refRows_raw (qs : List (List Nat)) (A : Option Addr) (n c B : Nat) (hn : n <= 100000) (hL : LimL qs) (w : World) (hr : RdQ w B A n qs) :
 Calls Tryz.prog 99 #[.slice A n c] w (GotQ w w qs) := by
 have HL := hD hL
 have HR := hD hr.fit
 have hlen := hr.length
 clear hr hL
 go_enter Tryz.func99, Tryz.ntmps99
 go_wp2_with fail
 go_loopw [3, 4] (fun s3 s4 wr => ∃ (k c' : Nat) (A' : Option Addr), k <= n /\ s4 = .int .i64 (k : Int) /\ s3 = .slice A' k c' /\ Hid (OwnQ w wr A' k c' (qs.take k)) /\ Hid (Below w.heap.size w wr)) (fun _ s4 _ => n - (intOf s4).toNat)
 case atStart => exact ⟨0, 0, none, Nat.zero_le _, rfl, rfl, hD (by simpa using OwnQ.nil w w), hD (Below.refl _ _)⟩
 case round =>
  obtain ⟨k, c', A', hk, rfl, rfl, HO, HB⟩ := hrel
  by_cases hlt : k < n
  · obtain ⟨b, o, l, A1, c1, rfl, hl, hcell, hrd⟩ := (HR.out.below HB.out).at hlt
    have hll : Lim 0 l.length := HL.out l (List.mem_of_getElem? hl)
    have HRD := hD hrd
    have HLL := hD hl
    clear hrd hl
    go_wp2_with (first
     | (go_at_call 98; refine (ownref_any (W := w) hll HRD.out HB.out).mono ?_; rintro e w1 ⟨A2, c2, rfl, ho2, hB2, hb2⟩; obtain ⟨vs, hv1, hv2⟩ := HO.out.below hb2)
     | (at_builtin
        refine wpList_append_cells (W := w) cellQ (.tmp 11) (.tmp 17) rfl (by rfl) rfl (ownsRow_below hv1 ((Below.refl _ _).alloc lR _)) rfl (Rd.oneV _ _ _) (by intro u hu; simp at hu; subst hu; rfl) (by omega) (by omega) (hB2.alloc hB2.size _) ?_
        intro A3 c3 w3 hown3 hB3 hg3)
     | fail)
    go_roundw
    case rel =>
     refine ⟨k + 1, c3, A3, by omega, by go_num, rfl, hD ?_, hD hB3⟩
     have b1 : Below w1.heap.size w1 (w1.alloc (.cells #[.slice A2 l.length c2] 24)) := (Below.refl _ _).alloc lR _
     refine ⟨vs ++ [.slice A2 l.length c2], hown3, ?_⟩
     rw [List.take_add_one, HLL.out]
     exact ((hv2.snoc ho2).below b1).grown (ownsRow_below hv1 b1) hg3
    case measure => simp only [intOf]; omega
  · obtain rfl : k = n := by omega
    go_wp2_with fail
    go_ret
    have HO2 := HO.out
    rw [List.take_of_length_le (by omega)] at HO2
    subst hlen
    exact ⟨A', c', rfl, HO2, HB.out, HB.out⟩
theorem refRows_any {W w : World} {qs : List (List Nat)} {A : Option Addr} {n c B : Nat} (hn : n <= 100000) (hL : LimL qs) (hr : RdQ w B A n qs) (hB : Below W.heap.size W w) :
 Calls Tryz.prog 99 #[.slice A n c] w (GotQ W w qs) :=
 (refRows_raw qs A n c B hn hL w hr).mono fun e w' h => GotQ.of hB h
def pushS (qs : List (List Nat)) (v : List Nat) : List (List Nat) := if 16 < v.length then qs else if 8 <= qs.length then qs else qs ++ [v]
def pushE (qs : List (List Nat)) (v : List Nat) : Int := if 16 < v.length then 1 else if 8 <= qs.length then 3 else 0
def pushN (qs : List (List Nat)) (v : List Nat) : Int := if 16 < v.length then 0 else if 8 <= qs.length then 0 else ((qs.length + 1 : Nat) : Int)
def popE (qs : List (List Nat)) : Int := if qs.length = 0 then 4 else 0
def popV (qs : List (List Nat)) : List Nat := qs.head?.getD []
set_option maxRecDepth 100000 in
theorem refPush_raw {w : World} {qs : List (List Nat)} {v : List Nat} {A A' : Option Addr} {n c n' c' B B' : Nat} (hn : n <= 100000) (hL : LimL qs) (hn' : Lim 0 n') (hr : RdQ w B A n qs) (hr' : Rd w B' A' n' (bv v)) :
 Calls Tryz.prog 104 #[.slice A n c, .slice A' n' c'] w (GotQR w w (pushS qs v) (pushE qs v) [] (pushN qs v)) := by
 have hB := Below.refl w.heap.size w
 have HL := hD hL
 have HR := hD hr.fit
 have HR' := hD hr'.fit
 obtain rfl := hr.length
 obtain rfl := hr'.length
 have b0 : Below w.heap.size w (w.alloc (.cells zeroR 41)) := (Below.refl _ _).alloc lR _
 clear hr hr' hL
 unfold pushS pushE pushN
 by_cases hlt : 16 < v.length
 · rw [if_pos hlt, if_pos hlt, if_pos hlt]
   go_enter Tryz.func104, Tryz.ntmps104
   go_wp2_with (first
    | (go_at_call 99; refine (refRows_any (W := w) hn HL.out (HR.out.below b0) (hB.alloc hB.size _)).mono ?_; rintro e w1 ⟨A1, c1, rfl, ho1, hB1, hb1⟩)
    | (go_at_call 95; refine (bad_any w1 1).mono ?_; rintro e w2 ⟨rfl, hb2⟩; unfold resV; have HK := hD (((Blk.new w 41 zeroR).below hb1).below hb2); obtain ⟨x0, x1, x2, f0, f1, f2⟩ := three HK.out)
    | fail)
   obtain ⟨k1, k2, k3⟩ := put3 HK.out (.int .i64 1) (.slice none 0 0) (.int .i64 0)
   have hbw : Below w.heap.size w w1 := b0.trans (hb1.mono (by simp))
   refine bodyPost_ret (results_tmp_cell_row rfl _ _ _ _ _ _ rfl k1 Tryz.underlying41 rfl (by kernel_rfl)) rfl ?_
   exact ⟨A1, c1, none, 0, rfl, (ho1.below hb2).put3 HK.out (by decide) (by decide) _ _ _, own_nil _ _, k2 w lR (hB1.trans (hb2.mono hB1.size)), k2 w lR (hbw.trans (hb2.mono hbw.size))⟩
 · rw [if_neg hlt, if_neg hlt, if_neg hlt]
   by_cases hf : 8 <= qs.length
   · rw [if_pos hf, if_pos hf, if_pos hf]
     go_enter Tryz.func104, Tryz.ntmps104
     go_wp2_with (first
      | (go_at_call 99; refine (refRows_any (W := w) hn HL.out (HR.out.below b0) (hB.alloc hB.size _)).mono ?_; rintro e w1 ⟨A1, c1, rfl, ho1, hB1, hb1⟩)
      | (go_at_call 95; refine (bad_any w1 3).mono ?_; rintro e w2 ⟨rfl, hb2⟩; unfold resV; have HK := hD (((Blk.new w 41 zeroR).below hb1).below hb2); obtain ⟨x0, x1, x2, f0, f1, f2⟩ := three HK.out)
      | fail)
     obtain ⟨k1, k2, k3⟩ := put3 HK.out (.int .i64 3) (.slice none 0 0) (.int .i64 0)
     have hbw : Below w.heap.size w w1 := b0.trans (hb1.mono (by simp))
     refine bodyPost_ret (results_tmp_cell_row rfl _ _ _ _ _ _ rfl k1 Tryz.underlying41 rfl (by kernel_rfl)) rfl ?_
     exact ⟨A1, c1, none, 0, rfl, (ho1.below hb2).put3 HK.out (by decide) (by decide) _ _ _, own_nil _ _, k2 w lR (hB1.trans (hb2.mono hB1.size)), k2 w lR (hbw.trans (hb2.mono hbw.size))⟩
   · rw [if_neg hf, if_neg hf, if_neg hf]
     go_enter Tryz.func104, Tryz.ntmps104
     go_wp2_with (first
      | (go_at_call 99; refine (refRows_any (W := w) hn HL.out (HR.out.below b0) (hB.alloc hB.size _)).mono ?_; rintro e w1 ⟨A1, c1, rfl, ho1, hB1, hb1⟩; have hbw : Below w.heap.size w w1 := b0.trans (hb1.mono (by simp)))
      | (go_at_call 98; refine (ownref_any (W := w) hn' (HR'.out.below hbw) hB1).mono ?_; rintro e w2 ⟨A2, c2, rfl, ho2, hB2, hb2⟩; obtain ⟨vs, hv1, hv2⟩ := ho1.below hb2)
      | (at_builtin
         refine wpList_append_cells (W := w) cellQ (.tmp 19) (.tmp 22) rfl (by rfl) rfl (ownsRow_below hv1 ((Below.refl _ _).alloc lR _)) rfl (Rd.oneV _ _ _) (by intro u hu; simp at hu; subst hu; rfl) (by omega) (by omega) (hB2.alloc hB2.size _) ?_
         intro A3 c3 w3 hown3 hB3 hg3
         have b1 : Below w2.heap.size w2 (w2.alloc (.cells #[.slice A2 v.length c2] 24)) := (Below.refl _ _).alloc lR _
         have HQ : Hid (OwnQ w w3 A3 (qs.length + 1) c3 (qs ++ [v])) := hD ⟨vs ++ [.slice A2 v.length c2], hown3, ((hv2.snoc ho2).below b1).grown (ownsRow_below hv1 b1) hg3⟩
         have hbk : Blk w3 w.heap.size 41 zeroR := by
          have h1 := (((Blk.new w 41 zeroR).below hb1).below hb2).alloc (.cells #[.slice A2 v.length c2] 24)
          refine h1.grown hg3 ?_
          rcases own_blk (ownsRow_below hv1 b1) with ⟨q1, _, _⟩ | ⟨g', cur', q1, _, hk'⟩
          · rw [q1]; intro h0; cases h0
          · rw [q1]; intro h0
            have h3 : w.heap.size = g' := by simpa [Value.ownBlock] using h0
            exact Blk.apart h1 hk' (by decide) h3
         have HK := hD hbk
         obtain ⟨x0, x1, x2, f0, f1, f2⟩ := three HK.out
         have HB3 := hD hB3
         clear hown3 hbk hB3)
      | fail)
     obtain ⟨k1, k2, k3⟩ := put3 HK.out (.int .i64 0) (.slice none 0 0) (.int .i64 ((qs.length : Int) + 1))
     refine bodyPost_ret (results_tmp_cell_row rfl _ _ _ _ _ _ rfl k1 Tryz.underlying41 rfl (by kernel_rfl)) rfl ?_
     have e : (qs ++ [v]).length = qs.length + 1 := by simp
     have h3 := k2 w lR HB3.out
     exact ⟨A3, c3, none, 0, by rw [e]; rfl, by rw [e]; exact HQ.out.put3 HK.out (by decide) (by decide) _ _ _, own_nil _ _, h3, h3⟩
theorem refPush_any {W w : World} {qs : List (List Nat)} {v : List Nat} {A A' : Option Addr} {n c n' c' B B' : Nat} (hn : n <= 100000) (hL : LimL qs) (hn' : Lim 0 n') (hr : RdQ w B A n qs) (hr' : Rd w B' A' n' (bv v)) (hB : Below W.heap.size W w) :
 Calls Tryz.prog 104 #[.slice A n c, .slice A' n' c'] w (GotQR W w (pushS qs v) (pushE qs v) [] (pushN qs v)) :=
 (refPush_raw hn hL hn' hr hr').mono fun e w' h => GotQR.of hB h
set_option maxRecDepth 100000 in
theorem refPop_raw {w : World} {qs : List (List Nat)} {A : Option Addr} {n c B : Nat} (hn : n <= 100000) (hc : n <= c) (hL : LimL qs) (hr : RdQ w B A n qs) :
 Calls Tryz.prog 105 #[.slice A n c] w (GotQR w w qs.tail (popE qs) (popV qs) 0) := by
 have hB := Below.refl w.heap.size w
 have HL := hD hL
 have HR := hD hr.fit
 obtain rfl := hr.length
 have b0 : Below w.heap.size w (w.alloc (.cells zeroR 41)) := (Below.refl _ _).alloc lR _
 clear hr hL
 unfold popE popV
 rcases Nat.eq_zero_or_pos qs.length with h0 | h0
 · have hq : qs = [] := List.eq_nil_of_length_eq_zero h0
   subst hq
   rw [if_pos h0]
   clear h0
   go_enter Tryz.func105, Tryz.ntmps105
   go_wp2_with (first
    | (go_at_call 95; refine (bad_any _ 4).mono ?_; rintro e w2 ⟨rfl, hb2⟩; unfold resV; have HK := hD ((Blk.new w 41 zeroR).below hb2); obtain ⟨x0, x1, x2, f0, f1, f2⟩ := three HK.out)
    | fail)
   obtain ⟨k1, k2, k3⟩ := put3 HK.out (.int .i64 4) (.slice none 0 0) (.int .i64 0)
   refine bodyPost_ret (results_tmp_cell_row rfl _ _ _ _ _ _ rfl k1 Tryz.underlying41 rfl (by kernel_rfl)) rfl ?_
   have h3 := k2 w lR (b0.trans (hb2.mono (by simp)))
   exact ⟨none, 0, none, 0, rfl, OwnQ.nil _ _, own_nil _ _, h3, h3⟩
 · have hq0 : ¬ qs.length = 0 := by omega
   rw [if_neg hq0]
   have hne : ((qs.length : Int) == 0) = false := by rw [beq_eq_false_iff_ne]; omega
   obtain ⟨b, o, l, A1, c1, rfl, hl, hcell, hrd⟩ := HR.out.at h0
   have hll : Lim 0 l.length := HL.out l (List.mem_of_getElem? hl)
   have hv : qs.head?.getD [] = l := by rw [List.head?_eq_getElem?, hl]; rfl
   rw [hv]
   have HRD := hD hrd
   have HL1 : Hid (LimL qs.tail) := hD (fun x hx => HL.out x (List.mem_of_mem_tail hx))
   have HR1 : Hid (RdQ w w.heap.size (cutAt (some ⟨b, o, none⟩) c 1) (qs.length - 1) qs.tail) := hD (by have := HR.out.drop (k := 1) (c := c) (by omega) hc; rwa [List.drop_one] at this)
   have htl : qs.tail.length = qs.length - 1 := by simp
   obtain ⟨i0, hi0, _, hi1, _⟩ := info_parts cellQ.info
   have esl : ∀ w : World, (Instr.slice 30 (.slice (some ⟨b, o, none⟩) qs.length c) (some (.int .i64 1)) none none).run Tryz.prog w = .ok (.slice (cutAt (some ⟨b, o, none⟩) c 1) (qs.length - 1) (c - 1)) w :=
    fun w => run_slice_from (P := Tryz.prog) Tryz.underlying30 hi0 hi1 (some ⟨b, o, none⟩) qs.length c 1 (by omega) w
   go_enter Tryz.func105, Tryz.ntmps105
   rw [Nat.add_zero] at hcell
   have hlt := World.block_lt_of_cell? w _ hcell
   have hcl : ∀ w' : World, Below w.heap.size w w' -> w'.cell? ⟨b, o, none⟩ = some (.slice A1 l.length c1) := fun w' h => (h.cell (p := ⟨b, o, none⟩) hlt).trans hcell
   have HC := hD hcl
   have HKb := hD (Blk.new w 41 zeroR)
   have hc0 := hcl _ b0
   clear hcl hcell hrd hv hlt hi0 hi1
   go_upto_region 3 with fail
   go_region_with (first
    | (go_at_call 99; refine (refRows_any (W := w) (n := qs.length - 1) (by omega) HL1.out (by first | exact HR1.out.below b0.drew | exact HR1.out.below hBO) (by first | exact b0.drew | exact hBO)).mono ?_; rintro e wR ⟨AR, cR, rfl, hoR, hBR, hbR⟩
       have HKb := hD (show Blk wR w.heap.size 41 zeroR by first | exact HKb.out.drew.below hbR | exact HKb.out.below hbR)
       have hcR := HC.out _ hBR
       obtain ⟨x0, x1, x2, f0, f1, f2⟩ := three HKb.out)
    | (go_at_call 98; refine (ownref_any (W := w) hll (by first | exact HRD.out.below b0.drew | exact HRD.out.below hBR) (by first | exact b0.drew | exact hBR)).mono ?_; rintro e wO ⟨AO, cO, rfl, hoO, hBO, hbO⟩
       have HKb := hD (show Blk wO w.heap.size 41 zeroR by first | exact HKb.out.drew.below hbO | exact HKb.out.below hbO)
       have hcO := HC.out _ hBO
       obtain ⟨x0, x1, x2, f0, f1, f2⟩ := three HKb.out))
   all_goals go_wp2
   all_goals
    obtain ⟨k1, k2, k3⟩ := put3 HKb.out (.int .i64 0) (.slice AO l.length cO) (.int .i64 0)
    refine bodyPost_ret (results_tmp_cell_row rfl _ _ _ _ _ _ rfl k1 Tryz.underlying41 rfl (by kernel_rfl)) rfl ?_
    have h3 := k2 w lR hBO
    exact ⟨AR, cR, AO, cO, by rw [htl]; rfl, (hoR.below hbO).put3 HKb.out (by decide) (by decide) _ _ _, k3 _ _ _ _ _ _ hoO (by decide), h3, h3⟩
theorem refPop_any {W w : World} {qs : List (List Nat)} {A : Option Addr} {n c B : Nat} (hn : n <= 100000) (hc : n <= c) (hL : LimL qs) (hr : RdQ w B A n qs) (hB : Below W.heap.size W w) :
 Calls Tryz.prog 105 #[.slice A n c] w (GotQR W w qs.tail (popE qs) (popV qs) 0) :=
 (refPop_raw hn hc hL hr).mono fun e w' h => GotQR.of hB h
def casS (s old v : List Nat) : List Nat := if 16 < v.length then s else if s = old then v else s
def casE (s old v : List Nat) : Int := if 16 < v.length then 1 else if s = old then 0 else 2
def casV (s old v : List Nat) : List Nat := if 16 < v.length then [] else if s = old then [] else s
theorem casS_lt {s v : List Nat} (old : List Nat) (hs : ∀ x ∈ s, x < 256) (hv : ∀ x ∈ v, x < 256) : ∀ x ∈ casS s old v, x < 256 := by
 unfold casS; split
 · exact hs
 · split
   · exact hv
   · exact hs
theorem casV_lt {s : List Nat} (v old : List Nat) (hs : ∀ x ∈ s, x < 256) : ∀ x ∈ casV s old v, x < 256 := by
 unfold casV; split
 · intro x hx; cases hx
 · split
   · intro x hx; cases hx
   · exact hs
theorem step_append_cells {P : Program} {t e : TypeId} {z : Value} {bytes : Nat} {W w : World} (hT : CellT P t e z bytes) {ops : Array Oper} {o : Oper} {a : Act} {K : Act -> World -> Prop} {Q : Exit -> Act -> World -> Prop} {E : Prop} (s x : Operand)
 (ho : o.op = .call { callee := .builtin .append, args := #[s, x], argTypes := #[t, t] }) (hg : o.guard = none)
 {A : Option Addr} {n c : Nat} {vs : List Value} (hs : a.eval s = .slice A n c) (hown : w.ownsRow W.heap.size e 1 (.slice A n c) n vs)
 {B : Nat} {A' : Option Addr} {m c' : Nat} {ws : List Value} (hx : a.eval x = .slice A' m c') (hr : Rd w B A' m ws) (h1 : ∀ u ∈ ws, u.oneCell' = true) (hnm : n + m <= 1099511627776) (hby : bytes <= 64) (hB : Below W.heap.size W w)
 (h : ∀ A2 c2 w2, w2.ownsRow W.heap.size e 1 (.slice A2 (n + m) c2) (n + m) (vs ++ ws) -> Below W.heap.size W w2 -> w.grownBy w2 (Value.slice A n c).ownBlock -> K (a.put o.dst (.slice A2 (n + m) c2)) w2) :
 if Region.wanted o (yielded ops a.tmps) = true then Oper.wp P o a w K Q else E := by
 have hw : Region.wanted o (yielded ops a.tmps) = true := by simp [Region.wanted, hg]
 rw [if_pos hw]
 obtain ⟨i, hi, hz, hsz, hbi⟩ := info_parts hT.info
 obtain ⟨v', w', hrun, h2, h3, h4⟩ := run_append_rd (P := P) w W.heap.size t o.type e i z bytes hT.under hi hz hsz hbi hT.one _ n vs hown B A' m c' ws hr h1
  (by unfold maxLen; omega) (by have := Nat.mul_le_mul hnm hby; omega) hB.size
 have hlt := hown.lt
 have hB2 : Below W.heap.size W w' := hB.grown h3 hB.size (fun k hk => (hlt k hk).1)
 obtain ⟨A2, c2, rfl, hr2⟩ := Rd.of_own h2
 have hgo := h A2 c2 w' h2 hB2 h3
 unfold Oper.wp execOp
 simp only [ho, resolve, invoke, builtin, Sem.run_bind, Sem.run_pure, Result.andThen_ok, List.map_toArray, List.map_cons, List.map_nil, hs, hx, hrun]
 exact hgo
theorem Blk.apart_own {w w' : World} {g n c base' size' : Nat} {t e' : TypeId} {cs : Array Value} {A' : Option Addr} {xs' : List Value} (h : Blk w g t cs) (ho : w.ownsRow base' e' size' (.slice A' n c) n xs') (hne : t ≠ e') (hg : w.grownBy w' (Value.slice A' n c).ownBlock) : Blk w' g t cs := by
 refine h.grown hg ?_
 rcases own_blk ho with ⟨q1, _, _⟩ | ⟨g', cur', q1, _, hk'⟩
 · rw [q1]; intro h0; cases h0
 · rw [q1]; intro h0
   have h3 : g = g' := by simpa [Value.ownBlock] using h0
   exact Blk.apart h hk' hne h3
theorem cellI : CellT Tryz.prog 22 3 (.int .i64 0) 8 := ⟨Tryz.underlying22, by kernel_rfl, rfl⟩
theorem iv_take (l : List Int) (k : Nat) : iv (l.take k) = (iv l).take k := by simp [iv]
theorem iv_drop (l : List Int) (k : Nat) : iv (l.drop k) = (iv l).drop k := by simp [iv]
theorem iv_get {l : List Int} {k : Nat} {z : Int} (h : l[k]? = some z) : (iv l)[k]? = some (.int .i64 z) := by simp [iv, h]
abbrev OwnI (W w : World) (A : Option Addr) (n c : Nat) (l : List Int) : Prop := w.ownsRow W.heap.size 3 1 (.slice A n c) n (iv l)
theorem ownI_len {W w : World} {A : Option Addr} {n c : Nat} {l : List Int} (h : OwnI W w A n c l) : l.length = n := by
 have := h.1; rw [iv_length] at this; omega
theorem ownI_nil (W w : World) : OwnI W w none 0 0 [] := ⟨rfl, .inl ⟨rfl, rfl⟩⟩
theorem ownI_empty {W w : World} (hB : Below W.heap.size W w) : OwnI W (w.alloc (.cells #[] 3)) (some ⟨w.heap.size, 0, none⟩) 0 0 [] :=
 World.ownsRow_made w #[] 0 hB.size (by decide) rfl
theorem ownI_at {W w : World} (hB : Below W.heap.size W w) {g : Nat} (hg : w.heap.size = g) : OwnI W (w.alloc (.cells #[] 3)) (some ⟨g, 0, none⟩) 0 0 [] := by
 subst hg; exact ownI_empty hB
theorem Rd.oneAt (w : World) (v : Value) (t : TypeId) {g : Nat} (hg : w.heap.size = g) : Rd (w.alloc (.cells #[v] t)) (g + 1) (some ⟨g, 0, none⟩) 1 [v] := by
 subst hg; exact Rd.oneV w v t
theorem own_of {W w w' : World} {e : TypeId} {size n : Nat} {v : Value} {xs : List Value} (hs : W.heap.size <= w.heap.size) (h : w'.ownsRow w.heap.size e size v n xs) : w'.ownsRow W.heap.size e size v n xs := by
 obtain ⟨h1, h2⟩ := h
 refine ⟨h1, ?_⟩
 rcases h2 with h2 | ⟨g, cap, cur, hv, hg, r⟩
 · exact .inl h2
 · exact .inr ⟨g, cap, cur, hv, Nat.le_trans hs hg, r⟩
def GotIR (W w : World) (l : List Int) (e : Int) (N : Int) (en : Ending) (w' : World) : Prop :=
 ∃ A c A' c', en = .returned (.tuple #[.slice A l.length c, resV e A' 0 c' N]) /\ OwnI W w' A l.length c l /\ OwnB W w' A' 0 c' [] /\ Below W.heap.size W w' /\ Below w.heap.size w w'
theorem GotIR.of {W w w' : World} {l : List Int} {e N : Int} {en : Ending} (hB : Below W.heap.size W w) (h : GotIR w w l e N en w') : GotIR W w l e N en w' := by
 obtain ⟨A, c, A', c', h1, h2, h3, h4, h5⟩ := h
 exact ⟨A, c, A', c', h1, own_of hB.size h2, own_of hB.size h3, hB.trans (h4.mono hB.size), h5⟩
def placeI (s : List Int) (x : Int) : Int := if x ∈ s then (s.idxOf x : Int) else -1
theorem place_first {s : List Int} {x : Int} {k : Nat} (hk : s[k]? = some x) (hn : ∀ j, j < k -> s[j]? ≠ some x) : placeI s x = (k : Int) := by
 have hm : x ∈ s := List.mem_of_getElem? hk
 unfold placeI
 rw [if_pos hm]
 congr 1
 induction s generalizing k with
 | nil => simp at hk
 | cons y t ih =>
   cases k with
   | zero => simp at hk; subst hk; simp
   | succ k =>
     have hy : y ≠ x := by have := hn 0 (by omega); simpa using this
     rw [List.idxOf_cons]
     have hb : (y == x) = false := by simpa using hy
     rw [hb]
     simp at hk
     have := ih hk (fun j hj => by have := hn (j + 1) (by omega); simpa using this) (by simpa [hy.symm] using hm)
     simp [this]
theorem place_none {s : List Int} {x : Int} (hn : ∀ j, j < s.length -> s[j]? ≠ some x) : placeI s x = -1 := by
 unfold placeI
 rw [if_neg]
 intro h
 obtain ⟨i, hi, e⟩ := List.getElem_of_mem h
 exact hn i hi (by rw [List.getElem?_eq_getElem hi, e])
theorem place_lt {s : List Int} {x : Int} (h : x ∈ s) : ∃ k : Nat, placeI s x = (k : Int) /\ k < s.length /\ s.erase x = s.take k ++ s.drop (k + 1) := by
 refine ⟨s.idxOf x, by unfold placeI; rw [if_pos h], List.idxOf_lt_length_of_mem h, ?_⟩
 rw [List.erase_eq_eraseIdx_of_idxOf rfl, List.eraseIdx_eq_take_drop_succ]
theorem place_no {s : List Int} {x : Int} (h : x ∉ s) : placeI s x = -1 := by unfold placeI; rw [if_neg h]
def takeS (s : List Int) (x : Int) : List Int := if x ∈ s then s else if 5 <= s.length then s else s ++ [x]
def takeE (s : List Int) (x : Int) : Int := if x ∈ s then 6 else if 5 <= s.length then 3 else 0
def takeN (s : List Int) (x : Int) : Int := if x ∈ s then 0 else if 5 <= s.length then 0 else (s.length : Int)
def freeE (s : List Int) (x : Int) : Int := if x ∈ s then 0 else 5
def freeN (s : List Int) (x : Int) : Int := if x ∈ s then (s.erase x).head?.getD (-1) else 0
def ownerE (s : List Int) : Int := if s.length = 0 then 5 else 0
def ownerN (s : List Int) : Int := s.head?.getD 0
structure CellS (P : Program) (t e : TypeId) (z : Value) (size bytes : Nat) : Prop where
 under : P.underlying t = some (.slice e)
 info : (P.info? e).map (fun i => (i.zero, i.size, i.bytes)) = some (some z, size, bytes)
 one : z.cells.size = size
 pos : 0 < size
theorem run_append_rdS {P : Program} (w : World) (base : Nat) (t ty e : TypeId) (i : TypeInfo) (z : Value) (size bytes : Nat) (ht : P.underlying t = some (.slice e)) (hi : P.info? e = some i) (hz : i.zero = some z)
 (hsize : i.size = size) (hby : i.bytes = bytes) (hzs : z.cells.size = size) (hpos : 0 < size)
 (v : Value) (n : Nat) (xs : List Value) (hown : w.ownsRow base e size v n xs)
 (B : Nat) (a : Option Addr) (m c : Nat) (vs : List Value) (hr : Rd w B a (m * size) vs) (h1 : ∀ u ∈ vs, u.oneCell' = true)
 (h63 : n + m <= maxLen) (hbytes : (n + m) * bytes <= 140737488355328) (hbase : base <= w.heap.size) :
 ∃ v' w', (Builtin.append_ #[t, t] ty #[v, .slice a m c]).run P w = .ok v' w' /\ w'.ownsRow base e size v' (n + m) (xs ++ vs) /\ w.grownBy w' v.ownBlock ∧
  (v'.ownBlock = v.ownBlock \/ v'.ownBlock = some w.heap.size) := by
 rcases Nat.eq_zero_or_pos m with h0 | h0
 · subst h0
   have hn : vs = [] := List.eq_nil_of_length_eq_zero (by have := hr.1; omega)
   subst hn
   cases a with
   | none =>
     refine ⟨v, w, ?_, by simpa using hown, World.grownBy.refl w _, .inl rfl⟩
     rcases hown.2 with ⟨rfl, rfl⟩ | ⟨g, cap, cur, rfl, _, _, hnc, _⟩
     · simp [Builtin.append_, run_underlying ht, sizeOf, typeInfo, hi, Builtin.lenOf, Builtin.firstCells]
     · simp [Builtin.append_, run_underlying ht, sizeOf, typeInfo, hi, Builtin.lenOf, Builtin.firstCells, hnc, storeCells]
   | some ad =>
     obtain ⟨v', w', hrun, h2, h3, _, h5⟩ := run_append_own_at (P := P) w base t ty e i z size bytes ht hi hz hsize hby hzs hpos v n xs hown ad 0 c [] (by simp) (by simp) h1 h63 hbytes hbase
     exact ⟨v', w', hrun, h2, h3, h5⟩
 · have hp : 0 < m * size := Nat.mul_pos h0 hpos
   obtain ⟨b, o, rfl, _, hc⟩ := hr.2 hp
   have hadd : ∀ j, (⟨b, o, none⟩ : Addr).add j = ⟨b, o + j, none⟩ := fun j => by unfold Addr.add; split <;> simp_all
   obtain ⟨v', w', hrun, h2, h3, _, h5⟩ := run_append_own_at (P := P) w base t ty e i z size bytes ht hi hz hsize hby hzs hpos v n xs hown ⟨b, o, none⟩ m c vs hr.1
    (fun j u hu => by
      have hj : j < m * size := by have := (List.getElem?_eq_some_iff.1 hu).1; rw [hr.1] at this; exact this
      rw [hadd, hc j hj, hu]) h1 h63 hbytes hbase
   exact ⟨v', w', hrun, h2, h3, h5⟩
theorem Rd.of_ownS {w : World} {base n size : Nat} {e : TypeId} {v : Value} {vs : List Value} (h : w.ownsRow base e size v n vs) (hpos : 0 < size) : ∃ a c, v = .slice a n c /\ Rd w w.heap.size a (n * size) vs := by
 have hl : vs.length = n * size := h.1
 rcases h.2 with ⟨rfl, rfl⟩ | ⟨g, cap, cur, rfl, _, hh, hnc, hm, hs, ht⟩
 · refine ⟨none, 0, rfl, hl, fun hn => by omega⟩
 · have hlt : g < w.heap.size := by
    rcases Nat.lt_or_ge g w.heap.size with h' | h'
    · exact h'
    · rw [Array.getElem?_eq_none h'] at hh; cases hh
   refine ⟨_, cap, rfl, hl, fun _ => ⟨g, 0, rfl, hlt, fun i hi => ?_⟩⟩
   have h1 := h.cellAt i (by omega)
   rw [Nat.zero_add]
   exact h1
theorem Rd.ownS {w : World} {base n c size : Nat} {e : TypeId} {A : Option Addr} {vs : List Value} (h : w.ownsRow base e size (.slice A n c) n vs) (hpos : 0 < size) : Rd w w.heap.size A (n * size) vs := by
 obtain ⟨a, c', hv, hr⟩ := Rd.of_ownS h hpos
 injection hv with h1
 subst h1
 exact hr
theorem own_prefix {w : World} {base n c size k : Nat} {e : TypeId} {A : Option Addr} {vs : List Value} (h : w.ownsRow base e size (.slice A n c) n vs) (hk : k <= n) : w.ownsRow base e size (.slice A k c) k (vs.take (k * size)) := by
 have hks : k * size <= n * size := Nat.mul_le_mul_right _ hk
 refine ⟨by rw [List.length_take, h.1]; omega, ?_⟩
 rcases h.2 with ⟨h1, h2⟩ | ⟨g, cap, cur, hv, hb, hh, hnc, hm, hs, ht⟩
 · injection h1 with h1 _ h3
   subst h1 h3
   obtain rfl : k = 0 := by omega
   exact .inl ⟨rfl, rfl⟩
 · injection hv with h1 _ h3
   subst h1 h3
   exact .inr ⟨g, c, cur, rfl, hb, hh, by omega, hm, hs, by rw [<- ht, List.take_take, Nat.min_eq_left hks]⟩
def cutS (A : Option Addr) (c k size : Nat) : Option Addr := if c = k then A else A.map (·.add (k * size))
theorem Rd.dropS {w : World} {B n k c size : Nat} {A : Option Addr} {vs : List Value} (h : Rd w B A (n * size) vs) (hk : k <= n) (hc : n <= c) : Rd w B (cutS A c k size) ((n - k) * size) (vs.drop (k * size)) := by
 have e0 : (n - k) * size = n * size - k * size := Nat.sub_mul n k size
 refine ⟨by rw [List.length_drop, h.1, e0], fun hn => ?_⟩
 have hlt : k < n := by
  rcases Nat.lt_or_ge k n with h' | h'
  · exact h'
  · have : n - k = 0 := by omega
    rw [this] at hn; simp at hn
 have hs : 0 < size := by
  rcases Nat.eq_zero_or_pos size with h' | h'
  · subst h'; simp at hn
  · exact h'
 obtain ⟨g, o, rfl, hb, hcell⟩ := h.2 (Nat.mul_pos (by omega) hs)
 unfold cutS
 rw [if_neg (by omega)]
 refine ⟨g, o + k * size, ?_, hb, fun i hi => ?_⟩
 · show some ((⟨g, o, none⟩ : Addr).add (k * size)) = _
   congr 1
   unfold Addr.add; split <;> simp_all
 · have : k * size <= n * size := Nat.mul_le_mul_right _ hk
   rw [Nat.add_assoc, hcell (k * size + i) (by omega), List.getElem?_drop]
theorem run_slice_fromS_ {P : Program} {t e : TypeId} {i : TypeInfo} {size : Nat} (ht : P.underlying t = some (.slice e)) (hi : P.info? e = some i) (hs : i.size = size) (A : Option Addr) (n c k : Nat) (hk : k <= n) (w : World) :
 (Instr.slice t (.slice A n c) (some (.int .i64 (k : Int))) none none).run P w = .ok (.slice (cutS A c k size) (n - k) (c - k)) w := by
 subst hs
 simp [Instr.slice, run_underlying ht, Instr.sliceBounds, Instr.sliceBound, asIntOf, hk, sizeOf, typeInfo, hi, cutS]
theorem own_addrS {w : World} {base n c size : Nat} {e : TypeId} {A : Option Addr} {vs : List Value} (h : w.ownsRow base e size (.slice A n c) n vs) (hn : 0 < n) : ∃ g, A = some ⟨g, 0, none⟩ /\ base <= g /\ g < w.heap.size := by
 rcases h.2 with ⟨h1, h2⟩ | ⟨g, cap, cur, hv, hb, hh, _⟩
 · omega
 · injection hv with h1
   exact ⟨g, h1, hb, Blk.lt hh⟩
theorem own_frozenS {w : World} {base size n c g : Nat} {e : TypeId} {vs : List Value} (h : w.ownsRow base e size (.slice (some ⟨g, 0, none⟩) n c) n vs) (j : Nat) : w.frozen? ⟨g, j, none⟩ = false := by
 rcases own_blk h with ⟨h1, _⟩ | ⟨g', cur, h1, _, h2⟩
 · cases h1
 · injection h1 with h1; injection h1 with h1; subst h1; exact h2.frozen j
section
variable {P : Program} {t e : TypeId} {z : Value} {size bytes : Nat}
theorem wpList_append_S {W w : World} (hT : CellS P t e z size bytes) {ops : Array Oper} {rest : List Oper} {o : Oper} {a : Act} {Q : Exit -> Act -> World -> Prop} (s x : Operand)
 (ho : o.op = .call { callee := .builtin .append, args := #[s, x], argTypes := #[t, t] }) (hw : Region.wanted o (yielded ops a.tmps) = true)
 {A : Option Addr} {n c : Nat} {vs : List Value} (hs : a.eval s = .slice A n c) (hown : w.ownsRow W.heap.size e size (.slice A n c) n vs)
 {B : Nat} {A' : Option Addr} {m c' : Nat} {ws : List Value} (hx : a.eval x = .slice A' m c') (hr : Rd w B A' (m * size) ws) (h1 : ∀ u ∈ ws, u.oneCell' = true) (hnm : n + m <= 1099511627776) (hby : bytes <= 100) (hB : Below W.heap.size W w)
 (h : ∀ A2 c2 w2, w2.ownsRow W.heap.size e size (.slice A2 (n + m) c2) (n + m) (vs ++ ws) -> Below W.heap.size W w2 -> w.grownBy w2 (Value.slice A n c).ownBlock -> wpList P ops Q rest (a.put o.dst (.slice A2 (n + m) c2)) w2) :
 wpList P ops Q (o :: rest) a w := by
 obtain ⟨i, hi, hz, hsz, hbi⟩ := info_parts hT.info
 obtain ⟨v', w', hrun, h2, h3, h4⟩ := run_append_rdS (P := P) w W.heap.size t o.type e i z size bytes hT.under hi hz hsz hbi hT.one hT.pos _ n vs hown B A' m c' ws hr h1
  (by unfold maxLen; omega) (by have := Nat.mul_le_mul hnm hby; omega) hB.size
 have hlt := hown.lt
 have hB2 : Below W.heap.size W w' := hB.grown h3 hB.size (fun k hk => (hlt k hk).1)
 obtain ⟨A2, c2, rfl, hr2⟩ := Rd.of_ownS h2 hT.pos
 have hgo := h A2 c2 w' h2 hB2 h3
 unfold wpList
 rw [if_pos hw]
 refine Or.inl ?_
 unfold Oper.wp execOp
 simp only [ho, resolve, invoke, builtin, Sem.run_bind, Sem.run_pure, Result.andThen_ok, List.map_toArray, List.map_cons, List.map_nil, hs, hx, hrun]
 exact hgo
theorem wp_append_S {W w : World} (hT : CellS P t e z size bytes) {o : Oper} {a : Act} {next : Act -> World -> Prop} {Q : Exit -> Act -> World -> Prop} (s x : Operand)
 (ho : o.op = .call { callee := .builtin .append, args := #[s, x], argTypes := #[t, t] })
 {A : Option Addr} {n c : Nat} {vs : List Value} (hs : a.eval s = .slice A n c) (hown : w.ownsRow W.heap.size e size (.slice A n c) n vs)
 {B : Nat} {A' : Option Addr} {m c' : Nat} {ws : List Value} (hx : a.eval x = .slice A' m c') (hr : Rd w B A' (m * size) ws) (h1 : ∀ u ∈ ws, u.oneCell' = true) (hnm : n + m <= 1099511627776) (hby : bytes <= 100) (hB : Below W.heap.size W w)
 (h : ∀ A2 c2 w2, w2.ownsRow W.heap.size e size (.slice A2 (n + m) c2) (n + m) (vs ++ ws) -> Below W.heap.size W w2 -> w.grownBy w2 (Value.slice A n c).ownBlock -> next (a.put o.dst (.slice A2 (n + m) c2)) w2) :
 o.wp P a w next Q := by
 obtain ⟨i, hi, hz, hsz, hbi⟩ := info_parts hT.info
 obtain ⟨v', w', hrun, h2, h3, h4⟩ := run_append_rdS (P := P) w W.heap.size t o.type e i z size bytes hT.under hi hz hsz hbi hT.one hT.pos _ n vs hown B A' m c' ws hr h1
  (by unfold maxLen; omega) (by have := Nat.mul_le_mul hnm hby; omega) hB.size
 have hlt := hown.lt
 have hB2 : Below W.heap.size W w' := hB.grown h3 hB.size (fun k hk => (hlt k hk).1)
 obtain ⟨A2, c2, rfl, hr2⟩ := Rd.of_ownS h2 hT.pos
 have hgo := h A2 c2 w' h2 hB2 h3
 unfold Oper.wp execOp
 simp only [ho, resolve, invoke, builtin, Sem.run_bind, Sem.run_pure, Result.andThen_ok, List.map_toArray, List.map_cons, List.map_nil, hs, hx, hrun]
 exact hgo
theorem step_append_S {W w : World} (hT : CellS P t e z size bytes) {ops : Array Oper} {o : Oper} {a : Act} {K : Act -> World -> Prop} {Q : Exit -> Act -> World -> Prop} {E : Prop} (s x : Operand)
 (ho : o.op = .call { callee := .builtin .append, args := #[s, x], argTypes := #[t, t] }) (hg : o.guard = none)
 {A : Option Addr} {n c : Nat} {vs : List Value} (hs : a.eval s = .slice A n c) (hown : w.ownsRow W.heap.size e size (.slice A n c) n vs)
 {B : Nat} {A' : Option Addr} {m c' : Nat} {ws : List Value} (hx : a.eval x = .slice A' m c') (hr : Rd w B A' (m * size) ws) (h1 : ∀ u ∈ ws, u.oneCell' = true) (hnm : n + m <= 1099511627776) (hby : bytes <= 100) (hB : Below W.heap.size W w)
 (h : ∀ A2 c2 w2, w2.ownsRow W.heap.size e size (.slice A2 (n + m) c2) (n + m) (vs ++ ws) -> Below W.heap.size W w2 -> w.grownBy w2 (Value.slice A n c).ownBlock -> K (a.put o.dst (.slice A2 (n + m) c2)) w2) :
 if Region.wanted o (yielded ops a.tmps) = true then Oper.wp P o a w K Q else E := by
 have hw : Region.wanted o (yielded ops a.tmps) = true := by simp [Region.wanted, hg]
 rw [if_pos hw]
 exact wp_append_S hT s x ho hs hown hx hr h1 hnm hby hB h
end
abbrev Pr := List Nat × List Nat
def flat (ps : List Pr) : List (List Nat) := ps.flatMap fun p => [p.1, p.2]
theorem flat_cons (p : Pr) (ps : List Pr) : flat (p :: ps) = p.1 :: p.2 :: flat ps := rfl
theorem flat_append (ps qs : List Pr) : flat (ps ++ qs) = flat ps ++ flat qs := by simp [flat]
theorem flat_length (ps : List Pr) : (flat ps).length = ps.length * 2 := by
 induction ps with
 | nil => rfl
 | cons p ps ih => rw [flat_cons]; simp [ih]; omega
theorem flat_key (ps : List Pr) (i : Nat) : (flat ps)[i * 2]? = ps[i]?.map (·.1) := by
 induction ps generalizing i with
 | nil => simp [flat]
 | cons p ps ih =>
   cases i with
   | zero => rfl
   | succ i => rw [flat_cons, show (i + 1) * 2 = i * 2 + 1 + 1 by omega]; simp [ih]
theorem flat_val (ps : List Pr) (i : Nat) : (flat ps)[i * 2 + 1]? = ps[i]?.map (·.2) := by
 induction ps generalizing i with
 | nil => simp [flat]
 | cons p ps ih =>
   cases i with
   | zero => rfl
   | succ i => rw [flat_cons, show (i + 1) * 2 + 1 = (i * 2 + 1) + 1 + 1 by omega]; simp [ih]
theorem flat_take (ps : List Pr) (k : Nat) : flat (ps.take k) = (flat ps).take (k * 2) := by
 induction ps generalizing k with
 | nil => simp [flat]
 | cons p ps ih =>
   cases k with
   | zero => simp [flat]
   | succ k => rw [List.take_succ_cons, flat_cons, flat_cons, ih, show (k + 1) * 2 = k * 2 + 1 + 1 by omega]; simp
theorem flat_drop (ps : List Pr) (k : Nat) : flat (ps.drop k) = (flat ps).drop (k * 2) := by
 induction ps generalizing k with
 | nil => simp [flat]
 | cons p ps ih =>
   cases k with
   | zero => simp
   | succ k => rw [List.drop_succ_cons, flat_cons, ih, show (k + 1) * 2 = k * 2 + 1 + 1 by omega]; simp
def RdP (w : World) (B : Nat) (A : Option Addr) (n : Nat) (ps : List Pr) : Prop := ∃ vs, Rd w B A (n * 2) vs /\ Cells w B vs (flat ps)
section
variable {w w' : World} {B B' n : Nat} {A : Option Addr} {ps : List Pr}
theorem RdP.below (h : RdP w B A n ps) (hb : Below B w w') : RdP w' B A n ps := by obtain ⟨vs, h1, h2⟩ := h; exact ⟨vs, h1.below hb, h2.below hb⟩
theorem RdP.fit (h : RdP w B A n ps) : RdP w w.heap.size A n ps := by obtain ⟨vs, h1, h2⟩ := h; exact ⟨vs, h1.fit, h2.fit⟩
theorem RdP.length (h : RdP w B A n ps) : ps.length = n := by
 obtain ⟨vs, h1, h2⟩ := h
 have := h2.len
 rw [h1.1, flat_length] at this
 omega
theorem RdP.nil (w : World) (B : Nat) (A : Option Addr) : RdP w B A 0 [] := ⟨[], Rd.none_ _ _ _, Cells.nil _ _⟩
theorem RdP.at {k : Nat} (h : RdP w B A n ps) (hk : k < n) : ∃ b o p A1 c1 A2 c2, A = some ⟨b, o, none⟩ /\ ps[k]? = some p /\ w.cell? ⟨b, o + k * 2, none⟩ = some (.slice A1 p.1.length c1) /\ w.cell? ⟨b, o + k * 2 + 1, none⟩ = some (.slice A2 p.2.length c2) ∧
 Rd w B A1 p.1.length (bv p.1) /\ Rd w B A2 p.2.length (bv p.2) := by
 have hlen := h.length
 obtain ⟨vs, h1, h2⟩ := h
 obtain ⟨b, o, e, _, hc⟩ := h1.2 (by omega)
 obtain ⟨p, hp⟩ : ∃ p, ps[k]? = some p := ⟨_, List.getElem?_eq_getElem (by omega)⟩
 obtain ⟨A1, c1, e1, r1⟩ := h2.cell (k * 2) p.1 (by rw [flat_key, hp]; rfl)
 obtain ⟨A2, c2, e2, r2⟩ := h2.cell (k * 2 + 1) p.2 (by rw [flat_val, hp]; rfl)
 exact ⟨b, o, p, A1, c1, A2, c2, e, hp, by rw [hc _ (by omega), e1], by rw [Nat.add_assoc, hc _ (by omega), e2], r1, r2⟩
end
theorem cellP : CellS Tryz.prog 31 81 (.agg #[.slice none 0 0, .slice none 0 0]) 2 48 := ⟨Tryz.underlying31, by kernel_rfl, rfl, by omega⟩
def OwnP (W w : World) (A : Option Addr) (n c : Nat) (ps : List Pr) : Prop :=
 ∃ vs, w.ownsRow W.heap.size 81 2 (.slice A n c) n vs /\ Owns W w vs (flat ps)
theorem OwnP.rd {W w : World} {A : Option Addr} {n c : Nat} {ps : List Pr} (h : OwnP W w A n c ps) : RdP w w.heap.size A n ps := by
 obtain ⟨vs, h1, h2⟩ := h
 exact ⟨vs, Rd.ownS h1 (by omega), h2.cells⟩
theorem OwnP.below {W w w' : World} {A : Option Addr} {n c : Nat} {ps : List Pr} (h : OwnP W w A n c ps) (hb : Below w.heap.size w w') : OwnP W w' A n c ps := by
 obtain ⟨vs, h1, h2⟩ := h
 exact ⟨vs, ownsRow_below h1 hb, h2.below hb⟩
theorem OwnP.length {W w : World} {A : Option Addr} {n c : Nat} {ps : List Pr} (h : OwnP W w A n c ps) : ps.length = n := h.rd.length
theorem OwnP.nil (W w : World) : OwnP W w none 0 0 [] := ⟨[], ⟨rfl, .inl ⟨rfl, rfl⟩⟩, Owns.nil _ _⟩
theorem OwnP.cap {W w : World} {A : Option Addr} {n c : Nat} {ps : List Pr} (h : OwnP W w A n c ps) : n <= c := by
 obtain ⟨vs, h1, _⟩ := h
 exact (own_cap h1).1
theorem OwnP.set_t {W w : World} {A : Option Addr} {n c b i : Nat} {t : TypeId} {u : Value} {cs : Array Value} {ps : List Pr} (h : OwnP W w A n c ps) (hb : Blk w b t cs) (h1 : 5 ≠ t) (h2 : 81 ≠ t) : OwnP W (w.setCell ⟨b, i, none⟩ u) A n c ps := by
 obtain ⟨vs, g1, g2⟩ := h
 exact ⟨vs, own_set_t g1 hb h2, g2.set_t hb h1⟩
theorem OwnP.put3 {W w : World} {A : Option Addr} {n c b : Nat} {t : TypeId} {x0 y0 z0 : Value} {ps : List Pr} (h : OwnP W w A n c ps) (hb : Blk w b t #[x0, y0, z0]) (h1 : 5 ≠ t) (h2 : 81 ≠ t) (x y z : Value) :
 OwnP W (((w.setCell ⟨b, 0, none⟩ x).setCell ⟨b, 1, none⟩ y).setCell ⟨b, 2, none⟩ z) A n c ps :=
 ((h.set_t hb h1 h2).set_t (hb.set_ 0 x) h1 h2).set_t ((hb.set_ 0 x).set_ 1 y) h1 h2
theorem more_ {W w w' : World} (hs : W.heap.size <= w.heap.size) {e : TypeId} {size n : Nat} {v : Value} {xs : List Value} (h : w'.ownsRow w.heap.size e size v n xs) : w'.ownsRow W.heap.size e size v n xs := by
 obtain ⟨h1, h2⟩ := h
 refine ⟨h1, ?_⟩
 rcases h2 with h2 | ⟨g, cap, cur, hv, hg, r⟩
 · exact .inl h2
 · exact .inr ⟨g, cap, cur, hv, Nat.le_trans hs hg, r⟩
theorem Owns.of {W w w' : World} (hs : W.heap.size <= w.heap.size) {vs : List Value} {qs : List (List Nat)} (h : Owns w w' vs qs) : Owns W w' vs qs :=
 ⟨h.len, fun i l hl => by obtain ⟨A', c', e, ho⟩ := h.cell i l hl; exact ⟨A', c', e, more_ hs ho⟩⟩
theorem OwnP.of {W w w' : World} {A : Option Addr} {n c : Nat} {ps : List Pr} (hs : W.heap.size <= w.heap.size) (h : OwnP w w' A n c ps) : OwnP W w' A n c ps := by
 obtain ⟨vs, h1, h2⟩ := h
 exact ⟨vs, more_ hs h1, h2.of hs⟩
def GotP (W w : World) (ps : List Pr) (e : Ending) (w' : World) : Prop := ∃ A c, e = .returned (.slice A ps.length c) /\ OwnP W w' A ps.length c ps /\ Below W.heap.size W w' /\ Below w.heap.size w w'
theorem GotP.of {W w w' : World} {ps : List Pr} {e : Ending} (hB : Below W.heap.size W w) (h : GotP w w ps e w') : GotP W w ps e w' := by
 obtain ⟨A, c, h1, h2, h3, h4⟩ := h
 exact ⟨A, c, h1, h2.of hB.size, hB.trans (h3.mono hB.size), h4⟩
def GotPR (W w : World) (ps : List Pr) (e : Int) (l : List Nat) (N : Int) (en : Ending) (w' : World) : Prop :=
 ∃ A c A' c', en = .returned (.tuple #[.slice A ps.length c, resV e A' l.length c' N]) /\ OwnP W w' A ps.length c ps /\ OwnB W w' A' l.length c' l /\ Below W.heap.size W w' /\ Below w.heap.size w w'
theorem GotPR.of {W w w' : World} {ps : List Pr} {e : Int} {l : List Nat} {N : Int} {en : Ending} (hB : Below W.heap.size W w) (h : GotPR w w ps e l N en w') : GotPR W w ps e l N en w' := by
 obtain ⟨A, c, A', c', h1, h2, h3, h4, h5⟩ := h
 exact ⟨A, c, A', c', h1, h2.of hB.size, more_ hB.size h3, hB.trans (h4.mono hB.size), h5⟩
def LimP (ps : List Pr) : Prop := ∀ p ∈ ps, Lim 0 p.1.length /\ Lim 0 p.2.length
def BytesP (ps : List Pr) : Prop := ∀ p ∈ ps, (∀ x ∈ p.1, x < 256) /\ ∀ x ∈ p.2, x < 256
theorem Owns.two {W w : World} {vs : List Value} {qs : List (List Nat)} {A1 A2 : Option Addr} {c1 c2 : Nat} {k v : List Nat} (h : Owns W w vs qs) (h1 : OwnB W w A1 k.length c1 k) (h2 : OwnB W w A2 v.length c2 v) : Owns W w (vs ++ [.slice A1 k.length c1, .slice A2 v.length c2]) (qs ++ [k, v]) := by
 have := (h.snoc (c := c1) h1).snoc (c := c2) h2
 simpa using this
theorem Rd.twoAt (w : World) (u v : Value) (t : TypeId) {g : Nat} (hg : w.heap.size = g) : Rd (w.alloc (.cells #[u, v] t)) (g + 1) (some ⟨g, 0, none⟩) (1 * 2) [u, v] := by
 subst hg; exact Rd.made w #[u, v] t (0, 0) 2 rfl
theorem Owns.grownP {W w w' : World} {base' size' n' c' : Nat} {A' : Option Addr} {vs xs' : List Value} {qs : List (List Nat)} (h : Owns W w vs qs) (ho : w.ownsRow base' 81 size' (.slice A' n' c') n' xs') (hg : w.grownBy w' (Value.slice A' n' c').ownBlock) : Owns W w' vs qs :=
 ⟨h.len, fun i l hl => by obtain ⟨A, c, e, hq⟩ := h.cell i l hl; exact ⟨A, c, e, own_grown_t hq ho (by decide) hg⟩⟩
namespace Mp
def idx {α : Type} [DecidableEq α] (s : List α) (x : α) : Nat := s.idxOf x
def place {α : Type} [DecidableEq α] (s : List α) (x : α) : Int := if x ∈ s then (idx s x : Int) else -1
section
variable {α : Type} [DecidableEq α]
theorem place_first {s : List α} {x : α} {k : Nat} (hk : s[k]? = some x) (hn : ∀ j, j < k -> s[j]? ≠ some x) : place s x = (k : Int) := by
 have hm : x ∈ s := List.mem_of_getElem? hk
 unfold place
 rw [if_pos hm]
 congr 1
 unfold idx
 induction s generalizing k with
 | nil => simp at hk
 | cons y t ih =>
   cases k with
   | zero => simp at hk; subst hk; simp
   | succ k =>
     have hy : y ≠ x := by have := hn 0 (by omega); simpa using this
     rw [List.idxOf_cons]
     have hb : (y == x) = false := by simpa using hy
     rw [hb]
     simp at hk
     have := ih hk (fun j hj => by have := hn (j + 1) (by omega); simpa using this) (by simpa [hy.symm] using hm)
     simp [this]
theorem place_none {s : List α} {x : α} (hn : ∀ j, j < s.length -> s[j]? ≠ some x) : place s x = -1 := by
 unfold place
 rw [if_neg]
 intro h
 obtain ⟨i, hi, e⟩ := List.getElem_of_mem h
 exact hn i hi (by rw [List.getElem?_eq_getElem hi, e])
theorem place_lt {s : List α} {x : α} (h : x ∈ s) : ∃ k : Nat, place s x = (k : Int) /\ s[k]? = some x /\ idx s x = k := by
 refine ⟨s.idxOf x, by unfold place; rw [if_pos h]; rfl, ?_, rfl⟩
 have := List.idxOf_lt_length_of_mem h
 rw [List.getElem?_eq_getElem this, List.getElem_idxOf]
theorem place_no {s : List α} {x : α} (h : x ∉ s) : place s x = -1 := by unfold place; rw [if_neg h]
end
def ltB : List Nat -> List Nat -> Bool
 | _, [] => false
 | [], _ :: _ => true
 | a :: x, b :: y => decide (a < b) || (decide (a = b) && ltB x y)
theorem ltB_irrefl (x : List Nat) : ltB x x = false := by
 induction x with
 | nil => rfl
 | cons a x ih => simp [ltB, ih]
theorem ltB_trans {x y z : List Nat} (h1 : ltB x y = true) (h2 : ltB y z = true) : ltB x z = true := by
 induction x generalizing y z with
 | nil =>
   cases z with
   | nil => cases y <;> simp [ltB] at h2
   | cons c z => rfl
 | cons a x ih =>
   cases y with
   | nil => simp [ltB] at h1
   | cons b y =>
     cases z with
     | nil => simp [ltB] at h2
     | cons c z =>
       simp only [ltB, Bool.or_eq_true, decide_eq_true_eq, Bool.and_eq_true] at h1 h2 |-
       rcases h1 with h1 | ⟨rfl, h1⟩ <;> rcases h2 with h2 | ⟨rfl, h2⟩
       · exact .inl (by omega)
       · exact .inl h1
       · exact .inl h2
       · exact .inr ⟨rfl, ih h1 h2⟩
theorem ltB_total {x y : List Nat} (h1 : ltB x y = false) (h2 : ltB y x = false) : x = y := by
 induction x generalizing y with
 | nil =>
   cases y with
   | nil => rfl
   | cons b y => simp [ltB] at h1
 | cons a x ih =>
   cases y with
   | nil => simp [ltB] at h2
   | cons b y =>
     simp only [ltB, Bool.or_eq_false_iff, decide_eq_false_iff_not, Bool.and_eq_false_imp, decide_eq_true_eq] at h1 h2
     have e : a = b := by omega
     subst e
     rw [ih (h1.2 rfl) (h2.2 rfl)]
abbrev Pr := List Nat × List Nat
def Rises (ps : List Pr) : Prop := ps.Pairwise fun p q => ltB p.1 q.1 = true
def keys (ps : List Pr) : List (List Nat) := ps.map (·.1)
def cut (ps : List Pr) (k : List Nat) : Nat := (ps.takeWhile fun p => ltB p.1 k).length
theorem cut_le (ps : List Pr) (k : List Nat) : cut ps k <= ps.length := (List.takeWhile_sublist _).length_le
theorem cut_is {ps : List Pr} {k : List Nat} {c : Nat} (hc : c <= ps.length) (h1 : ∀ (j : Nat) (p : Pr), j < c -> ps[j]? = some p -> ltB p.1 k = true) (h2 : ∀ p : Pr, ps[c]? = some p -> ltB p.1 k = false) : cut ps k = c := by
 unfold cut
 induction ps generalizing c with
 | nil => simp at hc; subst hc; rfl
 | cons q ps ih =>
   cases c with
   | zero =>
     have := h2 q rfl
     simp [this]
   | succ c =>
     have := h1 0 q (by omega) rfl
     simp only [List.takeWhile_cons, this, if_true, List.length_cons]
     rw [ih (by simpa using hc) (fun j p hj hp => h1 (j + 1) p (by omega) (by simpa using hp)) (fun p hp => h2 p (by simpa using hp))]
def putS (ps : List Pr) (k v : List Nat) : List Pr :=
 if 8 < k.length \/ 16 < v.length then ps else if k ∈ keys ps then ps.set (idx (keys ps) k) (k, v) else if 8 <= ps.length then ps else ps.take (cut ps k) ++ (k, v) :: ps.drop (cut ps k)
def putE (ps : List Pr) (k v : List Nat) : Int :=
 if 8 < k.length \/ 16 < v.length then 1 else if k ∈ keys ps then 0 else if 8 <= ps.length then 3 else 0
def putV (ps : List Pr) (k v : List Nat) : List Nat :=
 if 8 < k.length \/ 16 < v.length then [] else if k ∈ keys ps then (ps[idx (keys ps) k]?.map (·.2)).getD [] else []
def putN (ps : List Pr) (k v : List Nat) : Int :=
 if 8 < k.length \/ 16 < v.length then 0 else if k ∈ keys ps then (ps.length : Int) else if 8 <= ps.length then 0 else ((ps.length + 1 : Nat) : Int)
def getE (ps : List Pr) (k : List Nat) : Int := if k ∈ keys ps then 0 else 5
def getV (ps : List Pr) (k : List Nat) : List Nat := if k ∈ keys ps then (ps[idx (keys ps) k]?.map (·.2)).getD [] else []
def delS (ps : List Pr) (k : List Nat) : List Pr := if k ∈ keys ps then ps.eraseIdx (idx (keys ps) k) else ps
end Mp
namespace Mp
theorem rises_keys {ps : List Pr} : Rises ps ↔ (keys ps).Pairwise fun a b => ltB a b = true := by
 unfold Rises keys; rw [List.pairwise_map]
theorem cut_sides {ps : List Pr} {k : List Nat} (hr : Rises ps) (hk : k ∉ keys ps) : (∀ p ∈ ps.take (cut ps k), ltB p.1 k = true) /\ ∀ p ∈ ps.drop (cut ps k), ltB k p.1 = true := by
 unfold cut
 induction ps with
 | nil => simp
 | cons q ps ih =>
   have hr' := List.pairwise_cons.1 hr
   have hk' : k ≠ q.1 /\ k ∉ keys ps := by simpa [keys] using hk
   cases hq : ltB q.1 k with
   | true =>
     have ih' := ih hr'.2 hk'.2
     simp only [List.takeWhile_cons, hq, if_true, List.length_cons, List.take_succ_cons, List.drop_succ_cons]
     refine ⟨fun p hp => ?_, ih'.2⟩
     rcases List.mem_cons.1 hp with rfl | hp
     · exact hq
     · exact ih'.1 p hp
   | false =>
     simp only [List.takeWhile_cons, hq, Bool.false_eq_true, if_false, List.length_nil, List.take_zero, List.drop_zero]
     have hqk : ltB k q.1 = true := by
      cases h : ltB k q.1 with
      | true => rfl
      | false => exact absurd (ltB_total h hq) hk'.1
     refine ⟨by simp, fun p hp => ?_⟩
     rcases List.mem_cons.1 hp with rfl | hp
     · exact hqk
     · exact ltB_trans hqk (hr'.1 p hp)
structure Inv (ps : List Pr) : Prop where
 rise : Rises ps
 few : ps.length <= 8
 len : ∀ p ∈ ps, p.1.length <= 8 /\ p.2.length <= 16
 byt : ∀ p ∈ ps, (∀ x ∈ p.1, x < 256) /\ ∀ x ∈ p.2, x < 256
theorem Inv.nil : Inv [] := ⟨List.Pairwise.nil, by simp, by simp, by simp⟩
theorem keys_set {ps : List Pr} {i : Nat} {k v : List Nat} (h : (keys ps)[i]? = some k) : keys (ps.set i (k, v)) = keys ps := by
 unfold keys at h |-
 rw [List.map_set]
 apply List.ext_getElem?
 intro j
 by_cases hij : i = j
 · subst hij
   have hlt : i < (ps.map (·.1)).length := by
    rcases Nat.lt_or_ge i (ps.map (·.1)).length with h' | h'
    · exact h'
    · rw [List.getElem?_eq_none h'] at h; cases h
   rw [List.getElem?_set_self hlt, h]
 · rw [List.getElem?_set_ne hij]
theorem Inv.put {ps : List Pr} {k v : List Nat} (h : Inv ps) (hk : ∀ x ∈ k, x < 256) (hv : ∀ x ∈ v, x < 256) : Inv (putS ps k v) := by
 unfold putS
 by_cases hlong : 8 < k.length \/ 16 < v.length
 · rw [if_pos hlong]; exact h
 · rw [if_neg hlong]
   by_cases hin : k ∈ keys ps
   · rw [if_pos hin]
     obtain ⟨i, _, hi, hix⟩ := place_lt hin
     rw [hix]
     refine ⟨?_, by simp; exact h.few, fun p hp => ?_, fun p hp => ?_⟩
     · rw [rises_keys, keys_set hi, <- rises_keys]; exact h.rise
     · rcases List.mem_or_eq_of_mem_set hp with hp | rfl
       · exact h.len p hp
       · exact ⟨by simp; omega, by simp; omega⟩
     · rcases List.mem_or_eq_of_mem_set hp with hp | rfl
       · exact h.byt p hp
       · exact ⟨hk, hv⟩
   · rw [if_neg hin]
     by_cases hf : 8 <= ps.length
     · rw [if_pos hf]; exact h
     · rw [if_neg hf]
       obtain ⟨s1, s2⟩ := cut_sides h.rise hin
       have hc := cut_le ps k
       have hm : ∀ p, p ∈ ps.take (cut ps k) ++ (k, v) :: ps.drop (cut ps k) -> p ∈ ps \/ p = (k, v) := fun p hp => by
        rcases List.mem_append.1 hp with hp | hp
        · exact .inl (List.mem_of_mem_take hp)
        · rcases List.mem_cons.1 hp with hp | hp
          · exact .inr hp
          · exact .inl (List.mem_of_mem_drop hp)
       refine ⟨?_, by simp; omega, fun p hp => ?_, fun p hp => ?_⟩
       · unfold Rises
         rw [List.pairwise_append]
         refine ⟨h.rise.sublist (List.take_sublist _ _), ?_, fun p hp q hq => ?_⟩
         · rw [List.pairwise_cons]
           exact ⟨fun q hq => s2 q hq, h.rise.sublist (List.drop_sublist _ _)⟩
         · rcases List.mem_cons.1 hq with rfl | hq
           · exact s1 p hp
           · exact ltB_trans (s1 p hp) (s2 q hq)
       · rcases hm p hp with hp | rfl
         · exact h.len p hp
         · exact ⟨by simp; omega, by simp; omega⟩
       · rcases hm p hp with hp | rfl
         · exact h.byt p hp
         · exact ⟨hk, hv⟩
theorem Inv.del {ps : List Pr} {k : List Nat} (h : Inv ps) : Inv (delS ps k) := by
 unfold delS
 split
 · have hs := List.eraseIdx_sublist ps (idx (keys ps) k)
   exact ⟨h.rise.sublist hs, Nat.le_trans hs.length_le h.few, fun p hp => h.len p (hs.subset hp), fun p hp => h.byt p (hs.subset hp)⟩
 · exact h
theorem getV_mem {ps : List Pr} {k : List Nat} : getV ps k = [] \/ ∃ p ∈ ps, getV ps k = p.2 := by
 unfold getV
 split
 · cases h : ps[idx (keys ps) k]? with
   | none => exact .inl rfl
   | some p => exact .inr ⟨p, List.mem_of_getElem? h, rfl⟩
 · exact .inl rfl
theorem putV_mem {ps : List Pr} {k v : List Nat} : putV ps k v = [] \/ ∃ p ∈ ps, putV ps k v = p.2 := by
 unfold putV
 split
 · exact .inl rfl
 · split
   · cases h : ps[idx (keys ps) k]? with
     | none => exact .inl rfl
     | some p => exact .inr ⟨p, List.mem_of_getElem? h, rfl⟩
   · exact .inl rfl
end Mp
structure Ob where
 reg : List Nat
 q : List (List Nat)
 lk : List Int
 mp : List Pr
structure Cm where
 kind : Int
 who : Int
 key : List Nat
 val : List Nat
 old : List Nat
structure OA where
 A0 : Option Addr
 c0 : Nat
 A1 : Option Addr
 c1 : Nat
 A2 : Option Addr
 c2 : Nat
 A3 : Option Addr
 c3 : Nat
structure CA where
 Ak : Option Addr
 ck : Nat
 Av : Option Addr
 cv : Nat
 Ao : Option Addr
 co : Nat
def objC (a : OA) (s : Ob) : Array Value := #[.slice a.A0 s.reg.length a.c0, .slice a.A1 s.q.length a.c1, .slice a.A2 s.lk.length a.c2, .slice a.A3 s.mp.length a.c3]
def cmdC (a : CA) (c : Cm) : Array Value := #[.int .i64 c.kind, .int .i64 c.who, .slice a.Ak c.key.length a.ck, .slice a.Av c.val.length a.cv, .slice a.Ao c.old.length a.co]
def objV (a : OA) (s : Ob) : Value := .agg (objC a s)
def cmdV (a : CA) (c : Cm) : Value := .agg (cmdC a c)
structure RdO (w : World) (B : Nat) (a : OA) (s : Ob) : Prop where
 r0 : Rd w B a.A0 s.reg.length (bv s.reg)
 r1 : RdQ w B a.A1 s.q.length s.q
 r2 : Rd w B a.A2 s.lk.length (iv s.lk)
 r3 : RdP w B a.A3 s.mp.length s.mp
 l1 : s.q.length <= a.c1
 l2 : s.lk.length <= a.c2
 l3 : s.mp.length <= a.c3
structure RdC (w : World) (B : Nat) (a : CA) (c : Cm) : Prop where
 rk : Rd w B a.Ak c.key.length (bv c.key)
 rv : Rd w B a.Av c.val.length (bv c.val)
 ro : Rd w B a.Ao c.old.length (bv c.old)
structure OwnO (W w : World) (a : OA) (s : Ob) : Prop where
 o0 : OwnB W w a.A0 s.reg.length a.c0 s.reg
 o1 : OwnQ W w a.A1 s.q.length a.c1 s.q
 o2 : OwnI W w a.A2 s.lk.length a.c2 s.lk
 o3 : OwnP W w a.A3 s.mp.length a.c3 s.mp
section
variable {W w w' : World} {B : Nat} {a : OA} {ca : CA} {s : Ob} {c : Cm}
theorem RdO.below (h : RdO w B a s) (hb : Below B w w') : RdO w' B a s := ⟨h.r0.below hb, h.r1.below hb, h.r2.below hb, h.r3.below hb, h.l1, h.l2, h.l3⟩
theorem RdO.fit (h : RdO w B a s) : RdO w w.heap.size a s := ⟨h.r0.fit, h.r1.fit, h.r2.fit, h.r3.fit, h.l1, h.l2, h.l3⟩
theorem RdC.below (h : RdC w B ca c) (hb : Below B w w') : RdC w' B ca c := ⟨h.rk.below hb, h.rv.below hb, h.ro.below hb⟩
theorem RdC.fit (h : RdC w B ca c) : RdC w w.heap.size ca c := ⟨h.rk.fit, h.rv.fit, h.ro.fit⟩
theorem RdC.below' (h : RdC w w.heap.size ca c) (hb : Below w.heap.size w w') : RdC w' w'.heap.size ca c := (h.below hb).fit
theorem OwnQ.cap {W w : World} {A : Option Addr} {n c : Nat} {qs : List (List Nat)} (h : OwnQ W w A n c qs) : n <= c := by obtain ⟨vs, h1, _⟩ := h; exact (own_cap h1).1
theorem OwnO.rd (h : OwnO W w a s) : RdO w w.heap.size a s := ⟨Rd.own_ h.o0, h.o1.rd, Rd.own_ h.o2, h.o3.rd, h.o1.cap, (own_cap h.o2).1, h.o3.cap⟩
theorem OwnO.below (h : OwnO W w a s) (hb : Below w.heap.size w w') : OwnO W w' a s := ⟨own_below h.o0 hb, h.o1.below hb, ownsRow_below h.o2 hb, h.o3.below hb⟩
theorem OwnO.of {W w w' : World} (hs : W.heap.size <= w.heap.size) (h : OwnO w w' a s) : OwnO W w' a s := ⟨more_ hs h.o0, h.o1.of hs, more_ hs h.o2, h.o3.of hs⟩
theorem RdO.nil (w : World) (B : Nat) : RdO w B ⟨none, 0, none, 0, none, 0, none, 0⟩ ⟨[], [], [], []⟩ :=
 ⟨Rd.none_ _ _ _, RdQ.nil _ _ _, Rd.none_ _ _ _, RdP.nil _ _ _, Nat.le_refl _, Nat.le_refl _, Nat.le_refl _⟩
theorem OwnO.set_t {b i : Nat} {t : TypeId} {u : Value} {cs : Array Value} (h : OwnO W w a s) (hb : Blk w b t cs) (h1 : 5 ≠ t) (h2 : 24 ≠ t) (h3 : 3 ≠ t) (h4 : 81 ≠ t) : OwnO W (w.setCell ⟨b, i, none⟩ u) a s :=
 ⟨own_set_t h.o0 hb h1, h.o1.set_t hb h1 h2, own_set_t h.o2 hb h3, h.o3.set_t hb h1 h4⟩
end
structure Ob.Inv (s : Ob) : Prop where
 reg : s.reg.length <= 16
 regb : ∀ x ∈ s.reg, x < 256
 ql : s.q.length <= 8
 qv : ∀ l ∈ s.q, l.length <= 16
 qb : BytesL s.q
 lkl : s.lk.length <= 5
 lkn : s.lk.Nodup
 mp : Mp.Inv s.mp
structure Cm.Fits (c : Cm) : Prop where
 key : c.key.length <= 100 /\ ∀ x ∈ c.key, x < 256
 val : c.val.length <= 100 /\ ∀ x ∈ c.val, x < 256
 old : c.old.length <= 100 /\ ∀ x ∈ c.old, x < 256
structure Ans where
 s : Ob
 e : Int
 v : List Nat
 n : Int
def Ob.apply (s : Ob) (c : Cm) : Ans :=
 if c.kind = 1 then ⟨s, 0, s.reg, 0⟩
 else if c.kind = 2 then ⟨{ s with reg := if c.val.length <= 16 then c.val else s.reg }, if c.val.length <= 16 then 0 else 1, [], 0⟩
 else if c.kind = 3 then ⟨{ s with reg := casS s.reg c.old c.val }, casE s.reg c.old c.val, casV s.reg c.old c.val, 0⟩
 else if c.kind = 4 then ⟨{ s with q := pushS s.q c.val }, pushE s.q c.val, [], pushN s.q c.val⟩
 else if c.kind = 5 then ⟨{ s with q := s.q.tail }, popE s.q, popV s.q, 0⟩
 else if c.kind = 6 /\ 0 <= c.who /\ c.who <= 999 then ⟨{ s with lk := takeS s.lk c.who }, takeE s.lk c.who, [], takeN s.lk c.who⟩
 else if c.kind = 7 /\ 0 <= c.who /\ c.who <= 999 then ⟨{ s with lk := s.lk.erase c.who }, freeE s.lk c.who, [], freeN s.lk c.who⟩
 else if c.kind = 8 then ⟨s, ownerE s.lk, [], ownerN s.lk⟩
 else if c.kind = 9 then ⟨{ s with mp := Mp.putS s.mp c.key c.val }, Mp.putE s.mp c.key c.val, Mp.putV s.mp c.key c.val, Mp.putN s.mp c.key c.val⟩
 else if c.kind = 10 then ⟨s, Mp.getE s.mp c.key, Mp.getV s.mp c.key, 0⟩
 else if c.kind = 11 then ⟨{ s with mp := Mp.delS s.mp c.key }, Mp.getE s.mp c.key, Mp.getV s.mp c.key, 0⟩
 else ⟨s, 7, [], 0⟩
theorem Ob.apply_ind {P : Ans -> Prop} (s : Ob) (c : Cm)
 (h1 : c.kind = 1 -> P ⟨s, 0, s.reg, 0⟩)
 (h2 : c.kind = 2 -> P ⟨{ s with reg := if c.val.length <= 16 then c.val else s.reg }, if c.val.length <= 16 then 0 else 1, [], 0⟩)
 (h3 : c.kind = 3 -> P ⟨{ s with reg := casS s.reg c.old c.val }, casE s.reg c.old c.val, casV s.reg c.old c.val, 0⟩)
 (h4 : c.kind = 4 -> P ⟨{ s with q := pushS s.q c.val }, pushE s.q c.val, [], pushN s.q c.val⟩)
 (h5 : c.kind = 5 -> P ⟨{ s with q := s.q.tail }, popE s.q, popV s.q, 0⟩)
 (h6 : c.kind = 6 /\ 0 <= c.who /\ c.who <= 999 -> P ⟨{ s with lk := takeS s.lk c.who }, takeE s.lk c.who, [], takeN s.lk c.who⟩)
 (h7 : c.kind = 7 /\ 0 <= c.who /\ c.who <= 999 -> P ⟨{ s with lk := s.lk.erase c.who }, freeE s.lk c.who, [], freeN s.lk c.who⟩)
 (h8 : c.kind = 8 -> P ⟨s, ownerE s.lk, [], ownerN s.lk⟩)
 (h9 : c.kind = 9 -> P ⟨{ s with mp := Mp.putS s.mp c.key c.val }, Mp.putE s.mp c.key c.val, Mp.putV s.mp c.key c.val, Mp.putN s.mp c.key c.val⟩)
 (h10 : c.kind = 10 -> P ⟨s, Mp.getE s.mp c.key, Mp.getV s.mp c.key, 0⟩)
 (h11 : c.kind = 11 -> P ⟨{ s with mp := Mp.delS s.mp c.key }, Mp.getE s.mp c.key, Mp.getV s.mp c.key, 0⟩)
 (h0 : P ⟨s, 7, [], 0⟩) : P (s.apply c) := by
 unfold Ob.apply
 by_cases c1 : c.kind = 1
 · rw [if_pos c1]; exact h1 c1
 rw [if_neg c1]
 by_cases c2 : c.kind = 2
 · rw [if_pos c2]; exact h2 c2
 rw [if_neg c2]
 by_cases c3 : c.kind = 3
 · rw [if_pos c3]; exact h3 c3
 rw [if_neg c3]
 by_cases c4 : c.kind = 4
 · rw [if_pos c4]; exact h4 c4
 rw [if_neg c4]
 by_cases c5 : c.kind = 5
 · rw [if_pos c5]; exact h5 c5
 rw [if_neg c5]
 by_cases c6 : c.kind = 6 /\ 0 <= c.who /\ c.who <= 999
 · rw [if_pos c6]; exact h6 c6
 rw [if_neg c6]
 by_cases c7 : c.kind = 7 /\ 0 <= c.who /\ c.who <= 999
 · rw [if_pos c7]; exact h7 c7
 rw [if_neg c7]
 by_cases c8 : c.kind = 8
 · rw [if_pos c8]; exact h8 c8
 rw [if_neg c8]
 by_cases c9 : c.kind = 9
 · rw [if_pos c9]; exact h9 c9
 rw [if_neg c9]
 by_cases c10 : c.kind = 10
 · rw [if_pos c10]; exact h10 c10
 rw [if_neg c10]
 by_cases c11 : c.kind = 11
 · rw [if_pos c11]; exact h11 c11
 rw [if_neg c11]
 exact h0
theorem Ob.Inv.nil : Ob.Inv ⟨[], [], [], []⟩ := ⟨by simp, by simp, by simp, by simp, by intro l h; simp at h, by simp, by simp, Mp.Inv.nil⟩
theorem takeO_len (s : List Int) (x : Int) (h : s.length <= 5) : (takeS s x).length <= 5 := by
 unfold takeS; split
 · exact h
 · split
   · exact h
   · simp; omega
theorem takeO_nodup (s : List Int) (x : Int) (h : s.Nodup) : (takeS s x).Nodup := by
 unfold takeS; split
 · exact h
 · rename_i hx
   split
   · exact h
   · rw [List.nodup_append]
     exact ⟨h, by simp, fun a ha b hb => by simp at hb; subst hb; intro e; subst e; exact hx ha⟩
theorem Ob.Inv.apply {s : Ob} {c : Cm} (h : s.Inv) (hc : c.Fits) : (s.apply c).s.Inv := by
 refine Ob.apply_ind (P := fun r => r.s.Inv) s c (fun _ => h) (fun _ => ?_) (fun _ => ?_) (fun _ => ?_) (fun _ => ?_) (fun _ => ?_) (fun _ => ?_) (fun _ => h) (fun _ => ?_) (fun _ => h) (fun _ => ?_) h
 · by_cases hl : c.val.length <= 16
   · exact ⟨by simp only [if_pos hl]; exact hl, by simp only [if_pos hl]; exact hc.val.2, h.ql, h.qv, h.qb, h.lkl, h.lkn, h.mp⟩
   · exact ⟨by simp only [if_neg hl]; exact h.reg, by simp only [if_neg hl]; exact h.regb, h.ql, h.qv, h.qb, h.lkl, h.lkn, h.mp⟩
 · refine ⟨?_, casS_lt _ h.regb hc.val.2, h.ql, h.qv, h.qb, h.lkl, h.lkn, h.mp⟩
   show (casS s.reg c.old c.val).length <= 16
   unfold casS
   by_cases hl : 16 < c.val.length
   · rw [if_pos hl]; exact h.reg
   · rw [if_neg hl]
     by_cases he : s.reg = c.old
     · rw [if_pos he]; omega
     · rw [if_neg he]; exact h.reg
 · have hq : (pushS s.q c.val).length <= 8 /\ ∀ l ∈ pushS s.q c.val, l.length <= 16 /\ ∀ x ∈ l, x < 256 := by
    unfold pushS
    by_cases hl : 16 < c.val.length
    · rw [if_pos hl]; exact ⟨h.ql, fun l hl => ⟨h.qv l hl, h.qb l hl⟩⟩
    · rw [if_neg hl]
      by_cases h8 : 8 <= s.q.length
      · rw [if_pos h8]; exact ⟨h.ql, fun l hl => ⟨h.qv l hl, h.qb l hl⟩⟩
      · rw [if_neg h8]
        refine ⟨by simp; omega, fun l hm => ?_⟩
        rcases List.mem_append.1 hm with hm | hm
        · exact ⟨h.qv l hm, h.qb l hm⟩
        · have e : l = c.val := by simpa using hm
          rw [e]; exact ⟨by omega, hc.val.2⟩
   exact ⟨h.reg, h.regb, hq.1, fun l hl => (hq.2 l hl).1, fun l hl => (hq.2 l hl).2, h.lkl, h.lkn, h.mp⟩
 · exact ⟨h.reg, h.regb, by have := h.ql; show s.q.tail.length <= 8; simp; omega, fun l hl => h.qv l (List.mem_of_mem_tail hl), fun l hl => h.qb l (List.mem_of_mem_tail hl), h.lkl, h.lkn, h.mp⟩
 · exact ⟨h.reg, h.regb, h.ql, h.qv, h.qb, takeO_len _ _ h.lkl, takeO_nodup _ _ h.lkn, h.mp⟩
 · exact ⟨h.reg, h.regb, h.ql, h.qv, h.qb, Nat.le_trans List.length_erase_le h.lkl, h.lkn.erase _, h.mp⟩
 · exact ⟨h.reg, h.regb, h.ql, h.qv, h.qb, h.lkl, h.lkn, h.mp.put hc.key.2 hc.val.2⟩
 · exact ⟨h.reg, h.regb, h.ql, h.qv, h.qb, h.lkl, h.lkn, h.mp.del⟩
theorem Ob.apply_vb {s : Ob} {c : Cm} (h : s.Inv) : ∀ x ∈ (s.apply c).v, x < 256 := by
 have hz : ∀ x ∈ ([] : List Nat), x < 256 := by intro x hx; cases hx
 have hg : ∀ x ∈ Mp.getV s.mp c.key, x < 256 := by
  rcases Mp.getV_mem (ps := s.mp) (k := c.key) with e | ⟨p, hp, e⟩
  · rw [e]; exact hz
  · rw [e]; exact (h.mp.byt p hp).2
 refine Ob.apply_ind (P := fun r => ∀ x ∈ r.v, x < 256) s c (fun _ => h.regb) (fun _ => hz) (fun _ => casV_lt _ _ h.regb) (fun _ => hz) (fun _ => ?_) (fun _ => hz) (fun _ => hz) (fun _ => hz) (fun _ => ?_) (fun _ => hg) (fun _ => hg) hz
 · intro x hx
   have hx : x ∈ popV s.q := hx
   unfold popV at hx
   cases hq : s.q with
   | nil => rw [hq] at hx; simp at hx
   | cons l t => rw [hq] at hx; exact h.qb l (by rw [hq]; simp) x (by simpa using hx)
 · rcases Mp.putV_mem (ps := s.mp) (k := c.key) (v := c.val) with e | ⟨p, hp, e⟩
   · show ∀ x ∈ Mp.putV s.mp c.key c.val, x < 256
     rw [e]; exact hz
   · show ∀ x ∈ Mp.putV s.mp c.key c.val, x < 256
     rw [e]; exact (h.mp.byt p hp).2
theorem four {w : World} {b : Nat} {t : TypeId} {x y z u : Value} (h : Blk w b t #[x, y, z, u]) :
 w.cell? ⟨b, 0, none⟩ = some x /\ w.cell? ⟨b, 1, none⟩ = some y /\ w.cell? ⟨b, 2, none⟩ = some z /\ w.cell? ⟨b, 3, none⟩ = some u /\ w.frozen? ⟨b, 0, none⟩ = false /\ w.frozen? ⟨b, 1, none⟩ = false /\ w.frozen? ⟨b, 2, none⟩ = false /\ w.frozen? ⟨b, 3, none⟩ = false :=
 ⟨h.cell 0, h.cell 1, h.cell 2, h.cell 3, h.frozen 0, h.frozen 1, h.frozen 2, h.frozen 3⟩
theorem five {w : World} {b : Nat} {t : TypeId} {x y z u v : Value} (h : Blk w b t #[x, y, z, u, v]) :
 w.cell? ⟨b, 0, none⟩ = some x /\ w.cell? ⟨b, 1, none⟩ = some y /\ w.cell? ⟨b, 2, none⟩ = some z /\ w.cell? ⟨b, 3, none⟩ = some u /\ w.cell? ⟨b, 4, none⟩ = some v :=
 ⟨h.cell 0, h.cell 1, h.cell 2, h.cell 3, h.cell 4⟩
def GotO (W w : World) (r : Ans) (en : Ending) (w' : World) : Prop :=
 ∃ a A c, en = .returned (.tuple #[objV a r.s, resV r.e A r.v.length c r.n]) /\ OwnO W w' a r.s /\ OwnB W w' A r.v.length c r.v /\ Below W.heap.size W w' /\ Below w.heap.size w w'
theorem GotO.of {W w w' : World} {r : Ans} {en : Ending} (hB : Below W.heap.size W w) (h : GotO w w r en w') : GotO W w r en w' := by
 obtain ⟨a, A, c, h1, h2, h3, h4, h5⟩ := h
 exact ⟨a, A, c, h1, h2.of hB.size, more_ hB.size h3, hB.trans (h4.mono hB.size), h5⟩
structure Ls where
 s : Int
 q : Int
 e : Int
 v : List Nat
 n : Int
def lastC (A : Option Addr) (c : Nat) (l : Ls) : List Value := [.int .i64 l.s, .int .i64 l.q, .int .i64 l.e, .slice A l.v.length c, .int .i64 l.n]
theorem lastC_length (A : Option Addr) (c : Nat) (l : Ls) : (lastC A c l).length = 5 := rfl
structure CellsL (R : Option Addr -> Nat -> List Nat -> Prop) (vs : List Value) (ls : List Ls) : Prop where
 len : vs.length = ls.length * 5
 cell : ∀ (i : Nat) (l : Ls), ls[i]? = some l -> ∃ A c, (∀ j v, (lastC A c l)[j]? = some v -> vs[i * 5 + j]? = some v) /\ R A c l.v
section
variable {R R' : Option Addr -> Nat -> List Nat -> Prop} {vs ws : List Value} {ls ms : List Ls}
theorem CellsL.imp (h : CellsL R vs ls) (hR : ∀ A c l, R A c l -> R' A c l) : CellsL R' vs ls :=
 ⟨h.len, fun i l hl => by obtain ⟨A, c, e, hr⟩ := h.cell i l hl; exact ⟨A, c, e, hR _ _ _ hr⟩⟩
theorem CellsL.nil : CellsL R [] [] := ⟨rfl, fun i l h => by simp at h⟩
theorem CellsL.one5 {A : Option Addr} {c : Nat} {l : Ls} (h : R A c l.v) : CellsL R (lastC A c l) [l] :=
 ⟨rfl, fun i l' hl => by
   cases i with
   | zero => simp at hl; subst hl; exact ⟨A, c, fun j v hv => by simpa using hv, h⟩
   | succ i => simp at hl⟩
theorem CellsL.append (h : CellsL R vs ls) (h' : CellsL R ws ms) : CellsL R (vs ++ ws) (ls ++ ms) := by
 refine ⟨by rw [List.length_append, List.length_append, h.len, h'.len, Nat.add_mul], fun i l hl => ?_⟩
 by_cases hi : i < ls.length
 · rw [List.getElem?_append_left hi] at hl
   obtain ⟨A, c, e, hr⟩ := h.cell i l hl
   refine ⟨A, c, fun j v hv => ?_, hr⟩
   have hj : j < 5 := by
    rcases Nat.lt_or_ge j 5 with h' | h'
    · exact h'
    · rw [List.getElem?_eq_none (by rw [lastC_length]; exact h')] at hv; cases hv
   rw [List.getElem?_append_left (by rw [h.len]; omega)]
   exact e j v hv
 · rw [List.getElem?_append_right (by omega)] at hl
   obtain ⟨A, c, e, hr⟩ := h'.cell _ l hl
   refine ⟨A, c, fun j v hv => ?_, hr⟩
   rw [List.getElem?_append_right (by rw [h.len]; omega), h.len, show i * 5 + j - ls.length * 5 = (i - ls.length) * 5 + j by omega]
   exact e j v hv
theorem CellsL.drop (h : CellsL R vs ls) (k : Nat) : CellsL R (vs.drop (k * 5)) (ls.drop k) :=
 ⟨by rw [List.length_drop, List.length_drop, h.len, Nat.sub_mul], fun i l hl => by
   rw [List.getElem?_drop] at hl
   obtain ⟨A, c, e, hr⟩ := h.cell _ l hl
   refine ⟨A, c, fun j v hv => ?_, hr⟩
   rw [List.getElem?_drop, show k * 5 + (i * 5 + j) = (k + i) * 5 + j by omega]
   exact e j v hv⟩
theorem CellsL.take (h : CellsL R vs ls) (k : Nat) : CellsL R (vs.take (k * 5)) (ls.take k) := by
 refine ⟨by rw [List.length_take, List.length_take, h.len]; omega, fun i l hl => ?_⟩
 have hi : i < k := by
  rcases Nat.lt_or_ge i k with h' | h'
  · exact h'
  · rw [List.getElem?_take_eq_none h'] at hl; cases hl
 rw [List.getElem?_take_of_lt hi] at hl
 obtain ⟨A, c, e, hr⟩ := h.cell _ l hl
 refine ⟨A, c, fun j v hv => ?_, hr⟩
 have hj : j < 5 := by
  rcases Nat.lt_or_ge j 5 with h' | h'
  · exact h'
  · rw [List.getElem?_eq_none (by rw [lastC_length]; exact h')] at hv; cases hv
 rw [List.getElem?_take_of_lt (by omega)]
 exact e j v hv
theorem CellsL.one (h : CellsL R vs ls) : ∀ u ∈ vs, u.oneCell' = true := by
 intro u hu
 obtain ⟨k, hk, e⟩ := List.getElem_of_mem hu
 have hlt : k / 5 < ls.length := by have := h.len; omega
 obtain ⟨A, c, e2, _⟩ := h.cell (k / 5) ls[k / 5] (List.getElem?_eq_getElem hlt)
 have hm : k % 5 < 5 := Nat.mod_lt _ (by omega)
 obtain ⟨v, hv⟩ : ∃ v, (lastC A c ls[k / 5])[k % 5]? = some v := ⟨(lastC A c ls[k / 5])[k % 5]'(by rw [lastC_length]; exact hm), List.getElem?_eq_getElem (by rw [lastC_length]; exact hm)⟩
 have h3 := e2 _ v hv
 rw [show k / 5 * 5 + k % 5 = k by omega, List.getElem?_eq_getElem hk, e] at h3
 injection h3 with h3
 subst h3
 have hmem := List.mem_of_getElem? hv
 unfold lastC at hmem
 simp at hmem
 rcases hmem with rfl | rfl | rfl | rfl | rfl <;> rfl
theorem CellsL.set {A : Option Addr} {c : Nat} {l : Ls} {ws : List Value} (h : CellsL R vs ls) (i : Nat) (hr : R A c l.v) (hl : ws.length = vs.length) (hin : ∀ j v, (lastC A c l)[j]? = some v -> ws[i * 5 + j]? = some v)
 (hout : ∀ k, (k < i * 5 \/ i * 5 + 5 <= k) -> ws[k]? = vs[k]?) : CellsL R ws (ls.set i l) := by
 refine ⟨by rw [hl, h.len]; simp, fun k m hm => ?_⟩
 by_cases hk : i = k
 · subst hk
   have hlt : i < ls.length := by
    rcases Nat.lt_or_ge i ls.length with h' | h'
    · exact h'
    · rw [List.getElem?_eq_none (by simpa using h')] at hm; cases hm
   rw [List.getElem?_set_self hlt] at hm
   injection hm with hm
   subst hm
   exact ⟨A, c, hin, hr⟩
 · rw [List.getElem?_set_ne hk] at hm
   obtain ⟨A', c', e, hr'⟩ := h.cell k m hm
   refine ⟨A', c', fun j v hv => ?_, hr'⟩
   have hj : j < 5 := by
    rcases Nat.lt_or_ge j 5 with h' | h'
    · exact h'
    · rw [List.getElem?_eq_none (by rw [lastC_length]; exact h')] at hv; cases hv
   rw [hout _ (by omega)]
   exact e j v hv
end
def RdL (w : World) (B : Nat) (A : Option Addr) (n : Nat) (ls : List Ls) : Prop := ∃ vs, Rd w B A (n * 5) vs /\ CellsL (fun A _ l => Rd w B A l.length (bv l)) vs ls
section
variable {w w' : World} {B B' n : Nat} {A : Option Addr} {ls : List Ls}
theorem RdL.below (h : RdL w B A n ls) (hb : Below B w w') : RdL w' B A n ls := by obtain ⟨vs, h1, h2⟩ := h; exact ⟨vs, h1.below hb, h2.imp fun _ _ _ h => h.below hb⟩
theorem RdL.fit (h : RdL w B A n ls) : RdL w w.heap.size A n ls := by obtain ⟨vs, h1, h2⟩ := h; exact ⟨vs, h1.fit, h2.imp fun _ _ _ h => h.fit⟩
theorem RdL.below' (h : RdL w w.heap.size A n ls) (hb : Below w.heap.size w w') : RdL w' w'.heap.size A n ls := (h.below hb).fit
theorem RdL.length (h : RdL w B A n ls) : ls.length = n := by
 obtain ⟨vs, h1, h2⟩ := h
 have := h2.len
 rw [h1.1] at this
 omega
theorem RdL.nil (w : World) (B : Nat) (A : Option Addr) : RdL w B A 0 [] := ⟨[], Rd.none_ _ _ _, CellsL.nil⟩
theorem RdL.at {k : Nat} (h : RdL w B A n ls) (hk : k < n) : ∃ b o l A1 c1, A = some ⟨b, o, none⟩ /\ ls[k]? = some l ∧
 w.cell? ⟨b, o + k * 5, none⟩ = some (.int .i64 l.s) /\ w.cell? ⟨b, o + k * 5 + 1, none⟩ = some (.int .i64 l.q) /\ w.cell? ⟨b, o + k * 5 + 2, none⟩ = some (.int .i64 l.e) ∧
 w.cell? ⟨b, o + k * 5 + 3, none⟩ = some (.slice A1 l.v.length c1) /\ w.cell? ⟨b, o + k * 5 + 4, none⟩ = some (.int .i64 l.n) /\ Rd w B A1 l.v.length (bv l.v) := by
 have hlen := h.length
 obtain ⟨vs, h1, h2⟩ := h
 obtain ⟨b, o, e, _, hc⟩ := h1.2 (by omega)
 obtain ⟨l, hl⟩ : ∃ l, ls[k]? = some l := ⟨_, List.getElem?_eq_getElem (by omega)⟩
 obtain ⟨A1, c1, e1, r1⟩ := h2.cell k l hl
 have hh : ∀ j v, (lastC A1 c1 l)[j]? = some v -> w.cell? ⟨b, o + k * 5 + j, none⟩ = some v := fun j v hv => by
  have hj : j < 5 := by
   rcases Nat.lt_or_ge j 5 with h' | h'
   · exact h'
   · rw [List.getElem?_eq_none (by rw [lastC_length]; exact h')] at hv; cases hv
  rw [Nat.add_assoc, hc _ (by omega), e1 j v hv]
 exact ⟨b, o, l, A1, c1, e, hl, hh 0 _ rfl, hh 1 _ rfl, hh 2 _ rfl, hh 3 _ rfl, hh 4 _ rfl, r1⟩
end
theorem own_grownL {w w' : World} {base base' size size' n n' c' : Nat} {e e' : TypeId} {v : Value} {A' : Option Addr} {xs xs' : List Value} (h : w.ownsRow base e size v n xs) (ho : w.ownsRow base' e' size' (.slice A' n' c') n' xs') (hne : e ≠ e')
 (hg : w.grownBy w' (Value.slice A' n' c').ownBlock) : w'.ownsRow base e size v n xs := by
 refine h.kept hg ?_
 rcases h.2 with ⟨h1, _⟩ | ⟨g, cap, cur, h1, _, hh, _⟩
 · rw [h1]; exact .inl rfl
 · rw [h1]
   refine .inr ?_
   rcases own_blk ho with ⟨h2, _, _⟩ | ⟨g', cur', h2, _, hk'⟩
   · rw [h2]; intro h0; cases h0
   · rw [h2]
     intro h0
     have h3 : g = g' := by simpa [Value.ownBlock] using h0
     exact Blk.apart hh hk' hne h3
theorem own_moreL {W w w' : World} (hs : W.heap.size <= w.heap.size) {e : TypeId} {size n : Nat} {v : Value} {xs : List Value} (h : w'.ownsRow w.heap.size e size v n xs) : w'.ownsRow W.heap.size e size v n xs := by
 obtain ⟨h1, h2⟩ := h
 refine ⟨h1, ?_⟩
 rcases h2 with h2 | ⟨g, cap, cur, hv, hg, r⟩
 · exact .inl h2
 · exact .inr ⟨g, cap, cur, hv, Nat.le_trans hs hg, r⟩
abbrev OwnsL (W w : World) (vs : List Value) (ls : List Ls) : Prop := CellsL (fun A c l => OwnB W w A l.length c l) vs ls
section
variable {W w w' : World} {A : Option Addr} {n c : Nat} {vs : List Value} {ls : List Ls}
theorem OwnsL.cells (h : OwnsL W w vs ls) : CellsL (fun A _ l => Rd w w.heap.size A l.length (bv l)) vs ls := h.imp fun _ _ _ h => Rd.own_ h
theorem OwnsL.below (h : OwnsL W w vs ls) (hb : Below w.heap.size w w') : OwnsL W w' vs ls := h.imp fun _ _ _ h => own_below h hb
theorem OwnsL.of (hs : W.heap.size <= w.heap.size) (h : OwnsL w w' vs ls) : OwnsL W w' vs ls := h.imp fun _ _ _ h => own_moreL hs h
theorem OwnsL.set_t {b i : Nat} {t : TypeId} {u : Value} {cs : Array Value} (h : OwnsL W w vs ls) (hb : Blk w b t cs) (hne : 5 ≠ t) : OwnsL W (w.setCell ⟨b, i, none⟩ u) vs ls := h.imp fun _ _ _ h => own_set_t h hb hne
theorem OwnsL.grown {base' size' n' c' : Nat} {t : TypeId} {A' : Option Addr} {xs' : List Value} (h : OwnsL W w vs ls) (hne : 5 ≠ t) (ho : w.ownsRow base' t size' (.slice A' n' c') n' xs') (hg : w.grownBy w' (Value.slice A' n' c').ownBlock) : OwnsL W w' vs ls :=
 h.imp fun _ _ _ h => own_grownL h ho hne hg
theorem OwnsL.snoc {A' : Option Addr} {c' : Nat} {l : Ls} (h : OwnsL W w vs ls) (ho : OwnB W w A' l.v.length c' l.v) : OwnsL W w (vs ++ lastC A' c' l) (ls ++ [l]) := h.append (CellsL.one5 (R := fun A c l => OwnB W w A l.length c l) ho)
end
theorem cellL : CellS Tryz.prog 34 71 (.agg #[.int .i64 0, .int .i64 0, .int .i64 0, .slice none 0 0, .int .i64 0]) 5 56 := ⟨Tryz.underlying34, by kernel_rfl, rfl, by omega⟩
def OwnL (W w : World) (A : Option Addr) (n c : Nat) (ls : List Ls) : Prop :=
 ∃ vs, w.ownsRow W.heap.size 71 5 (.slice A n c) n vs /\ OwnsL W w vs ls
section
variable {W w w' : World} {A : Option Addr} {n c : Nat} {ls : List Ls}
theorem OwnL.rd (h : OwnL W w A n c ls) : RdL w w.heap.size A n ls := by
 obtain ⟨vs, h1, h2⟩ := h
 exact ⟨vs, Rd.ownS h1 (by omega), OwnsL.cells h2⟩
theorem OwnL.below (h : OwnL W w A n c ls) (hb : Below w.heap.size w w') : OwnL W w' A n c ls := by
 obtain ⟨vs, h1, h2⟩ := h
 exact ⟨vs, ownsRow_below h1 hb, h2.below hb⟩
theorem OwnL.length (h : OwnL W w A n c ls) : ls.length = n := h.rd.length
theorem OwnL.nil (W w : World) : OwnL W w none 0 0 [] := ⟨[], ⟨rfl, .inl ⟨rfl, rfl⟩⟩, CellsL.nil⟩
theorem OwnL.cap (h : OwnL W w A n c ls) : n <= c := by
 obtain ⟨vs, h1, _⟩ := h
 exact (own_cap h1).1
theorem OwnL.set_t {b i : Nat} {t : TypeId} {u : Value} {cs : Array Value} (h : OwnL W w A n c ls) (hb : Blk w b t cs) (h1 : 5 ≠ t) (h2 : 71 ≠ t) : OwnL W (w.setCell ⟨b, i, none⟩ u) A n c ls := by
 obtain ⟨vs, g1, g2⟩ := h
 exact ⟨vs, own_set_t g1 hb h2, g2.set_t hb h1⟩
theorem OwnL.of (hs : W.heap.size <= w.heap.size) (h : OwnL w w' A n c ls) : OwnL W w' A n c ls := by
 obtain ⟨vs, h1, h2⟩ := h
 exact ⟨vs, own_moreL hs h1, h2.of hs⟩
end
def GotL (W w : World) (ls : List Ls) (e : Ending) (w' : World) : Prop := ∃ A c, e = .returned (.slice A ls.length c) /\ OwnL W w' A ls.length c ls /\ Below W.heap.size W w' /\ Below w.heap.size w w'
theorem GotL.of {W w w' : World} {ls : List Ls} {e : Ending} (hB : Below W.heap.size W w) (h : GotL w w ls e w') : GotL W w ls e w' := by
 obtain ⟨A, c, h1, h2, h3, h4⟩ := h
 exact ⟨A, c, h1, h2.of hB.size, hB.trans (h3.mono hB.size), h4⟩
def GotRK (W w : World) (e : Int) (l : List Nat) (N : Int) (k : Int) (en : Ending) (w' : World) : Prop :=
 ∃ A c, en = .returned (.tuple #[resV e A l.length c N, .int .i64 k]) /\ OwnB W w' A l.length c l /\ Below W.heap.size W w' /\ Below w.heap.size w w'
theorem GotRK.of {W w w' : World} {e : Int} {l : List Nat} {N k : Int} {en : Ending} (hB : Below W.heap.size W w) (h : GotRK w w e l N k en w') : GotRK W w e l N k en w' := by
 obtain ⟨A, c, h1, h2, h3, h4⟩ := h
 exact ⟨A, c, h1, own_moreL hB.size h2, hB.trans (h3.mono hB.size), h4⟩
def LimLs (ls : List Ls) : Prop := ∀ l ∈ ls, Lim 0 l.v.length
def BytesLs (ls : List Ls) : Prop := ∀ l ∈ ls, ∀ x ∈ l.v, x < 256
namespace Tb
def Rises (ls : List Ls) : Prop := ls.Pairwise fun a b => a.s < b.s
def named (s q : Int) : Prop := 1 <= s /\ 1 <= q /\ s <= 1073741824 /\ q <= 1073741824
instance (s q : Int) : Decidable (named s q) := inferInstanceAs (Decidable (_ /\ _))
def here (ls : List Ls) (s : Int) : Option Ls := ls.find? fun l => decide (l.s = s)
structure Ans where
 e : Int
 v : List Nat
 n : Int
 k : Int
def look (ls : List Ls) (s q : Int) : Ans :=
 if named s q then
  match here ls s with
  | some l => if q < l.q then ⟨8, [], 0, 2⟩ else if q = l.q then ⟨l.e, l.v, l.n, 1⟩ else ⟨0, [], 0, 0⟩
  | none => if 8 <= ls.length then ⟨9, [], 0, 2⟩ else ⟨0, [], 0, 0⟩
 else ⟨10, [], 0, 2⟩
def put (ls : List Ls) (l : Ls) : List Ls := ls.filter (fun m => decide (m.s < l.s)) ++ l :: ls.filter (fun m => decide (l.s < m.s))
structure At (ls : List Ls) (s : Int) (i : Nat) : Prop where
 le : i <= ls.length
 lo : ∀ (j : Nat) (l : Ls), j < i -> ls[j]? = some l -> l.s < s
 hi : ∀ l, ls[i]? = some l -> s <= l.s
section
variable {ls : List Ls} {s : Int} {i : Nat} {l m : Ls}
theorem At.lows (h : At ls s i) : ∀ m ∈ ls.take i, m.s < s := by
 intro m hm
 obtain ⟨j, hj, e⟩ := List.getElem_of_mem hm
 have hj2 : j < i := by rw [List.length_take] at hj; omega
 refine h.lo j m hj2 ?_
 rw [<- e, List.getElem_take, List.getElem?_eq_getElem]
theorem At.rest (hr : Rises ls) (h : At ls s i) (hl : ls[i]? = some l) (hs : l.s = s) : ls.drop i = l :: ls.drop (i + 1) /\ ∀ m ∈ ls.drop (i + 1), s < m.s := by
 have hp : (ls.drop i).Pairwise fun a b => a.s < b.s := hr.sublist (List.drop_sublist i ls)
 have hd : ls.drop i = l :: ls.drop (i + 1) := by rw [List.drop_eq_getElem?_toList_append, hl]; rfl
 rw [hd] at hp
 refine ⟨hd, fun m hm => ?_⟩
 have := (List.pairwise_cons.1 hp).1 m hm
 omega
theorem At.highs2 (hr : Rises ls) (h : At ls s i) (hn : ∀ l, ls[i]? = some l -> l.s ≠ s) : ∀ m ∈ ls.drop i, s < m.s := by
 intro m hm
 have hp : (ls.drop i).Pairwise fun a b => a.s < b.s := hr.sublist (List.drop_sublist i ls)
 cases hd : ls.drop i with
 | nil => rw [hd] at hm; cases hm
 | cons x r =>
   have h0 : ls[i]? = some x := by
    have : (ls.drop i)[0]? = some x := by rw [hd]; rfl
    rwa [List.getElem?_drop, Nat.add_zero] at this
   rw [hd] at hm hp
   have hx := h.hi x h0
   have hx2 := hn x h0
   rcases List.mem_cons.1 hm with rfl | hm
   · omega
   · have := (List.pairwise_cons.1 hp).1 m hm
     omega
theorem filter_all {p : Ls -> Bool} {l : List Ls} (h : ∀ m ∈ l, p m = true) : l.filter p = l := List.filter_eq_self.2 h
theorem filter_none {p : Ls -> Bool} {l : List Ls} (h : ∀ m ∈ l, p m = false) : l.filter p = [] := List.filter_eq_nil_iff.2 fun m hm => by rw [h m hm]; simp
theorem find_none {p : Ls -> Bool} {l : List Ls} (h : ∀ m ∈ l, p m = false) : l.find? p = none := List.find?_eq_none.2 fun m hm => by rw [h m hm]; simp
theorem At.here_some (hr : Rises ls) (h : At ls s i) (hl : ls[i]? = some l) (hs : l.s = s) : here ls s = some l := by
 unfold here
 conv => lhs; rw [<- List.take_append_drop i ls]
 rw [List.find?_append, find_none (fun m hm => by have := h.lows m hm; simp; omega), (h.rest hr hl hs).1]
 simp [hs]
theorem At.here_none (hr : Rises ls) (h : At ls s i) (hn : ∀ l, ls[i]? = some l -> l.s ≠ s) : here ls s = none := by
 unfold here
 refine find_none fun m hm => ?_
 rw [<- List.take_append_drop i ls] at hm
 rcases List.mem_append.1 hm with hm | hm
 · have := h.lows m hm; simp; omega
 · have := h.highs2 hr hn m hm; simp; omega
theorem At.put_some (hr : Rises ls) (h : At ls l.s i) (hm : ls[i]? = some m) (hs : m.s = l.s) : put ls l = ls.set i l := by
 have hlt : i < ls.length := by
  rcases Nat.lt_or_ge i ls.length with h' | h'
  · exact h'
  · rw [List.getElem?_eq_none h'] at hm; cases hm
 obtain ⟨hd, hgt⟩ := h.rest hr hm hs
 unfold put
 rw [List.set_eq_take_append_cons_drop, if_pos hlt]
 conv => lhs; rw [<- List.take_append_drop i ls]
 rw [List.filter_append, List.filter_append, hd]
 rw [filter_all (fun m hm => by have := h.lows m hm; simpa using this), filter_none (l := ls.take i) (fun m hm => by have := h.lows m hm; simp; omega)]
 rw [List.filter_cons_of_neg (by simp [hs]), List.filter_cons_of_neg (by simp [hs]), filter_none (l := ls.drop (i + 1)) (fun m hm => by have := hgt m hm; simp; omega), filter_all (fun m hm => by have := hgt m hm; simpa using this)]
 simp
theorem At.put_none (hr : Rises ls) (h : At ls l.s i) (hn : ∀ m, ls[i]? = some m -> m.s ≠ l.s) : put ls l = ls.take i ++ l :: ls.drop i := by
 have hgt := h.highs2 hr hn
 unfold put
 conv => lhs; rw [<- List.take_append_drop i ls]
 rw [List.filter_append, List.filter_append]
 rw [filter_all (fun m hm => by have := h.lows m hm; simpa using this), filter_none (l := ls.take i) (fun m hm => by have := h.lows m hm; simp; omega)]
 rw [filter_none (l := ls.drop i) (fun m hm => by have := hgt m hm; simp; omega), filter_all (l := ls.drop i) (fun m hm => by have := hgt m hm; simpa using this)]
 simp
theorem At.none_eq (h : At ls s i) (hi : i = ls.length) : ∀ l, ls[i]? = some l -> l.s ≠ s := by
 intro l hl
 rw [List.getElem?_eq_none (by omega)] at hl
 cases hl
theorem put_rises (hr : Rises ls) : Rises (put ls l) := by
 unfold Rises put
 rw [List.pairwise_append]
 refine ⟨hr.filter _, ?_, ?_⟩
 · rw [List.pairwise_cons]
   exact ⟨fun m hm => by have := (List.mem_filter.1 hm).2; simpa using this, hr.filter _⟩
 · intro a ha b hb
   have h1 := (List.mem_filter.1 ha).2
   simp at h1
   rcases List.mem_cons.1 hb with rfl | hb
   · exact h1
   · have h2 := (List.mem_filter.1 hb).2
     simp at h2
     omega
theorem mem_put (h : m ∈ put ls l) : m = l \/ m ∈ ls := by
 unfold put at h
 rcases List.mem_append.1 h with h | h
 · exact .inr (List.mem_filter.1 h).1
 · rcases List.mem_cons.1 h with h | h
   · exact .inl h
   · exact .inr (List.mem_filter.1 h).1
theorem split_len (ls : List Ls) (s : Int) : (ls.filter fun m => decide (m.s < s)).length + (ls.filter fun m => decide (m.s = s)).length + (ls.filter fun m => decide (s < m.s)).length = ls.length := by
 induction ls with
 | nil => rfl
 | cons a ls ih =>
   rcases Int.lt_trichotomy a.s s with h | h | h
   · rw [List.filter_cons_of_pos (by simpa using h), List.filter_cons_of_neg (by simp; omega), List.filter_cons_of_neg (by simp; omega)]
     simp; omega
   · rw [List.filter_cons_of_neg (by simp; omega), List.filter_cons_of_pos (by simpa using h), List.filter_cons_of_neg (by simp; omega)]
     simp; omega
   · rw [List.filter_cons_of_neg (by simp; omega), List.filter_cons_of_neg (by simp; omega), List.filter_cons_of_pos (by simpa using h)]
     simp; omega
theorem one_len (hr : Rises ls) (s : Int) : (ls.filter fun m => decide (m.s = s)).length = if (here ls s).isSome then 1 else 0 := by
 induction ls with
 | nil => rfl
 | cons a ls ih =>
   have hp := List.pairwise_cons.1 hr
   by_cases h : a.s = s
   · rw [List.filter_cons_of_pos (by simpa using h), filter_none (l := ls) (fun m hm => by have := hp.1 m hm; simp; omega)]
     simp [here, h]
   · rw [List.filter_cons_of_neg (by simpa using h), ih hp.2]
     unfold here
     rw [List.find?_cons, decide_eq_false h]
theorem length_put (hr : Rises ls) : (put ls l).length = if (here ls l.s).isSome then ls.length else ls.length + 1 := by
 have h1 := split_len ls l.s
 rw [one_len hr] at h1
 unfold put
 rw [List.length_append, List.length_cons]
 split
 · rw [if_pos (by assumption)] at h1; omega
 · rw [if_neg (by assumption)] at h1; omega
theorem length_put_le : (put ls l).length <= ls.length + 1 := by
 have h1 := split_len ls l.s
 unfold put
 rw [List.length_append, List.length_cons]
 omega
end
end Tb
end Go.Proofs.YtlgpglhbbkikpaaGreat
