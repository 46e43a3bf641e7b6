/- EntKit BlobKit BlobSameE -/
import Derived.Test.YtmekamgohonffaaGreatBT00
import Derived.Test.YtmekamgohonffaaGreatBT17
import Derived.Test.YtmekamgohonffaaGreatBT20
import Derived.Test.YtmekamgohonffaaGreatBT27
import Derived.Test.YtmekamgohonffaaGreatBT28
import Derived.Test.YtmekamgohonffaaGreatBT32
import Derived.Test.YtmekamgohonffaaGreatBT37
import Derived.Deep.MidRow
import Derived.Deep.RegionLaw
namespace Go.Proofs.YtmekamgohonffaaGreat
open Go.RowKit
set_option linter.unusedVariables false
def entL (a : CA) (e : En) : List Value := [.int .i64 e.s, .int .i64 e.q, .int .i64 e.c.kind, .int .i64 e.c.who, .slice a.Ak e.c.key.length a.ck, .slice a.Av e.c.val.length a.cv, .slice a.Ao e.c.old.length a.co]
theorem entL_length (a : CA) (e : En) : (entL a e).length = 7 := rfl
theorem entL_one (a : CA) (e : En) : ∀ u ∈ entL a e, u.oneCell' = true := by
 intro u hu
 unfold entL at hu
 simp only [List.mem_cons, List.not_mem_nil, or_false] at hu
 rcases hu with rfl | rfl | rfl | rfl | rfl | rfl | rfl <;> rfl
theorem Rd.entAt (w : World) (a : CA) (e : En) (t : TypeId) {g : Nat} (hg : w.heap.size = g) : Rd (w.alloc (.cells #[.int .i64 e.s, .int .i64 e.q, .int .i64 e.c.kind, .int .i64 e.c.who, .slice a.Ak e.c.key.length a.ck, .slice a.Av e.c.val.length a.cv, .slice a.Ao e.c.old.length a.co] t)) (g + 1) (some ⟨g, 0, none⟩) (1 * 7) (entL a e) := by
 subst hg; exact Rd.made w #[.int .i64 e.s, .int .i64 e.q, .int .i64 e.c.kind, .int .i64 e.c.who, .slice a.Ak e.c.key.length a.ck, .slice a.Av e.c.val.length a.cv, .slice a.Ao e.c.old.length a.co] t (0, 0) 7 rfl
structure CellsE (R : CA -> Cm -> Prop) (vs : List Value) (es : List En) : Prop where
 len : vs.length = es.length * 7
 cell : ∀ (i : Nat) (e : En), es[i]? = some e -> ∃ a, (∀ j v, (entL a e)[j]? = some v -> vs[i * 7 + j]? = some v) /\ R a e.c
section
variable {R R' : CA -> Cm -> Prop} {vs ws : List Value} {es ds : List En}
theorem CellsE.imp (h : CellsE R vs es) (hR : ∀ a c, R a c -> R' a c) : CellsE R' vs es :=
 ⟨h.len, fun i e he => by obtain ⟨a, h1, h2⟩ := h.cell i e he; exact ⟨a, h1, hR _ _ h2⟩⟩
theorem CellsE.nil : CellsE R [] [] := ⟨rfl, fun i e h => by simp at h⟩
theorem CellsE.one {a : CA} {e : En} (h : R a e.c) : CellsE R (entL a e) [e] :=
 ⟨rfl, fun i e' he => by
   cases i with
   | zero => simp at he; subst he; exact ⟨a, fun j v hv => by simpa using hv, h⟩
   | succ i => simp at he⟩
theorem entL_lt {a : CA} {e : En} {j : Nat} {v : Value} (h : (entL a e)[j]? = some v) : j < 7 := by
 rcases Nat.lt_or_ge j 7 with h' | h'
 · exact h'
 · rw [List.getElem?_eq_none (by rw [entL_length]; exact h')] at h; cases h
theorem CellsE.append (h : CellsE R vs es) (h' : CellsE R ws ds) : CellsE R (vs ++ ws) (es ++ ds) := by
 refine ⟨by rw [List.length_append, List.length_append, h.len, h'.len, Nat.add_mul], fun i e he => ?_⟩
 by_cases hi : i < es.length
 · rw [List.getElem?_append_left hi] at he
   obtain ⟨a, h1, h2⟩ := h.cell i e he
   refine ⟨a, fun j v hv => ?_, h2⟩
   have hj := entL_lt hv
   rw [List.getElem?_append_left (by rw [h.len]; omega)]
   exact h1 j v hv
 · rw [List.getElem?_append_right (by omega)] at he
   obtain ⟨a, h1, h2⟩ := h'.cell _ e he
   refine ⟨a, fun j v hv => ?_, h2⟩
   rw [List.getElem?_append_right (by rw [h.len]; omega), h.len, show i * 7 + j - es.length * 7 = (i - es.length) * 7 + j by omega]
   exact h1 j v hv
end
def RdE (w : World) (B : Nat) (A : Option Addr) (n : Nat) (es : List En) : Prop := ∃ vs, Rd w B A (n * 7) vs /\ CellsE (fun a c => RdC w B a c) vs es
section
variable {w w' : World} {B n k : Nat} {A : Option Addr} {es : List En}
theorem RdE.below (h : RdE w B A n es) (hb : Below B w w') : RdE w' B A n es := by obtain ⟨vs, h1, h2⟩ := h; exact ⟨vs, h1.below hb, h2.imp fun _ _ h => h.below hb⟩
theorem RdE.fit (h : RdE w B A n es) : RdE w w.heap.size A n es := by obtain ⟨vs, h1, h2⟩ := h; exact ⟨vs, h1.fit, h2.imp fun _ _ h => h.fit⟩
theorem RdE.length (h : RdE w B A n es) : es.length = n := by
 obtain ⟨vs, h1, h2⟩ := h
 have := h2.len
 rw [h1.1] at this
 omega
end
section
variable {P : Program} {t e : TypeId} {z : Value} {size bytes : Nat}
theorem wpList_append_E {W w : World} (hT : CellS P t e z size bytes) {ops : Array Oper} {rest : List Oper} {o : Oper} {a : Act} {Q : Exit -> Act -> World -> Prop} (s x : Operand)
 (ho : o.op = .call { callee := .builtin .append, args := #[s, x], argTypes := #[t, t] }) (hw : Region.wanted o (yielded ops a.tmps) = true)
 {A : Option Addr} {n c : Nat} {vs : List Value} (hs : a.eval s = .slice A n c) (hown : w.ownsRow W.heap.size e size (.slice A n c) n vs)
 {B : Nat} {A' : Option Addr} {m c' : Nat} {ws : List Value} (hx : a.eval x = .slice A' m c') (hr : Rd w B A' (m * size) ws) (h1 : ∀ u ∈ ws, u.oneCell' = true) (hnm : n + m <= 1073741824) (hby : bytes <= 1000) (hB : Below W.heap.size W w)
 (h : ∀ A2 c2 w2, w2.ownsRow W.heap.size e size (.slice A2 (n + m) c2) (n + m) (vs ++ ws) -> Below W.heap.size W w2 -> w.grownBy w2 (Value.slice A n c).ownBlock -> wpList P ops Q rest (a.put o.dst (.slice A2 (n + m) c2)) w2) :
 wpList P ops Q (o :: rest) a w := by
 obtain ⟨i, hi, hz, hsz, hbi⟩ := info_parts hT.info
 obtain ⟨v', w', hrun, h2, h3, h4⟩ := run_append_rdS (P := P) w W.heap.size t o.type e i z size bytes hT.under hi hz hsz hbi hT.one hT.pos _ n vs hown B A' m c' ws hr h1
  (by unfold maxLen; omega) (by have := Nat.mul_le_mul hnm hby; omega) hB.size
 have hlt := hown.lt
 have hB2 : Below W.heap.size W w' := hB.grown h3 hB.size (fun k hk => (hlt k hk).1)
 obtain ⟨A2, c2, rfl, hr2⟩ := Rd.of_ownS h2 hT.pos
 have hgo := h A2 c2 w' h2 hB2 h3
 unfold wpList
 rw [if_pos hw]
 refine Or.inl ?_
 unfold Oper.wp execOp
 simp only [ho, resolve, invoke, builtin, Sem.run_bind, Sem.run_pure, Result.andThen_ok, List.map_toArray, List.map_cons, List.map_nil, hs, hx, hrun]
 exact hgo
end
theorem cellE : CellS Tryz.prog 32 43 (.agg #[.int .i64 0, .int .i64 0, .int .i64 0, .int .i64 0, .slice none 0 0, .slice none 0 0, .slice none 0 0]) 7 104 := ⟨Tryz.underlying32, by kernel_rfl, rfl, by omega⟩
theorem Rd.rowOther {w w' : World} {B g o n : Nat} {vs : List Value} {row : Option Nat} (h : Rd w B (some ⟨g, o, none⟩) n vs) (hg : w.grownBy w' row) (hne : ∀ k, row = some k -> k ≠ g) : Rd w' w'.heap.size (some ⟨g, o, none⟩) n vs := by
 refine Rd.fit (B := w.heap.size) ⟨h.1, fun hn => ?_⟩
 obtain ⟨b', o', e, hb, hc⟩ := h.fit.2 hn
 injection e with e
 injection e with e1 e2
 subst e1 e2
 refine ⟨_, _, rfl, hb, fun i hi => ?_⟩
 rw [<- hc i hi]
 exact World.cell?_of_block (hg.block _ hb (fun h => hne _ h.symm rfl))
theorem Rd.rowE {w w' : World} {base B n c m g : Nat} {A : Option Addr} {vs : List Value} {es : List En} {R : CA -> Cm -> Prop} {l : List Nat} (h : Rd w B (some ⟨g, 0, none⟩) m (bv l)) (ho : w.ownsRow base 43 7 (.slice A n c) n vs) (hc : CellsE R vs es)
 (hne : 0 < n \/ A = none) (hg : w.grownBy w' (Value.slice A n c).ownBlock) : Rd w' w'.heap.size (some ⟨g, 0, none⟩) m (bv l) := by
 rcases Nat.eq_zero_or_pos m with rfl | hm
 · exact ⟨h.1, fun h0 => absurd h0 (by omega)⟩
 · obtain ⟨b, o, e, hb, hcl⟩ := h.fit.2 hm
   injection e with e
   injection e with e1 e2
   subst e1 e2
   have hne2 : (Value.slice A n c).ownBlock ≠ some g := by
    rcases hne with hn | hA
    · rcases ho.2 with ⟨h1, h2⟩ | ⟨g', cap, cur, hv, _, hh, _, _, hsz, htk⟩
      · omega
      · rw [hv]
        intro h0
        have h1 : g' = g := by simpa [Value.ownBlock] using h0
        subst h1
        have h2 := hcl 0 hm
        have hl : 0 < l.length := by have := h.1; rw [bv_length] at this; omega
        rw [show (bv l)[0]? = some (.int .u8 ((l[0] : Nat) : Int)) by unfold bv; simp [List.getElem?_eq_getElem hl]] at h2
        have hk : Blk w g' 43 cur := hh
        rw [hk.cell, Nat.add_zero] at h2
        have hlen := hc.len
        have hvl := ho.1
        obtain ⟨e0, he0⟩ : ∃ e0, es[0]? = some e0 := ⟨_, List.getElem?_eq_getElem (by omega)⟩
        obtain ⟨a0, k1, _⟩ := hc.cell 0 e0 he0
        have h3 := k1 0 _ rfl
        rw [<- htk, List.getElem?_take_of_lt (by omega)] at h3
        rw [Nat.zero_mul, Nat.zero_add, Array.getElem?_toList] at h3
        rw [h2] at h3
        injection h3 with h3
        cases h3
    · subst hA
      intro h0; cases h0
   refine Rd.fit (B := w.heap.size) ⟨h.1, fun _ => ⟨g, 0, rfl, hb, fun i hi => ?_⟩⟩
   rw [<- hcl i hi]
   exact World.cell?_of_block (hg.block g hb (fun h => hne2 h.symm))
theorem RdC.rowE {w w' : World} {base B n c : Nat} {A : Option Addr} {vs : List Value} {es : List En} {R : CA -> Cm -> Prop} {a : CA} {k : Cm} (h : RdC w B a k) (hz : a.Z) (ho : w.ownsRow base 43 7 (.slice A n c) n vs) (hc : CellsE R vs es)
 (hne : 0 < n \/ A = none) (hg : w.grownBy w' (Value.slice A n c).ownBlock) : RdC w' w'.heap.size a k := by
 obtain ⟨⟨g1, e1⟩, ⟨g2, e2⟩, ⟨g3, e3⟩⟩ := hz
 have h1 := h.rk
 have h2 := h.rv
 have h3 := h.ro
 rw [e1] at h1
 rw [e2] at h2
 rw [e3] at h3
 exact ⟨by rw [e1]; exact h1.rowE ho hc hne hg, by rw [e2]; exact h2.rowE ho hc hne hg, by rw [e3]; exact h3.rowE ho hc hne hg⟩
def OwnE (W w : World) (A : Option Addr) (n c : Nat) (es : List En) : Prop := ∃ vs, w.ownsRow W.heap.size 43 7 (.slice A n c) n vs /\ CellsE (fun a k => RdC w w.heap.size a k /\ a.Z) vs es
theorem OwnE.below {W w w' : World} {A : Option Addr} {n c : Nat} {es : List En} (h : OwnE W w A n c es) (hb : Below w.heap.size w w') : OwnE W w' A n c es := by
 obtain ⟨vs, h1, h2⟩ := h
 exact ⟨vs, ownsRow_below h1 hb, h2.imp fun _ _ h => ⟨h.1.below' hb, h.2⟩⟩
theorem OwnE.nil (W w : World) : OwnE W w none 0 0 [] := ⟨[], ⟨rfl, .inl ⟨rfl, rfl⟩⟩, CellsE.nil⟩
theorem OwnE.snoc {W w w' : World} {A A2 : Option Addr} {n c c2 : Nat} {vs : List Value} {es : List En} {a : CA} {e : En} (ho : w.ownsRow W.heap.size 43 7 (.slice A n c) n vs) (hc : CellsE (fun a k => RdC w w.heap.size a k /\ a.Z) vs es) (hr : RdC w w.heap.size a e.c) (hz : a.Z)
 (hne : 0 < n \/ A = none) (hg : w.grownBy w' (Value.slice A n c).ownBlock) (ho2 : w'.ownsRow W.heap.size 43 7 (.slice A2 (n + 1) c2) (n + 1) (vs ++ entL a e)) : OwnE W w' A2 (n + 1) c2 (es ++ [e]) := by
 exact ⟨vs ++ entL a e, ho2, (hc.imp fun _ _ h => ⟨h.1.rowE h.2 ho hc hne hg, h.2⟩).append (CellsE.one (R := fun a k => RdC w' w'.heap.size a k /\ a.Z) ⟨hr.rowE hz ho hc hne hg, hz⟩)⟩
structure SA where
 m : MA
 Ar : Option Addr
 cr : Nat
def SA.zero : SA := ⟨⟨⟨none, 0, none, 0, none, 0, none, 0⟩, none, 0⟩, none, 0⟩
def stateC (a : SA) (s : Sb) : Array Value := #[.int .i64 s.pos, .slice a.m.o.A0 s.m.o.reg.length a.m.o.c0, .slice a.m.o.A1 s.m.o.q.length a.m.o.c1, .slice a.m.o.A2 s.m.o.lk.length a.m.o.c2, .slice a.m.o.A3 s.m.o.mp.length a.m.o.c3, .slice a.m.At s.m.t.length a.m.ct, .slice a.Ar s.rest.length a.cr]
def stateV (a : SA) (s : Sb) : Value := .agg (stateC a s)
def OwnEs (W w : World) (A : Option Addr) (n c : Nat) (es : List En) : Prop := ∃ vs, w.ownsRow W.heap.size 43 7 (.slice A n c) n vs /\ CellsE (fun a c => OwnC W w a c) vs es
section
variable {W w w' : World} {A : Option Addr} {n c B : Nat} {es : List En} {a : SA} {s : Sb}
theorem OwnC.belowB {ca : CA} {k : Cm} (h : OwnC W w ca k) (hb : Below w.heap.size w w') : OwnC W w' ca k := ⟨own_below h.k hb, own_below h.v hb, own_below h.o hb⟩
theorem OwnC.ofB {ca : CA} {k : Cm} (hs : W.heap.size <= w.heap.size) (h : OwnC w w' ca k) : OwnC W w' ca k := ⟨own_of hs h.k, own_of hs h.v, own_of hs h.o⟩
theorem OwnEs.below (h : OwnEs W w A n c es) (hb : Below w.heap.size w w') : OwnEs W w' A n c es := by
 obtain ⟨vs, h1, h2⟩ := h
 exact ⟨vs, ownsRow_below h1 hb, h2.imp fun _ _ h => h.belowB hb⟩
theorem OwnEs.of (hs : W.heap.size <= w.heap.size) (h : OwnEs w w' A n c es) : OwnEs W w' A n c es := by
 obtain ⟨vs, h1, h2⟩ := h
 exact ⟨vs, own_of hs h1, h2.imp fun _ _ h => h.ofB hs⟩
theorem OwnEs.rd (h : OwnEs W w A n c es) : RdE w w.heap.size A n es := by
 obtain ⟨vs, h1, h2⟩ := h
 exact ⟨vs, Rd.ownS h1 (by decide), h2.imp fun _ _ h => h.rd⟩
theorem OwnEs.nil (W w : World) : OwnEs W w none 0 0 [] := ⟨[], ⟨rfl, .inl ⟨rfl, rfl⟩⟩, CellsE.nil⟩
structure RdS (w : World) (B : Nat) (a : SA) (s : Sb) : Prop where
 m : RdM w B a.m s.m
 r : RdE w B a.Ar s.rest.length s.rest
structure OwnS (W w : World) (a : SA) (s : Sb) : Prop where
 m : OwnM W w a.m s.m
 r : OwnEs W w a.Ar s.rest.length a.cr s.rest
theorem RdS.below (h : RdS w B a s) (hb : Below B w w') : RdS w' B a s := ⟨h.m.below hb, h.r.below hb⟩
theorem RdS.fit (h : RdS w B a s) : RdS w w.heap.size a s := ⟨h.m.fit, h.r.fit⟩
theorem OwnS.below (h : OwnS W w a s) (hb : Below w.heap.size w w') : OwnS W w' a s := ⟨h.m.below hb, h.r.below hb⟩
theorem OwnS.of (hs : W.heap.size <= w.heap.size) (h : OwnS w w' a s) : OwnS W w' a s := ⟨h.m.of hs, h.r.of hs⟩
theorem OwnS.rd (h : OwnS W w a s) : RdS w w.heap.size a s := ⟨h.m.rd, h.r.rd⟩
theorem OwnS.zero (W w : World) : OwnS W w SA.zero Sb.zero := ⟨OwnM.zero _ _, OwnEs.nil _ _⟩
end
def GotS (W w : World) (r : Option Sb) (en : Ending) (w' : World) : Prop :=
 ∃ a, en = .returned (.tuple #[stateV a (r.getD Sb.zero), .bool r.isSome]) /\ OwnS W w' a (r.getD Sb.zero) /\ Below W.heap.size W w' /\ Below w.heap.size w w'
theorem GotS.of {W w w' : World} {r : Option Sb} {en : Ending} (hB : Below W.heap.size W w) (h : GotS w w r en w') : GotS W w r en w' := by
 obtain ⟨a, h1, h2, h3, h4⟩ := h
 exact ⟨a, h1, h2.of hB.size, hB.trans (h3.mono hB.size), h4⟩
theorem GotU.ofW {W w w' : World} {r : Option (List Nat)} {en : Ending} (hB : Below W.heap.size W w) (h : GotU w w r en w') : GotU W w r en w' := by
 obtain ⟨A, c, h1, h2, h3, h4⟩ := h
 exact ⟨A, c, h1, own_of hB.size h2, hB.trans (h3.mono hB.size), h4⟩
def Sb.part (l : List Nat) (i : Int) : Option (List Nat) := if i < 0 \/ (l.length : Int) <= i then none else some ((l.drop i.toNat).take 64)
structure Sb.Fine (s : Sb) : Prop where
 m : s.m.Ok
 n : s.rest.length <= 1000
 c : ∀ e ∈ s.rest, e.c.Fits
def EncodeC15 : Prop := ∀ {W w : World} {a : SA} {s : Sb} {B : Nat} {l : List Nat}, s.enc = l -> s.Fine -> RdS w B a s -> Below W.heap.size W w -> Calls Tryz.prog 10 #[stateV a s] w (GotIn W w l)
def DecodeC15 : Prop := ∀ {W w : World} {A : Option Addr} {n c B : Nat} {l : List Nat} {r : Option Sb}, Sb.dec l = r -> l.length <= 100000 -> (∀ x ∈ l, x < 256) -> n <= c /\ c <= maxLen -> Rd w B A n (bv l) -> Below W.heap.size W w -> Calls Tryz.prog 8 #[.slice A n c] w (GotS W w r)
def PartC15 : Prop := ∀ {W w : World} {A : Option Addr} {n c B : Nat} {l : List Nat} {i : Int} {r : Option (List Nat)}, Sb.part l i = r -> -9223372036854775808 <= i /\ i <= 9223372036854775807 -> l.length <= 100000 -> n <= c /\ c <= maxLen -> Rd w B A n (bv l) -> Below W.heap.size W w -> Calls Tryz.prog 9 #[.slice A n c, .int .i64 i] w (GotU W w r)
def AwakeC15 : Prop := ∀ (w : World), Calls Tryz.prog 11 #[] w fun e w' => e = .returned (.bool true) /\ Below w.heap.size w w'
theorem RdE.range {w : World} {B n k : Nat} {A : Option Addr} {es : List En} (h : RdE w B A n es) (hk : k < n) : ∃ b o e a, A = some ⟨b, o, none⟩ /\ b < B /\ es[k]? = some e /\ w.rangeAt b (o + k * 7) (entL a e) /\ RdC w B a e.c := by
 have hlen := h.length
 obtain ⟨vs, h1, h2⟩ := h
 obtain ⟨b, o, e1, hb, hc⟩ := h1.2 (by omega)
 obtain ⟨e, he⟩ : ∃ e, es[k]? = some e := ⟨_, List.getElem?_eq_getElem (by omega)⟩
 obtain ⟨a, e2, r1⟩ := h2.cell k e he
 exact ⟨b, o, e, a, e1, hb, he, fun j v hv => by
  have hj := entL_lt hv
  rw [Nat.add_assoc, hc _ (by omega), e2 j v hv], r1⟩
theorem rangeB {w w' : World} {B b o : Nat} {cs : List Value} (h : w.rangeAt b o cs) (hb : Below B w w') (hlt : b < B) : w'.rangeAt b o cs := fun j v hv => (hb.cell (p := ⟨b, o + j, none⟩) hlt).trans (h j v hv)
set_option maxHeartbeats 2000000 in
set_option maxRecDepth 100000 in
theorem refSameEntries (w : World) {A A' : Option Addr} {n c n' c' B B' : Nat} {es es' : List En} (hf : ∀ e ∈ es, e.c.Fits) (hf' : ∀ e ∈ es', e.c.Fits) (h : RdE w B A n es) (h' : RdE w B' A' n' es') (hn : n <= 1000000) :
 Calls Tryz.prog 42 #[.slice A n c, .slice A' n' c'] w fun e w' => e = .returned (.bool (decide (es = es'))) /\ Below w.heap.size w w' := by
 have hl := h.length
 have hl' := h'.length
 by_cases hne : n = n'
 · subst hne
   have HL := hD hl
   have HL' := hD hl'
   have H := hD h.fit
   have H' := hD h'.fit
   clear h h' hl hl'
   go_enter Tryz.func42, Tryz.ntmps42
   go_wp2_with fail
   go_loopw [5] (fun s5 wr => ∃ k : Nat, k <= n /\ s5 = .int .i64 (k : Int) /\ Hid (∀ j, j < k -> es[j]? = es'[j]?) /\ Hid (Below w.heap.size w wr)) (fun s _ => n - (intOf s).toNat)
   case atStart => exact ⟨0, Nat.zero_le _, rfl, hD (fun j hj => absurd hj (by omega)), hD (Below.refl _ _)⟩
   case round =>
    obtain ⟨k, hk, rfl, HS, HB⟩ := hrel
    by_cases hlt : k < n
    · obtain ⟨b, o, e, ca, rfl, hb, he, hr, hc⟩ := H.out.range hlt
      obtain ⟨b', o', e', ca', rfl, hb', he', hr', hc'⟩ := H'.out.range hlt
      have hfe := hf e (List.mem_of_getElem? he)
      have hfe' := hf' e' (List.mem_of_getElem? he')
      have HR := hD (rangeB hr HB.out hb)
      have HR' := hD (rangeB hr' HB.out hb')
      have HC := hD (hc.below HB.out).fit
      have HC' := hD (hc'.below HB.out).fit
      have hbl : b < wr.heap.size := Nat.lt_of_lt_of_le hb HB.out.size
      have hbl' : b' < wr.heap.size := Nat.lt_of_lt_of_le hb' HB.out.size
      have HE := hD he
      have HE' := hD he'
      clear hr hr' hc hc' he he' hb hb'
      go_upto_region 6 with fail
      go_cut [26] from 11 to 26 (fun s26 wx => s26 = .bool (!decide (e = e')) /\ Hid (Below w.heap.size w wx))
      case first =>
       have hS0 : Below wr.heap.size wr wr.drew := (Below.refl _ _).drew
       refine wp_region_held_drew (S := fun w' => Below wr.heap.size wr w') (by kernel_rfl) hS0 (fun _ => ?_)
       have hS := hD hS0
       clear hS0
       generalize wr.drew = wd at hS |-
       refine tkL (i := 0) (v := .slice (some ⟨b, o, none⟩) n c) rfl (fun w _ => by go_simp) hS.out ?_
       refine tkL (i := 1) (v := .int .i64 (k : Int)) rfl (fun w _ => by go_simp) hS.out ?_
       refine tkL (i := 2) (v := .pointer (some ⟨b, o + k * 7, none⟩)) rfl (fun w _ => by go_simp) hS.out ?_
       refine wpAnyH_take (i := 3) (v := entV ca e) rfl (by kernel_rfl) (by kernel_rfl) (by kernel_rfl) (fun _ _ _ h => h) (yieldsIf_load_mid (by kernel_rfl) 43 (.tmp 19) rfl b (o + k * 7) rfl (entL ca e) _ (fun w hw => rangeB HR.out hw hbl) Tryz.underlying43 rfl (by kernel_rfl)) hS.out ?_
       refine tkL (i := 4) (v := .slice (some ⟨b', o', none⟩) n c') rfl (fun w _ => by go_simp) hS.out ?_
       refine tkL (i := 5) (v := .int .i64 (k : Int)) rfl (fun w _ => by go_simp) hS.out ?_
       refine tkL (i := 6) (v := .pointer (some ⟨b', o' + k * 7, none⟩)) rfl (fun w _ => by go_simp) hS.out ?_
       refine wpAnyH_take (i := 7) (v := entV ca' e') rfl (by kernel_rfl) (by kernel_rfl) (by kernel_rfl) (fun _ _ _ h => h) (yieldsIf_load_mid (by kernel_rfl) 43 (.tmp 23) rfl b' (o' + k * 7) rfl (entL ca' e') _ (fun w hw => rangeB HR'.out hw hbl') Tryz.underlying43 rfl (by kernel_rfl)) hS.out ?_
       refine rdH (rs := [8]) ?_
       refine AllReadyH.cons rfl (fun K hK => ?_) AllReadyH.nil
       go_simp
       refine (refSameEntry_any _ hfe hfe' (HC.out.below hS.out) (HC'.out.below hS.out)).mono ?_
       rintro en w2 ⟨rfl, hb2⟩
       have hS := hD (hS.out.trans (hb2.mono hS.out.size))
       clear hb2
       go_simp
       refine hK.out _ _ hS.out (fun _ => ?_)
       clear hK K
       refine tkL (i := 9) (v := .bool (!decide (e = e'))) rfl (fun w _ => by go_simp) hS.out ?_
       refine wpAnyH_done (by kernel_rfl) ?_ _
       have HB2 := hD (HB.out.trans (hS.out.mono HB.out.size))
       go_wp2_with fail
       go_meet
       exact ⟨rfl, HB2⟩
      case rest =>
       obtain ⟨rfl, HB⟩ := hcut
       rename World => wx
       by_cases hee : e = e'
       · have hd : (!decide (e = e')) = false := by simp [hee]
         rw [hd]
         have HEE := hD hee
         clear hd hee
         go_wp2_with fail
         go_roundw
         case rel =>
          refine ⟨k + 1, by omega, by go_num, hD (fun j hj => ?_), HB⟩
          rcases Nat.lt_or_ge j k with h1 | h1
          · exact HS.out j h1
          · obtain rfl : j = k := by omega
            rw [HE.out, HE'.out, HEE.out]
         case measure => simp [intOf]; omega
       · have hd : (!decide (e = e')) = true := by simp [hee]
         rw [hd]
         have HNE : Hid (decide (es = es') = false) := hD (decide_eq_false (fun h => hee (by
          have h1 := HE.out
          rw [h, HE'.out] at h1
          injection h1 with h1
          exact h1.symm)))
         clear hd hee
         go_wp2_with fail
         go_ret
         exact ⟨ret_bool HNE.out.symm, HB.out⟩
    · obtain rfl : k = n := by omega
      have HEQ : Hid (decide (es = es') = true) := hD (decide_eq_true (List.ext_getElem? (fun j => by
       rcases Nat.lt_or_ge j k with h1 | h1
       · exact HS.out j h1
       · rw [List.getElem?_eq_none (by have := HL.out; omega), List.getElem?_eq_none (by have := HL'.out; omega)])))
      go_wp2_with fail
      go_ret
      exact ⟨ret_bool HEQ.out.symm, HB.out⟩
 · have hd : decide (es = es') = false := decide_eq_false (fun h => hne (by rw [<- hl, <- hl', h]))
   rw [hd]
   clear hd hl hl'
   go_enter Tryz.func42, Tryz.ntmps42
   go_wp2_with fail
   all_goals
    go_ret
    exact ⟨rfl, Below.refl _ _⟩
end Go.Proofs.YtmekamgohonffaaGreat
