/- BoxKit GathKit -/
import Derived.Test.YtneehnoolhadbaaGP10
import Derived.Test.YtneehnoolhadbaaGP13
import Derived.Test.YtneehnoolhadbaaGP22
import Derived.Test.YtneehnoolhadbaaGP23
import Derived.Test.YtneehnoolhadbaaGP25
import Derived.Deep.MidRow
import Derived.Deep.RegionWith
import Derived.OwnWalk
import Derived.WalkLawsBesides
import Derived.WalkSpells
namespace Go.Proofs.Ytneehnoolhadbaa
open Go.RowKit
set_option linter.unusedVariables false
theorem boxed (w : World) (Z R : Array Value) (T : TypeId) : ∃ g w2, w.heap.size = g ∧ (w.alloc (.cells Z T)).setRow g R = w2 ∧ Below w.heap.size w w2 ∧ Blk w2 g T R :=
  ⟨_, _, rfl, rfl, below_setRow ((Below.refl _ _).alloc (Nat.le_refl _) _) (Nat.le_refl _) _, (Blk.new _ _ _).row _⟩
theorem alloced (w : World) (R : Array Value) (T : TypeId) : ∃ g w2, w.heap.size = g ∧ w.alloc (.cells R T) = w2 ∧ Below w.heap.size w w2 ∧ Blk w2 g T R :=
  ⟨_, _, rfl, rfl, (Below.refl _ _).alloc (Nat.le_refl _) _, Blk.new _ _ _⟩
end Go.Proofs.Ytneehnoolhadbaa

namespace Go.Proofs.Ytneehnoolhadbaa
open Go.RowKit
set_option linter.unusedVariables false
/-- the message that is committed -/
def Gm.msg (g : Gm) : Mg := match g.com with
  | none => Mg.zero
  | some c => { Mg.zero with kind := 3, frm := g.id, view := g.v, len := c.2.2, mem := (c.1 : Int), src := c.2.1 }
/-- what counts of a message -/
def svM (m : Mg) : Sv := ⟨m.kind, m.frm, m.inst, m.len, m.has⟩
/-- the block's cells -/
def gthC (n : Nat) (id v : Int) (cm : Nat) (A : Option Addr) (k c : Nat) (m0 m1 m3 m5 m7 m8 : Int) (sure : Bool) (rd : Nat) : Array Value :=
  #[.int .i64 n, .int .i64 id, .int .i64 v, .int .i64 cm, .slice A k c, .int .i64 m0, .int .i64 m1, .int .i64 0, .int .i64 m3, .int .i64 0, .int .i64 m5, .bool false, .int .i64 m7, .int .i64 m8, .int .i64 0, .int .i64 0, .slice none 0 0, .int .i64 0, .int .i64 0, .slice none 0 0, .slice none 0 0, .int .i64 0, .int .i64 0, .int .i64 0, .int .i64 0, .int .i64 0, .slice none 0 0, .slice none 0 0, .slice none 0 0, .bool sure, .int .i64 rd]
def comC (m0 m1 m3 m5 m7 m8 : Int) : List Value := [.int .i64 m0, .int .i64 m1, .int .i64 0, .int .i64 m3, .int .i64 0, .int .i64 m5, .bool false, .int .i64 m7, .int .i64 m8, .int .i64 0, .int .i64 0, .slice none 0 0, .int .i64 0, .int .i64 0, .slice none 0 0, .slice none 0 0, .int .i64 0, .int .i64 0, .int .i64 0, .int .i64 0, .int .i64 0, .slice none 0 0, .slice none 0 0, .slice none 0 0]
/-- the committed message's cells -/
structure ComR (g : Gm) (m0 m1 m3 m5 m7 m8 : Int) : Prop where
  e0 : g.msg.kind = m0
  e1 : g.msg.frm = m1
  e3 : g.msg.view = m3
  e5 : g.msg.len = m5
  e7 : g.msg.mem = m7
  e8 : g.msg.src = m8
theorem Gm.msg_mem (g : Gm) : g.msg.mem = (g.mask : Int) := by
  unfold Gm.msg Gm.mask
  cases g.com <;> rfl
theorem ComR.mem {g : Gm} {m0 m1 m3 m5 m7 m8 : Int} (h : ComR g m0 m1 m3 m5 m7 m8) : m7 = (g.mask : Int) := by rw [← h.e7]; exact g.msg_mem
theorem ComR.cells {g : Gm} {m0 m1 m3 m5 m7 m8 : Int} (h : ComR g m0 m1 m3 m5 m7 m8) : msgV GA.zero g.msg = .agg #[.int .i64 m0, .int .i64 m1, .int .i64 0, .int .i64 m3, .int .i64 0, .int .i64 m5, .bool false, .int .i64 m7, .int .i64 m8, .int .i64 0, .int .i64 0, .slice none 0 0, .int .i64 0, .int .i64 0, .slice none 0 0, .slice none 0 0, .int .i64 0, .int .i64 0, .int .i64 0, .int .i64 0, .int .i64 0, .slice none 0 0, .slice none 0 0, .slice none 0 0] := by
  rw [← h.e0, ← h.e1, ← h.e3, ← h.e5, ← h.e7, ← h.e8]
  unfold Gm.msg
  cases g.com <;> rfl
theorem nodup_le : ∀ (n : Nat) (l : List Nat), l.Nodup → (∀ x ∈ l, x < n) → l.length ≤ n
  | 0, l, _, h => by
    cases l with
    | nil => exact Nat.le_refl _
    | cons x t => exact absurd (h x (by simp)) (by omega)
  | n + 1, l, hd, h => by
    have h1 := nodup_le n (l.erase n) (hd.erase n) (fun x hx => by
      have h2 := (hd.mem_erase_iff).1 hx
      have := h x h2.2
      have := h2.1
      omega)
    by_cases hm : n ∈ l
    · have := List.length_erase_of_mem hm
      omega
    · rw [List.erase_of_not_mem hm] at h1
      omega
/-- its blocks -/
def gaS (b : Nat) (A : Option Addr) : Nat → Prop := fun q => q = b ∨ ∃ o, A = some ⟨q, o, none⟩
abbrev TG : List TypeId := [54, 31]
/-- a gather in memory, made behind W -/
structure GRep (W w : World) (b : Nat) (g : Gm) (A : Option Addr) (k c : Nat) (es : List (List Value)) (m0 m1 m3 m5 m7 m8 : Int) : Prop where
  blk : Blk w b 54 (gthC g.n g.id g.v (Gm.came g.l) A k c m0 m1 m3 m5 m7 m8 g.com.isSome g.ready)
  com : ComR g m0 m1 m3 m5 m7 m8
  own : OwnV W w A k c es
  len : es.length = k
  ms : ∀ cs ∈ es, Ms cs
  st : g.com = none → es.map svOf = g.l
  ok : g.Ok
  lo : W.heap.size ≤ b
  bel : Below W.heap.size W w
def GthAt (W w : World) (S : Nat → Prop) (b : Nat) (g : Gm) : Prop := ∃ A k c es m0 m1 m3 m5 m7 m8, GRep W w b g A k c es m0 m1 m3 m5 m7 m8 ∧ S = gaS b A
section
variable {W w w' : World} {b k c : Nat} {g : Gm} {A : Option Addr} {es : List (List Value)} {m0 m1 m3 m5 m7 m8 : Int} {S : Nat → Prop}
theorem GRep.few (h : GRep W w b g A k c es m0 m1 m3 m5 m7 m8) (hc : g.com = none) : k ≤ 7 := by
  have h1 := h.st hc
  have h2 : g.l.length ≤ g.n := by
    have hnd : (g.l.map (fun s => s.frm.toNat)).Nodup := by
      refine List.pairwise_map.2 (h.ok.apart.imp_of_mem ?_)
      intro a b ha hb hne he
      have := h.ok.st a ha; have := h.ok.st b hb
      exact hne (by omega)
    have hsub : (g.l.map (fun s => s.frm.toNat)) ⊆ List.range g.n := by
      intro x hx
      obtain ⟨s, hs, rfl⟩ := List.mem_map.1 hx
      have := h.ok.st s hs
      exact List.mem_range.2 (by omega)
    have := nodup_le g.n _ hnd (fun x hx => List.mem_range.1 (hsub hx))
    simpa using this
  have h3 := h.ok.n7
  have h4 : es.length = g.l.length := by rw [← h1, List.length_map]
  have := h.len
  omega
theorem GRep.below (h : GRep W w b g A k c es m0 m1 m3 m5 m7 m8) (hb : Below w.heap.size w w') : GRep W w' b g A k c es m0 m1 m3 m5 m7 m8 :=
  ⟨h.blk.below hb, h.com, h.own.below hb, h.len, h.ms, h.st, h.ok, h.lo, h.bel.trans (hb.mono h.bel.size)⟩
theorem GRep.lt (h : GRep W w b g A k c es m0 m1 m3 m5 m7 m8) : ∀ q, gaS b A q → W.heap.size ≤ q ∧ q < w.heap.size := by
  rintro q (rfl | ⟨o, rfl⟩)
  · exact ⟨h.lo, h.blk.lt⟩
  · rcases own_blk h.own with ⟨h1, _⟩ | ⟨q', cur, h1, h2, h3⟩
    · cases h1
    · injection h1 with h1; injection h1 with h1; subst h1; exact ⟨h2, h3.lt⟩
theorem GRep.of (h : GRep W w b g A k c es m0 m1 m3 m5 m7 m8) : Of (gaS b A) TG w := by
  rintro q (rfl | ⟨o, rfl⟩) hlt
  · exact ⟨_, _, _, h.blk, by simp⟩
  · rcases own_blk h.own with ⟨h1, _⟩ | ⟨q', cur, h1, h2, h3⟩
    · cases h1
    · injection h1 with h1; injection h1 with h1; subst h1; exact ⟨_, _, _, h3, by simp⟩
theorem GRep.keeps {S0 : Nat → Prop} (h : GRep W w b g A k c es m0 m1 m3 m5 m7 m8) (hk : Keeps S0 w w') (hn : ∀ q, gaS b A q → ¬ S0 q) (hB : Below W.heap.size W w') : GRep W w' b g A k c es m0 m1 m3 m5 m7 m8 := by
  refine ⟨h.blk.keeps hk (hn _ (.inl rfl)), h.com, ?_, h.len, h.ms, h.st, h.ok, h.lo, hB⟩
  refine ⟨h.own.1, ?_⟩
  rcases h.own.2 with h2 | ⟨q, cap, cur, q1, q2, q3, q4⟩
  · exact .inl h2
  · injection q1 with q1 q5 q6
    refine .inr ⟨q, cap, cur, by rw [q1, q6], q2, ?_, q4⟩
    exact (hk.block q (Array.getElem?_eq_some_iff.1 q3).1 (hn q (.inr ⟨0, q1⟩))).trans q3
theorem GthAt.below (h : GthAt W w S b g) (hb : Below w.heap.size w w') : GthAt W w' S b g := by
  obtain ⟨A, k, c, es, m0, m1, m3, m5, m7, m8, h1, h2⟩ := h
  exact ⟨A, k, c, es, m0, m1, m3, m5, m7, m8, h1.below hb, h2⟩
theorem GthAt.ok (h : GthAt W w S b g) : g.Ok := by
  obtain ⟨A, k, c, es, m0, m1, m3, m5, m7, m8, h1, h2⟩ := h; exact h1.ok
theorem GthAt.bel (h : GthAt W w S b g) : Below W.heap.size W w := by
  obtain ⟨A, k, c, es, m0, m1, m3, m5, m7, m8, h1, h2⟩ := h; exact h1.bel
theorem GthAt.lt (h : GthAt W w S b g) : ∀ q, S q → W.heap.size ≤ q ∧ q < w.heap.size := by
  obtain ⟨A, k, c, es, m0, m1, m3, m5, m7, m8, h1, rfl⟩ := h; exact h1.lt
theorem GthAt.of (h : GthAt W w S b g) : Of S TG w := by
  obtain ⟨A, k, c, es, m0, m1, m3, m5, m7, m8, h1, rfl⟩ := h; exact h1.of
theorem GthAt.keeps {S0 : Nat → Prop} (h : GthAt W w S b g) (hk : Keeps S0 w w') (hn : ∀ q, S q → ¬ S0 q) (hB : Below W.heap.size W w') : GthAt W w' S b g := by
  obtain ⟨A, k, c, es, m0, m1, m3, m5, m7, m8, h1, rfl⟩ := h
  exact ⟨A, k, c, es, m0, m1, m3, m5, m7, m8, h1.keeps hk hn hB, rfl⟩
end
/-- a gather behind a call -/
def GotGa (W w : World) (S : Nat → Prop) (b : Nat) (g : Gm) (w' : World) : Prop := ∃ S', GthAt W w' S' b g ∧ Adv S w S' w'
/-- a block's cells, some in a row written -/
def setL (C : Array Value) : Nat → List Value → Array Value
  | _, [] => C
  | o, v :: vs => setL (C.setIfInBounds o v) (o + 1) vs
theorem Blk.setL {w : World} {b : Nat} {t : TypeId} : ∀ (vs : List Value) (o : Nat) (C : Array Value) (w : World), Blk w b t C → Blk (w.setCells b o vs) b t (setL C o vs)
  | [], _, _, _, h => h
  | v :: vs, o, C, w, h => Blk.setL (w := w) vs (o + 1) _ _ (h.set_ o v)
theorem keeps_setCells {S : Nat → Prop} {b : Nat} (hS : S b) {W : World} : ∀ (vs : List Value) (o : Nat) (w : World), Keeps S W w → Keeps S W (w.setCells b o vs)
  | [], _, _, h => h
  | v :: vs, o, w, h => keeps_setCells hS vs (o + 1) _ (by
    refine ⟨h.os, h.tape, h.output, by simpa using h.size, fun k hk hn => ?_⟩
    exact (Below.heap_setCell w ⟨b, o, none⟩ v k (fun e => hn (e ▸ hS))).trans (h.block k hk hn))
theorem keeps_setCell {S : Nat → Prop} {b : Nat} (hS : S b) {W w : World} (h : Keeps S W w) (o : Nat) (v : Value) : Keeps S W (w.setCell ⟨b, o, none⟩ v) := keeps_setCells hS [v] o w h
theorem there_blk {w : World} {b o n : Nat} {t : TypeId} {C : Array Value} (h : Blk w b t C) (hn : o + n ≤ C.size) : w.there b o n := fun j hj => by
  rw [h.cell, h.frozen]
  exact ⟨by rw [Array.getElem?_eq_getElem (by omega)]; rfl, rfl⟩
end Go.Proofs.Ytneehnoolhadbaa

