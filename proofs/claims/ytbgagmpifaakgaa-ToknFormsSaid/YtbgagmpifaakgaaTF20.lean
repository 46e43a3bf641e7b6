/- RangeKit -/
import Derived.Test.YtbgagmpifaakgaaTF02
import Derived.RangeFuncBound
import Derived.RangeFuncBox
import Derived.RangeFuncCalls
import Derived.RangeFuncLeaves
import Derived.RangeFuncNested
namespace Go.Proofs.Ytbgagmpifaakgaa
open Go.RowKit
/-- a function's contract from its body, where the body holds a range over a function -/
theorem calls_of_wp_marks {P : Program} {f : FuncId} {fn : Func} {c : Code} {args : Array Value} {w : World} {R : Ending → World → Prop}
    (hf : P.funcs[f]? = some fn) (hb : fn.body = some c)
    (h : c.wp P (bodyPostM Fence.wide 20 P fn R) { tmps := args ++ Array.replicate (fn.ntmps - args.size) undef, defers := [] } w) : Calls P f args w R :=
  callsIn_wide.1 (callsIn_of_wp_marks hf hb trivial (wpIn_wide.2 h) rfl)
/-- the blocks of ks lie as they lay -/
def KeepsK (ks : List Nat) (W W' : World) : Prop := W.heap.size ≤ W'.heap.size ∧ ∀ k ∈ ks, W'.heap[k]? = W.heap[k]?
theorem keepsK_t {ks : List Nat} {A B C : World} (h : KeepsK ks A B) (k : KeepsK ks B C) : KeepsK ks A C := ⟨Nat.le_trans h.1 k.1, fun i hi => (k.2 i hi).trans (h.2 i hi)⟩
theorem keepsK_b {w : World} {ks : List Nat} (h : ∀ k ∈ ks, k < w.heap.size) (W : World) (l : Nat) (o o' : Obj) (hl : w.heap.size ≤ l) (_ : W.heap[l]? = some o) (_ : o.isCells = false) (_ : o.isWalk = false) : KeepsK ks W (W.putObj l o') :=
  ⟨by simp, fun k hk => World.putObj_heap_other (by have := h k hk; omega)⟩
theorem keepsK_set {ks : List Nat} (W : World) {g : Nat} (i : Nat) (u : Value) (h : ∀ k ∈ ks, k ≠ g) : KeepsK ks W (W.setCell ⟨g, i, none⟩ u) :=
  ⟨by simp [World.setCell], fun k hk => Below.heap_setCell W ⟨g, i, none⟩ u k (h k hk)⟩
theorem grownBy_set (W : World) (g i : Nat) (u : Value) : W.grownBy (W.setCell ⟨g, i, none⟩ u) (some g) :=
  ⟨rfl, rfl, rfl, by simp [World.setCell], fun k hk hn => Below.heap_setCell W ⟨g, i, none⟩ u k (by rintro rfl; exact hn rfl)⟩
theorem own_set_other {w : World} {base : Nat} {e : TypeId} {s n g : Nat} {v : Value} {xs : List Value} (h : w.ownsRow base e s v n xs) (hg : g < base) (i : Nat) (u : Value) : (w.setCell ⟨g, i, none⟩ u).ownsRow base e s v n xs := by
  refine h.kept (grownBy_set w g i u) ?_
  rcases h.2 with ⟨h1, _⟩ | ⟨g', cap, cur, h1, h2, _⟩
  · rw [h1]; exact .inl rfl
  · rw [h1]; exact .inr (by simp [Value.ownBlock]; omega)
theorem ownFrom_grown {β : Type} (wA : World) (r : Option Nat) : OwnFrom wA.heap.size (fun (_ : β) W => wA.grownBy W r) := by
  intro s W W' row hs hg hr
  exact ⟨hg.os.trans hs.os, hg.tape.trans hs.tape, hg.output.trans hs.output, Nat.le_trans hs.size hg.size, fun k hk hn => (hg.block k (Nat.lt_of_lt_of_le hk hs.size) (fun e => by have := (hr k e.symm).1; omega)).trans (hs.block k hk hn)⟩
theorem grown_below {a b : World} {g B : Nat} (h : a.grownBy b (some g)) (hB : B ≤ g) (hs : B ≤ a.heap.size) : Below B a b :=
  ⟨h.os, h.tape, h.output, h.size, fun k hk => h.block k (by omega) (by intro e; injection e with e; omega)⟩
/-- the blocks below Lb behind an append onto a row that lies at or beyond it -/
theorem append_keeps {W w3 : World} {Lb : Nat} {e : TypeId} {s n : Nat} {v : Value} {xs : List Value} {o : Obj} (ho : W.ownsRow Lb e s v n xs) (hg : (W.alloc o).grownBy w3 v.ownBlock) (hL : Lb ≤ W.heap.size) :
    Below Lb W w3 ∧ KeepsFrom Lb W w3 ∧ ∀ ks : List Nat, (∀ k ∈ ks, k < Lb) → KeepsK ks W w3 := by
  have hlt := ho.lt
  have hB : Below Lb W w3 := ((Below.refl Lb W).alloc hL o).grown hg (by simp; omega) (fun k hk => (hlt k hk).1)
  refine ⟨hB, ⟨hB.size, fun k o' hk hko hc => ?_⟩, fun ks hks => ⟨hB.size, fun k hk => hB.block k (hks k hk)⟩⟩
  have hkl : k < W.heap.size := (Array.getElem?_eq_some_iff.1 hko).1
  refine (hg.block k (by simp; omega) ?_).trans ((Below.heap_alloc W o k hkl).trans hko)
  intro e'
  rcases ho.2 with ⟨h1, _⟩ | ⟨g', cap, cur, h1, _, h3, _⟩
  · rw [h1] at e'; cases e'
  · rw [h1] at e'
    simp [Value.ownBlock] at e'
    subst e'
    rw [h3] at hko
    cases hko; cases hc
/-- a loop that leaves a mark, cut off from what follows -/
theorem wp_marked {P : Program} {c : Code} {Q : Exit → Act → World → Prop} {a : Act} {w : World} (Fact : Nat → World → Prop)
    (h : c.wp P (fun e a' W => e = .normal ∧ ∃ D, a' = { a with defers := { target := .collected D, args := #[] } :: a.defers } ∧ W.heap[D]? = some (.deferred (some [])) ∧ w.heap.size ≤ D ∧ Fact D W) a w)
    (hk : ∀ D W, W.heap[D]? = some (.deferred (some [])) → w.heap.size ≤ D → Fact D W → Q .normal { a with defers := { target := .collected D, args := #[] } :: a.defers } W) : c.wp P Q a w :=
  wp_mono h fun e a' W ⟨h1, D, h2, h3, h4, h5⟩ => by subst h1 h2; exact hk D W h3 h4 h5
/-- what a loop has collected in box B -/
def ColI (wl : World) (B : Nat) (tS tE : TypeId) (zs : List Int) (W : World) : Prop :=
  (∃ A n c, Blk W B tS #[.slice A n c] ∧ W.ownsRow wl.heap.size tE 1 (.slice A n c) n (iv zs)) ∧ wl.grownBy W (some B)
theorem colI_own {β : Type} (wl : World) (B : Nat) (tS tE : TypeId) (f : β → List Int) : OwnFrom wl.heap.size (fun s W => ColI wl B tS tE (f s) W) := by
  rintro s W W' row ⟨⟨A, n, c, h5, ho⟩, hg0⟩ hg hr
  have hb : ∀ {g : Nat} {t : TypeId} {cs : Array Value}, Blk W g t cs → some g ≠ row := by
    rintro g t cs hb e
    obtain ⟨_, o, ho, hc⟩ := hr g e.symm
    rw [show W.heap[g]? = _ from hb] at ho
    cases ho; cases hc
  refine ⟨⟨A, n, c, h5.grown hg (hb h5), ho.kept hg ?_⟩, ownFrom_grown (β := Unit) wl (some B) () W W' row hg0 hg hr⟩
  rcases ho.2 with ⟨h1, _⟩ | ⟨g, cap, cur, h1, _, hgb, _⟩
  · rw [h1]; exact .inl rfl
  · rw [h1]; exact .inr (fun e => hb (g := g) hgb (by simpa [Value.ownBlock] using e))
theorem colI_start {wl : World} {B : Nat} {tS tE : TypeId} (h : Blk wl B tS #[.slice none 0 0]) : ColI wl B tS tE [] wl :=
  ⟨⟨none, 0, 0, h, World.ownsRow_nil _ _ _ _⟩, World.grownBy.refl _ _⟩
theorem colI_step {wl W w3 : World} {B : Nat} {tS tE : TypeId} {zs : List Int} {z : Int} {A A' : Option Addr} {n c c' : Nat} {o : Obj}
    (hb : Blk W B tS #[.slice A n c]) (ho : W.ownsRow wl.heap.size tE 1 (.slice A n c) n (iv zs)) (hg : wl.grownBy W (some B)) (hB : B < wl.heap.size)
    (hown : w3.ownsRow wl.heap.size tE 1 (.slice A' (n + 1) c') (n + 1) (iv zs ++ [.int .i64 z])) (hgrow : (W.alloc o).grownBy w3 (Value.slice A n c).ownBlock) :
    Blk w3 B tS #[.slice A n c] ∧ ColI wl B tS tE (zs ++ [z]) (w3.setCell ⟨B, 0, none⟩ (.slice A' (n + 1) c')) ∧ KeepsFrom wl.heap.size W (w3.setCell ⟨B, 0, none⟩ (.slice A' (n + 1) c')) ∧
      ∀ ks : List Nat, (∀ k ∈ ks, k < wl.heap.size ∧ k ≠ B) → KeepsK ks W (w3.setCell ⟨B, 0, none⟩ (.slice A' (n + 1) c')) := by
  obtain ⟨p1, p2, p3⟩ := append_keeps ho hgrow hg.size
  have t5 : Blk w3 B tS #[.slice A n c] := (p1.block _ hB).trans hb
  have e1 : iv (zs ++ [z]) = iv zs ++ [.int .i64 z] := by rw [iv_append]; rfl
  have hgs := grownBy_set w3 B 0 (.slice A' (n + 1) c')
  refine ⟨t5, ⟨⟨A', n + 1, c', t5.set_ 0 _, ?_⟩, ⟨(hgs.os.trans p1.os).trans hg.os, (hgs.tape.trans p1.tape).trans hg.tape, (hgs.output.trans p1.output).trans hg.output, Nat.le_trans hg.size (Nat.le_trans p1.size hgs.size), fun k hk hn => ((hgs.block k (Nat.lt_of_lt_of_le hk (Nat.le_trans hg.size p1.size)) hn).trans (p1.block k hk)).trans (hg.block k hk hn)⟩⟩, p2.trans ((KeepsOthers.setCell _ _ _).from _), fun ks hks => keepsK_t (p3 ks (fun k hk => (hks k hk).1)) (keepsK_set _ 0 _ (fun k hk => (hks k hk).2))⟩
  rw [e1]; exact own_set_other hown hB 0 _
end Go.Proofs.Ytbgagmpifaakgaa

