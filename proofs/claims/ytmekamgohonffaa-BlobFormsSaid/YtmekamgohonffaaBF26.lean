/- MachKit OnlyKit -/
import Derived.Test.YtmekamgohonffaaBF24
namespace Go.Proofs.Ytmekamgohonffaa
open Go.RowKit
set_option linter.unusedVariables false
/-- where a machine lies -/
structure MA where
  o : OA
  At : Option Addr
  ct : Nat
def machC (a : MA) (m : Mc) : Array Value := #[.slice a.o.A0 m.o.reg.length a.o.c0, .slice a.o.A1 m.o.q.length a.o.c1, .slice a.o.A2 m.o.lk.length a.o.c2, .slice a.o.A3 m.o.mp.length a.o.c3, .slice a.At m.t.length a.ct]
def entC (a : CA) (e : En) : Array Value := #[.int .i64 e.s, .int .i64 e.q, .int .i64 e.c.kind, .int .i64 e.c.who, .slice a.Ak e.c.key.length a.ck, .slice a.Av e.c.val.length a.cv, .slice a.Ao e.c.old.length a.co]
def machV (a : MA) (m : Mc) : Value := .agg (machC a m)
def entV (a : CA) (e : En) : Value := .agg (entC a e)
/-- a machine that reads -/
structure RdM (w : World) (B : Nat) (a : MA) (m : Mc) : Prop where
  o : RdO w B a.o m.o
  t : RdL w B a.At m.t.length m.t
  lt : m.t.length ≤ a.ct
/-- a machine of the call's own -/
structure OwnM (W w : World) (a : MA) (m : Mc) : Prop where
  o : OwnO W w a.o m.o
  t : OwnL W w a.At m.t.length a.ct m.t
section
variable {W w w' : World} {B : Nat} {a : MA} {m : Mc}
theorem RdM.below (h : RdM w B a m) (hb : Below B w w') : RdM w' B a m := ⟨h.o.below hb, h.t.below hb, h.lt⟩
theorem RdM.fit (h : RdM w B a m) : RdM w w.heap.size a m := ⟨h.o.fit, h.t.fit, h.lt⟩
theorem OwnM.rd (h : OwnM W w a m) : RdM w w.heap.size a m := ⟨h.o.rd, h.t.rd, h.t.cap⟩
theorem OwnM.below (h : OwnM W w a m) (hb : Below w.heap.size w w') : OwnM W w' a m := ⟨h.o.below hb, h.t.below hb⟩
theorem OwnM.of {W w w' : World} (hs : W.heap.size ≤ w.heap.size) (h : OwnM w w' a m) : OwnM W w' a m := ⟨h.o.of hs, h.t.of hs⟩
theorem OwnO.nil (W w : World) : OwnO W w ⟨none, 0, none, 0, none, 0, none, 0⟩ ⟨[], [], [], []⟩ := ⟨own_nil _ _, OwnQ.nil _ _, ownI_nil _ _, OwnP.nil _ _⟩
theorem OwnM.zero (W w : World) : OwnM W w ⟨⟨none, 0, none, 0, none, 0, none, 0⟩, none, 0⟩ Mc.zero := ⟨OwnO.nil _ _, OwnL.nil _ _⟩
theorem OwnM.set_t {b i : Nat} {t : TypeId} {u : Value} {cs : Array Value} (h : OwnM W w a m) (hb : Blk w b t cs) (h1 : 5 ≠ t) (h2 : 22 ≠ t) (h3 : 3 ≠ t) (h4 : 68 ≠ t) (h5 : 75 ≠ t) : OwnM W (w.setCell ⟨b, i, none⟩ u) a m :=
  ⟨h.o.set_t hb h1 h2 h3 h4, h.t.set_t hb h1 h5⟩
end
/-- five stores into a block of five cells: what they leave -/
theorem put5 {w : World} {b : Nat} {t : TypeId} {x0 y0 z0 u0 v0 : Value} (hk : Blk w b t #[x0, y0, z0, u0, v0]) (x y z u v : Value) :
    Blk (((((w.setCell ⟨b, 0, none⟩ x).setCell ⟨b, 1, none⟩ y).setCell ⟨b, 2, none⟩ z).setCell ⟨b, 3, none⟩ u).setCell ⟨b, 4, none⟩ v) b t #[x, y, z, u, v] ∧
    (∀ W, W.heap.size ≤ b → Below W.heap.size W w → Below W.heap.size W (((((w.setCell ⟨b, 0, none⟩ x).setCell ⟨b, 1, none⟩ y).setCell ⟨b, 2, none⟩ z).setCell ⟨b, 3, none⟩ u).setCell ⟨b, 4, none⟩ v)) ∧
    (∀ W a m, OwnM W w a m → 5 ≠ t → 22 ≠ t → 3 ≠ t → 68 ≠ t → 75 ≠ t → OwnM W (((((w.setCell ⟨b, 0, none⟩ x).setCell ⟨b, 1, none⟩ y).setCell ⟨b, 2, none⟩ z).setCell ⟨b, 3, none⟩ u).setCell ⟨b, 4, none⟩ v) a m) ∧
    (∀ base e size v' n xs, w.ownsRow base e size v' n xs → e ≠ t → (((((w.setCell ⟨b, 0, none⟩ x).setCell ⟨b, 1, none⟩ y).setCell ⟨b, 2, none⟩ z).setCell ⟨b, 3, none⟩ u).setCell ⟨b, 4, none⟩ v).ownsRow base e size v' n xs) ∧
    ∀ g t' cs, g ≠ b → Blk w g t' cs → Blk (((((w.setCell ⟨b, 0, none⟩ x).setCell ⟨b, 1, none⟩ y).setCell ⟨b, 2, none⟩ z).setCell ⟨b, 3, none⟩ u).setCell ⟨b, 4, none⟩ v) g t' cs := by
  have k1 := hk.set_ 0 x
  have k2 := k1.set_ 1 y
  have k3 := k2.set_ 2 z
  have k4 := k3.set_ 3 u
  have k5 := k4.set_ 4 v
  refine ⟨k5, fun W h1 h2 => ((((h2.setCell h1 _).setCell h1 _).setCell h1 _).setCell h1 _).setCell h1 _, fun W a m h h1 h2 h3 h4 h5 => ((((h.set_t hk h1 h2 h3 h4 h5).set_t k1 h1 h2 h3 h4 h5).set_t k2 h1 h2 h3 h4 h5).set_t k3 h1 h2 h3 h4 h5).set_t k4 h1 h2 h3 h4 h5,
    fun base e size v' n xs h hne => own_set_t (own_set_t (own_set_t (own_set_t (own_set_t h hk hne) k1 hne) k2 hne) k3 hne) k4 hne,
    fun g t' cs hne h => ((((h.set_other hne).set_other hne).set_other hne).set_other hne).set_other hne⟩
/-- .. and that they may be stored -/
theorem five_frozen {w : World} {b : Nat} {t : TypeId} {x y z u v : Value} (h : Blk w b t #[x, y, z, u, v]) :
    w.frozen? ⟨b, 0, none⟩ = false ∧ w.frozen? ⟨b, 1, none⟩ = false ∧ w.frozen? ⟨b, 2, none⟩ = false ∧ w.frozen? ⟨b, 3, none⟩ = false ∧ w.frozen? ⟨b, 4, none⟩ = false :=
  ⟨h.frozen 0, h.frozen 1, h.frozen 2, h.frozen 3, h.frozen 4⟩
/-- a block of seven cells: what a walk reads of it -/
theorem seven {w : World} {b : Nat} {t : TypeId} {x0 x1 x2 x3 x4 x5 x6 : Value} (h : Blk w b t #[x0, x1, x2, x3, x4, x5, x6]) :
    w.cell? ⟨b, 0, none⟩ = some x0 ∧ w.cell? ⟨b, 1, none⟩ = some x1 ∧ w.cell? ⟨b, 2, none⟩ = some x2 ∧ w.cell? ⟨b, 3, none⟩ = some x3 ∧ w.cell? ⟨b, 4, none⟩ = some x4 ∧ w.cell? ⟨b, 5, none⟩ = some x5 ∧ w.cell? ⟨b, 6, none⟩ = some x6 :=
  ⟨h.cell 0, h.cell 1, h.cell 2, h.cell 3, h.cell 4, h.cell 5, h.cell 6⟩
/-- a machine, or none -/
def GotMB (W w : World) (r : Option Mc) (en : Ending) (w' : World) : Prop :=
  ∃ a, en = .returned (.tuple #[machV a (r.getD Mc.zero), .bool r.isSome]) ∧ OwnM W w' a (r.getD Mc.zero) ∧ Below W.heap.size W w' ∧ Below w.heap.size w w'
theorem GotMB.of {W w w' : World} {r : Option Mc} {en : Ending} (hB : Below W.heap.size W w) (h : GotMB w w r en w') : GotMB W w r en w' := by
  obtain ⟨a, h1, h2, h3, h4⟩ := h
  exact ⟨a, h1, h2.of hB.size, hB.trans (h3.mono hB.size), h4⟩
end Go.Proofs.Ytmekamgohonffaa

namespace Go.Proofs.Ytmekamgohonffaa
open Go.RowKit
set_option linter.unusedVariables false
/-- the row that grows was there when W's call began -/
def Old (W : World) (row : Option Nat) : Prop := ∀ k, row = some k → k < W.heap.size
section
variable {W w w' : World} {row : Option Nat}
theorem Old.some {b : Nat} (h : b < W.heap.size) : Old W (some b) := fun k hk => by injection hk with hk; omega
theorem own_old {e : TypeId} {size n : Nat} {v : Value} {xs : List Value} (h : w.ownsRow W.heap.size e size v n xs) (hg : w.grownBy w' row) (ho : Old W row) : w'.ownsRow W.heap.size e size v n xs := by
  refine h.kept hg ?_
  rcases he : v.ownBlock with _ | k
  · exact .inl rfl
  · right
    intro h2
    have h3 := ho k h2.symm
    have := (h.lt k he).1
    omega
theorem Owns.old {vs : List Value} {qs : List (List Nat)} (h : Owns W w vs qs) (hg : w.grownBy w' row) (ho : Old W row) : Owns W w' vs qs :=
  ⟨h.len, fun i l hl => by obtain ⟨A, c, e, hq⟩ := h.cell i l hl; exact ⟨A, c, e, own_old hq hg ho⟩⟩
theorem OwnQ.old {A : Option Addr} {n c : Nat} {qs : List (List Nat)} (h : OwnQ W w A n c qs) (hg : w.grownBy w' row) (ho : Old W row) : OwnQ W w' A n c qs := by
  obtain ⟨vs, h1, h2⟩ := h; exact ⟨vs, own_old h1 hg ho, h2.old hg ho⟩
theorem OwnP.old {A : Option Addr} {n c : Nat} {ps : List Pr} (h : OwnP W w A n c ps) (hg : w.grownBy w' row) (ho : Old W row) : OwnP W w' A n c ps := by
  obtain ⟨vs, h1, h2⟩ := h; exact ⟨vs, own_old h1 hg ho, h2.old hg ho⟩
theorem OwnsL.old {vs : List Value} {ls : List Ls} (h : OwnsL W w vs ls) (hg : w.grownBy w' row) (ho : Old W row) : OwnsL W w' vs ls := h.imp fun _ _ _ h => own_old h hg ho
theorem OwnL.old {A : Option Addr} {n c : Nat} {ls : List Ls} (h : OwnL W w A n c ls) (hg : w.grownBy w' row) (ho : Old W row) : OwnL W w' A n c ls := by
  obtain ⟨vs, h1, h2⟩ := h; exact ⟨vs, own_old h1 hg ho, OwnsL.old h2 hg ho⟩
theorem OwnO.old {a : OA} {s : Ob} (h : OwnO W w a s) (hg : w.grownBy w' row) (ho : Old W row) : OwnO W w' a s := ⟨own_old h.o0 hg ho, h.o1.old hg ho, own_old h.o2 hg ho, h.o3.old hg ho⟩
theorem OwnM.old {a : MA} {m : Mc} (h : OwnM W w a m) (hg : w.grownBy w' row) (ho : Old W row) : OwnM W w' a m := ⟨h.o.old hg ho, h.t.old hg ho⟩
end
theorem cellB : CellT Try.prog 22 5 (.int .u8 0) 1 := ⟨Try.underlying22, by kernel_rfl, rfl⟩
theorem bv_one (l : List Nat) : ∀ u ∈ bv l, u.oneCell' = true := by
  intro u hu
  unfold bv at hu
  obtain ⟨x, _, rfl⟩ := List.mem_map.1 hu
  rfl
theorem bv_app (l m : List Nat) : bv (l ++ m) = bv l ++ bv m := by simp [bv]
end Go.Proofs.Ytmekamgohonffaa

