/- MachKit -/
import Derived.Test.YtaknfmionkkdjaaGreatFO19
namespace Go.Proofs.YtaknfmionkkdjaaGreat
open Go.RowKit
set_option linter.unusedVariables false
/-- where a machine lies -/
structure MA where
  o : OA
  At : Option Addr
  ct : Nat
def machC (a : MA) (m : Mc) : Array Value := #[.slice a.o.A0 m.o.reg.length a.o.c0, .slice a.o.A1 m.o.q.length a.o.c1, .slice a.o.A2 m.o.lk.length a.o.c2, .slice a.o.A3 m.o.mp.length a.o.c3, .slice a.At m.t.length a.ct]
def entC (a : CA) (e : En) : Array Value := #[.int .i64 e.s, .int .i64 e.q, .int .i64 e.c.kind, .int .i64 e.c.who, .slice a.Ak e.c.key.length a.ck, .slice a.Av e.c.val.length a.cv, .slice a.Ao e.c.old.length a.co]
def machV (a : MA) (m : Mc) : Value := .agg (machC a m)
def entV (a : CA) (e : En) : Value := .agg (entC a e)
/-- a machine that reads -/
structure RdM (w : World) (B : Nat) (a : MA) (m : Mc) : Prop where
  o : RdO w B a.o m.o
  t : RdL w B a.At m.t.length m.t
  lt : m.t.length ≤ a.ct
/-- a machine of the call's own -/
structure OwnM (W w : World) (a : MA) (m : Mc) : Prop where
  o : OwnO W w a.o m.o
  t : OwnL W w a.At m.t.length a.ct m.t
section
variable {W w w' : World} {B : Nat} {a : MA} {m : Mc}
theorem RdM.below (h : RdM w B a m) (hb : Below B w w') : RdM w' B a m := ⟨h.o.below hb, h.t.below hb, h.lt⟩
theorem RdM.fit (h : RdM w B a m) : RdM w w.heap.size a m := ⟨h.o.fit, h.t.fit, h.lt⟩
theorem RdM.below' (h : RdM w w.heap.size a m) (hb : Below w.heap.size w w') : RdM w' w'.heap.size a m := (h.below hb).fit
theorem OwnM.rd (h : OwnM W w a m) : RdM w w.heap.size a m := ⟨h.o.rd, h.t.rd, h.t.cap⟩
theorem OwnM.below (h : OwnM W w a m) (hb : Below w.heap.size w w') : OwnM W w' a m := ⟨h.o.below hb, h.t.below hb⟩
theorem OwnM.of {W w w' : World} (hs : W.heap.size ≤ w.heap.size) (h : OwnM w w' a m) : OwnM W w' a m := ⟨h.o.of hs, h.t.of hs⟩
theorem RdM.zero (w : World) (B : Nat) : RdM w B ⟨⟨none, 0, none, 0, none, 0, none, 0⟩, none, 0⟩ Mc.zero := ⟨RdO.nil _ _, RdL.nil _ _ _, Nat.le_refl _⟩
theorem OwnO.nil (W w : World) : OwnO W w ⟨none, 0, none, 0, none, 0, none, 0⟩ ⟨[], [], [], []⟩ := ⟨own_nil _ _, OwnQ.nil _ _, ownI_nil _ _, OwnP.nil _ _⟩
theorem OwnM.zero (W w : World) : OwnM W w ⟨⟨none, 0, none, 0, none, 0, none, 0⟩, none, 0⟩ Mc.zero := ⟨OwnO.nil _ _, OwnL.nil _ _⟩
theorem OwnM.set_t {b i : Nat} {t : TypeId} {u : Value} {cs : Array Value} (h : OwnM W w a m) (hb : Blk w b t cs) (h1 : 5 ≠ t) (h2 : 26 ≠ t) (h3 : 3 ≠ t) (h4 : 55 ≠ t) (h5 : 57 ≠ t) : OwnM W (w.setCell ⟨b, i, none⟩ u) a m :=
  ⟨h.o.set_t hb h1 h2 h3 h4, h.t.set_t hb h1 h5⟩
end
/-- five stores into a block of five cells: what they leave -/
theorem put5 {w : World} {b : Nat} {t : TypeId} {x0 y0 z0 u0 v0 : Value} (hk : Blk w b t #[x0, y0, z0, u0, v0]) (x y z u v : Value) :
    Blk (((((w.setCell ⟨b, 0, none⟩ x).setCell ⟨b, 1, none⟩ y).setCell ⟨b, 2, none⟩ z).setCell ⟨b, 3, none⟩ u).setCell ⟨b, 4, none⟩ v) b t #[x, y, z, u, v] ∧
    (∀ W, W.heap.size ≤ b → Below W.heap.size W w → Below W.heap.size W (((((w.setCell ⟨b, 0, none⟩ x).setCell ⟨b, 1, none⟩ y).setCell ⟨b, 2, none⟩ z).setCell ⟨b, 3, none⟩ u).setCell ⟨b, 4, none⟩ v)) ∧
    (∀ W a m, OwnM W w a m → 5 ≠ t → 26 ≠ t → 3 ≠ t → 55 ≠ t → 57 ≠ t → OwnM W (((((w.setCell ⟨b, 0, none⟩ x).setCell ⟨b, 1, none⟩ y).setCell ⟨b, 2, none⟩ z).setCell ⟨b, 3, none⟩ u).setCell ⟨b, 4, none⟩ v) a m) ∧
    (∀ base e size v' n xs, w.ownsRow base e size v' n xs → e ≠ t → (((((w.setCell ⟨b, 0, none⟩ x).setCell ⟨b, 1, none⟩ y).setCell ⟨b, 2, none⟩ z).setCell ⟨b, 3, none⟩ u).setCell ⟨b, 4, none⟩ v).ownsRow base e size v' n xs) ∧
    ∀ g t' cs, g ≠ b → Blk w g t' cs → Blk (((((w.setCell ⟨b, 0, none⟩ x).setCell ⟨b, 1, none⟩ y).setCell ⟨b, 2, none⟩ z).setCell ⟨b, 3, none⟩ u).setCell ⟨b, 4, none⟩ v) g t' cs := by
  have k1 := hk.set_ 0 x
  have k2 := k1.set_ 1 y
  have k3 := k2.set_ 2 z
  have k4 := k3.set_ 3 u
  have k5 := k4.set_ 4 v
  refine ⟨k5, fun W h1 h2 => ((((h2.setCell h1 _).setCell h1 _).setCell h1 _).setCell h1 _).setCell h1 _, fun W a m h h1 h2 h3 h4 h5 => ((((h.set_t hk h1 h2 h3 h4 h5).set_t k1 h1 h2 h3 h4 h5).set_t k2 h1 h2 h3 h4 h5).set_t k3 h1 h2 h3 h4 h5).set_t k4 h1 h2 h3 h4 h5,
    fun base e size v' n xs h hne => own_set_t (own_set_t (own_set_t (own_set_t (own_set_t h hk hne) k1 hne) k2 hne) k3 hne) k4 hne,
    fun g t' cs hne h => ((((h.set_other hne).set_other hne).set_other hne).set_other hne).set_other hne⟩
/-- .. and that they may be stored -/
theorem five_frozen {w : World} {b : Nat} {t : TypeId} {x y z u v : Value} (h : Blk w b t #[x, y, z, u, v]) :
    w.frozen? ⟨b, 0, none⟩ = false ∧ w.frozen? ⟨b, 1, none⟩ = false ∧ w.frozen? ⟨b, 2, none⟩ = false ∧ w.frozen? ⟨b, 3, none⟩ = false ∧ w.frozen? ⟨b, 4, none⟩ = false :=
  ⟨h.frozen 0, h.frozen 1, h.frozen 2, h.frozen 3, h.frozen 4⟩
/-- a block of seven cells: what a walk reads of it -/
theorem seven {w : World} {b : Nat} {t : TypeId} {x0 x1 x2 x3 x4 x5 x6 : Value} (h : Blk w b t #[x0, x1, x2, x3, x4, x5, x6]) :
    w.cell? ⟨b, 0, none⟩ = some x0 ∧ w.cell? ⟨b, 1, none⟩ = some x1 ∧ w.cell? ⟨b, 2, none⟩ = some x2 ∧ w.cell? ⟨b, 3, none⟩ = some x3 ∧ w.cell? ⟨b, 4, none⟩ = some x4 ∧ w.cell? ⟨b, 5, none⟩ = some x5 ∧ w.cell? ⟨b, 6, none⟩ = some x6 :=
  ⟨h.cell 0, h.cell 1, h.cell 2, h.cell 3, h.cell 4, h.cell 5, h.cell 6⟩
/-- a machine and a result, both W's own -/
def GotM (W w : World) (r : MAns) (en : Ending) (w' : World) : Prop :=
  ∃ a A c, en = .returned (.tuple #[machV a r.m, resV r.e A r.v.length c r.n]) ∧ OwnM W w' a r.m ∧ OwnB W w' A r.v.length c r.v ∧ Below W.heap.size W w' ∧ Below w.heap.size w w'
theorem GotM.of {W w w' : World} {r : MAns} {en : Ending} (hB : Below W.heap.size W w) (h : GotM w w r en w') : GotM W w r en w' := by
  obtain ⟨a, A, c, h1, h2, h3, h4, h5⟩ := h
  exact ⟨a, A, c, h1, h2.of hB.size, more_ hB.size h3, hB.trans (h4.mono hB.size), h5⟩
theorem Mc.Ok.lim {m : Mc} (h : m.Ok) : LimLs m.t := h.t.lim
theorem Mc.Ok.step {m : Mc} {e : En} (h : m.Ok) (hc : e.c.Fits) : (m.step e).m.Ok := by
  unfold Mc.step
  by_cases hk : (Tb.look m.t e.s e.q).k = 0
  · rw [if_pos hk]
    have hf := Ob.apply_fits (c := e.c) h.o h.lk
    have hn : Tb.named e.s e.q := by
      unfold Tb.look at hk
      split at hk
      · assumption
      · simp at hk
    have hl : m.t.length < 8 ∨ (Tb.here m.t e.s).isSome = true := by
      unfold Tb.look at hk
      rw [if_pos hn] at hk
      cases hh : Tb.here m.t e.s with
      | some l => right; rfl
      | none =>
        left
        rw [hh] at hk
        simp only [] at hk
        split at hk
        · simp at hk
        · omega
    refine ⟨h.o.apply hc, hf.lk, Tb.Ok.put (l := ⟨e.s, e.q, _, _, _⟩) h.t (by have := h.t8; omega) hn hf.v (Ob.apply_vb h.o), ?_, ?_⟩
    · show (Tb.put m.t ⟨e.s, e.q, _, _, _⟩).length ≤ 8
      rw [Tb.length_put h.t.rises]
      have := h.t8
      split
      · exact this
      · rename_i h2
        rcases hl with h3 | h3
        · omega
        · exact absurd h3 h2
    · intro l hl
      rcases Tb.mem_put hl with rfl | hl
      · have := hf.e; have := hf.n
        simp only []
        omega
      · exact h.te l hl
  · rw [if_neg hk]; exact h
/-- what a step answers -/
theorem Mc.step_v {m : Mc} {e : En} (h : m.Ok) : ((m.step e).v.length ≤ 16) ∧ ∀ x ∈ (m.step e).v, x < 256 := by
  unfold Mc.step
  by_cases hk : (Tb.look m.t e.s e.q).k = 0
  · rw [if_pos hk]
    exact ⟨(Ob.apply_fits (c := e.c) h.o h.lk).v, Ob.apply_vb h.o⟩
  · rw [if_neg hk]
    refine ⟨?_, Tb.look_vb h.t _ _⟩
    show (Tb.look m.t e.s e.q).v.length ≤ 16
    unfold Tb.look
    split
    · split
      · rename_i l hl
        split
        · simp
        · split
          · exact (h.t.each l (List.mem_of_find?_eq_some hl)).2.1
          · simp
      · split <;> simp
    · simp
theorem apply_zero (s : Ob) : s.apply ⟨0, 0, [], [], []⟩ = ⟨s, 7, [], 0⟩ := by unfold Ob.apply; simp
theorem Cm.Fits.zero : Cm.Fits ⟨0, 0, [], [], []⟩ := ⟨⟨by simp, by simp⟩, ⟨by simp, by simp⟩, ⟨by simp, by simp⟩⟩
theorem RdC.zero (w : World) (B : Nat) : RdC w B ⟨none, 0, none, 0, none, 0⟩ ⟨0, 0, [], [], []⟩ := ⟨Rd.none_ _ _ _, Rd.none_ _ _ _, Rd.none_ _ _ _⟩
end Go.Proofs.YtaknfmionkkdjaaGreat

