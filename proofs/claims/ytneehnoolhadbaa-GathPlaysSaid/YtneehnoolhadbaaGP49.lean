/- MachEntry -/
import Derived.Test.YtneehnoolhadbaaGP05
import Derived.Test.YtneehnoolhadbaaGP18
import Derived.Test.YtneehnoolhadbaaGP46
namespace Go.Proofs.Ytneehnoolhadbaa
open Go.RowKit
set_option linter.unusedVariables false
/-- cells none of which is a byte -/
def NoByte (cs : Array Value) : Prop := ∀ (j x : Nat), cs[j]? ≠ some (.int .u8 (x : Int))
theorem NoByte.set {cs : Array Value} (h : NoByte cs) (i : Nat) {u : Value} (hu : ∀ x : Nat, u ≠ .int .u8 (x : Int)) : NoByte (cs.setIfInBounds i u) := by
  intro j x
  rw [Array.getElem?_setIfInBounds]
  split
  · split
    · intro h2; injection h2 with h2; exact hu x h2
    · simp
  · exact h j x
/-- a row of bytes lies not in a block without bytes -/
theorem Rd.setK {w : World} {B : Nat} {A : Option Addr} {n b i : Nat} {u : Value} {t : TypeId} {cs : Array Value} {l : List Nat} (h : Rd w B A n (bv l)) (hb : Blk w b t cs) (hk : NoByte cs) : Rd (w.setCell ⟨b, i, none⟩ u) (w.setCell ⟨b, i, none⟩ u).heap.size A n (bv l) := by
  rcases Nat.eq_zero_or_pos n with rfl | hn
  · exact ⟨h.1, fun h0 => absurd h0 (by omega)⟩
  · obtain ⟨g, o, rfl, hg, hc⟩ := h.2 hn
    refine h.set_ne ?_
    rintro rfl
    have h0 := hc 0 hn
    rw [hb.cell] at h0
    have hl : 0 < l.length := by have := h.1; rw [bv_length] at this; omega
    have h1 : (bv l)[0]? = some (.int .u8 (l[0] : Nat)) := by unfold bv; simp [List.getElem?_eq_getElem hl]
    rw [h1] at h0
    exact hk _ _ h0
theorem RdC.setK {w : World} {B b i : Nat} {u : Value} {t : TypeId} {cs : Array Value} {a : CA} {c : Cm} (h : RdC w B a c) (hb : Blk w b t cs) (hk : NoByte cs) : RdC (w.setCell ⟨b, i, none⟩ u) (w.setCell ⟨b, i, none⟩ u).heap.size a c :=
  ⟨h.rk.setK hb hk, h.rv.setK hb hk, h.ro.setK hb hk⟩
theorem noInt (z : Int) : ∀ x : Nat, Value.int .i64 z ≠ .int .u8 (x : Int) := fun x h => by cases h
theorem noSlice (A : Option Addr) (n c : Nat) : ∀ x : Nat, Value.slice A n c ≠ .int .u8 (x : Int) := fun x h => by cases h
theorem noByte_ent (s q k w : Int) (A A' A'' : Option Addr) (n c n' c' n'' c'' : Nat) : NoByte #[.int .i64 s, .int .i64 q, .int .i64 k, .int .i64 w, .slice A n c, .slice A' n' c', .slice A'' n'' c''] := by
  intro j x h
  match j with
  | 0 => simp at h
  | 1 => simp at h
  | 2 => simp at h
  | 3 => simp at h
  | 4 => simp at h
  | 5 => simp at h
  | 6 => simp at h
  | j + 7 => simp at h
set_option maxHeartbeats 1000000 in
/-- an entry's variable is written whole -/
theorem put7 {w : World} {b : Nat} {x0 x1 x2 x3 : Int} {A A' A'' : Option Addr} {n c n' c' n'' c'' : Nat} (hk : Blk w b 29 #[.int .i64 x0, .int .i64 x1, .int .i64 x2, .int .i64 x3, .slice A n c, .slice A' n' c', .slice A'' n'' c'']) (a : CA) (e : En) {B : Nat} (hr : RdC w B a e.c) :
    let wy := (((((((w.setCell ⟨b, 0, none⟩ (.int .i64 e.s)).setCell ⟨b, 1, none⟩ (.int .i64 e.q)).setCell ⟨b, 2, none⟩ (.int .i64 e.c.kind)).setCell ⟨b, 3, none⟩ (.int .i64 e.c.who)).setCell ⟨b, 4, none⟩ (.slice a.Ak e.c.key.length a.ck)).setCell ⟨b, 5, none⟩ (.slice a.Av e.c.val.length a.cv)).setCell ⟨b, 6, none⟩ (.slice a.Ao e.c.old.length a.co))
    Blk wy b 29 (entC a e) ∧ RdC wy wy.heap.size a e.c ∧ ∀ W, W.heap.size ≤ b → Below W.heap.size W w → Below W.heap.size W wy := by
  intro wy
  have k0 := noByte_ent x0 x1 x2 x3 A A' A'' n c n' c' n'' c''
  have b1 := hk.set_ 0 (.int .i64 e.s); have k1 := k0.set 0 (noInt e.s)
  have b2 := b1.set_ 1 (.int .i64 e.q); have k2 := k1.set 1 (noInt e.q)
  have b3 := b2.set_ 2 (.int .i64 e.c.kind); have k3 := k2.set 2 (noInt e.c.kind)
  have b4 := b3.set_ 3 (.int .i64 e.c.who); have k4 := k3.set 3 (noInt e.c.who)
  have b5 := b4.set_ 4 (.slice a.Ak e.c.key.length a.ck); have k5 := k4.set 4 (noSlice a.Ak e.c.key.length a.ck)
  have b6 := b5.set_ 5 (.slice a.Av e.c.val.length a.cv); have k6 := k5.set 5 (noSlice a.Av e.c.val.length a.cv)
  have b7 := b6.set_ 6 (.slice a.Ao e.c.old.length a.co)
  have r1 := hr.setK (i := 0) (u := .int .i64 e.s) hk k0
  have r2 := r1.setK (i := 1) (u := .int .i64 e.q) b1 k1
  have r3 := r2.setK (i := 2) (u := .int .i64 e.c.kind) b2 k2
  have r4 := r3.setK (i := 3) (u := .int .i64 e.c.who) b3 k3
  have r5 := r4.setK (i := 4) (u := .slice a.Ak e.c.key.length a.ck) b4 k4
  have r6 := r5.setK (i := 5) (u := .slice a.Av e.c.val.length a.cv) b5 k5
  have r7 := r6.setK (i := 6) (u := .slice a.Ao e.c.old.length a.co) b6 k6
  exact ⟨b7, r7, fun W h1 h2 => ((((((h2.setCell h1 _).setCell h1 _).setCell h1 _).setCell h1 _).setCell h1 _).setCell h1 _).setCell h1 _⟩
end Go.Proofs.Ytneehnoolhadbaa

