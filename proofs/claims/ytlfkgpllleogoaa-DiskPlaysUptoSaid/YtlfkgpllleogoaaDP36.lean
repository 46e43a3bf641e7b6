/- DiskVar -/
import Derived.Test.YtlfkgpllleogoaaDP23
import Derived.Test.YtlfkgpllleogoaaDP27
import Derived.Test.YtlfkgpllleogoaaDP35
import Derived.Deep.RegionWith
import Derived.OwnWalk
import Derived.WalkLawsBesides
import Derived.WalkSpells
namespace Go.Proofs.Ytlfkgpllleogoaa
open Go.RowKit
set_option linter.unusedVariables false
theorem boxed (w : World) (Z R : Array Value) (T : TypeId) : ∃ g w2, w.heap.size = g ∧ (w.alloc (.cells Z T)).setRow g R = w2 ∧ Below w.heap.size w w2 ∧ Blk w2 g T R :=
  ⟨_, _, rfl, rfl, below_setRow ((Below.refl _ _).alloc (Nat.le_refl _) _) (Nat.le_refl _) _, (Blk.new _ _ _).row _⟩
/-- a disk's two rows are W's own -/
structure OwnD (W w : World) (A A' : Option Addr) (c c' : Nat) (x y : List Nat) : Prop where
  a : OwnB W w A x.length c x
  b : OwnB W w A' y.length c' y
  fa : Dk.Fine x
  fb : Dk.Fine y
theorem OwnD.below {W w w' : World} {A A' : Option Addr} {c c' : Nat} {x y : List Nat} (h : OwnD W w A A' c c' x y) (hb : Below w.heap.size w w') : OwnD W w' A A' c c' x y := ⟨own_below h.a hb, own_below h.b hb, h.fa, h.fb⟩
theorem OwnD.zero (W w : World) : OwnD W w none none 0 0 [] [] := ⟨own_nil _ _, own_nil _ _, ⟨fun x hx => (by cases hx), by simp⟩, ⟨fun x hx => (by cases hx), by simp⟩⟩
theorem OwnD.row {W w : World} {A A' : Option Addr} {c c' b : Nat} {x y : List Nat} {t : TypeId} {old cs : Array Value} (h : OwnD W w A A' c c' x y) (hb : Blk w b t old) (hne : 5 ≠ t) : OwnD W (w.setRow b cs) A A' c c' x y := ⟨own_row_t h.a hb hne, own_row_t h.b hb hne, h.fa, h.fb⟩
/-- a call answered a disk of its own -/
def GotDD (W w : World) (x y : List Nat) (e : Ending) (w' : World) : Prop := ∃ A c A' c', e = .returned (.agg #[.slice A x.length c, .slice A' y.length c']) ∧ OwnD W w' A A' c c' x y ∧ Below W.heap.size W w' ∧ Below w.heap.size w w'
theorem OwnD.read {W W' w : World} {A A' : Option Addr} {c c' : Nat} {x y : List Nat} {r : Option Dk.Rc} (h : OwnD W' w A A' c c' x y) (hB : Below W.heap.size W w) (he : Dk.read x y = r) :
    Calls Try.prog 27 #[.agg #[.slice A x.length c, .slice A' y.length c']] w (GotRc W w r) :=
  dread he h.fa h.fb (own_cap h.a).1 (own_cap h.b).1 (Rd.own_ h.a) (Rd.own_ h.b) hB
theorem OwnD.write {W W' w : World} {A A' : Option Addr} {c c' : Nat} {x y x' y' : List Nat} {i p q cut : Int} (h : OwnD W' w A A' c c' x y) (hB : Below W.heap.size W w) (he : Dk.write x y i p q cut = (x', y')) :
    Calls Try.prog 26 #[.agg #[.slice A x.length c, .slice A' y.length c'], .agg #[.int .i64 i, .int .i64 p, .int .i64 q], .int .i64 cut] w (GotDD W w x' y') := by
  refine (dwrite he h.fa h.fb (own_cap h.a).1 (own_cap h.b).1 (Rd.own_ h.a) (Rd.own_ h.b) hB).mono ?_
  rintro e w' ⟨A, c, A', c', h1, h2, h3, h4, h5⟩
  have hf := Dk.write_fine h.fa h.fb i p q cut
  rw [he] at hf
  exact ⟨A, c, A', c', h1, ⟨h2, h3, hf.1, hf.2⟩, h4, h5⟩
theorem Dk.awake_math : ∃ S1 S2 S3 R, Dk.write [] [] 1 0 0 (-1) = (S1, []) ∧ Dk.write S1 [] 2 8 0 (-1) = (S1, S2) ∧ Dk.write S1 S2 3 0 0 5 = (S3, S2) ∧ Dk.read S1 S2 = some R ∧ Dk.read S3 S2 = some R ∧ Dk.read [] [] = none ∧ recC (some R) = #[.int .i64 2, .int .i64 8, .int .i64 0] ∧ S3.length = 5 ∧ 0 < S1.length := by
  have i0 := Dk.Inv.start Dk.Rc.zero
  obtain ⟨w1, i1⟩ := i0.whole (by decide) 1 0 0 (cut := -1) (.inl (by decide))
  rw [if_neg (by decide)] at w1
  rw [w1] at i1
  obtain ⟨w2, i2⟩ := i1.whole (by decide) 2 8 0 (cut := -1) (.inl (by decide))
  rw [if_pos (by decide)] at w2
  rw [w2] at i2
  have hl := (Dk.slotR_len (Dk.Inv.nx (0 + 1 + 1) 3 0 0)).1
  obtain ⟨w3, r3⟩ := i2.cut (by decide) 3 0 0 (cut := 5) (by omega)
  rw [if_neg (by decide)] at w3
  rw [w3] at r3
  have r2 := i2.read
  rw [if_neg (by decide)] at r2
  rw [r2] at r3
  refine ⟨_, _, _, _, w1, w2, w3, r2, r3, rfl, rfl, ?_, ?_⟩
  · rw [List.length_take]; omega
  · have := (Dk.slotR_len (Dk.Inv.nx 0 1 0 0)).1; omega
end Go.Proofs.Ytlfkgpllleogoaa

