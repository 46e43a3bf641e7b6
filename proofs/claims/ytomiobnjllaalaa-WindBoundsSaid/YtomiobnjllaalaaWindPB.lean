/- A window is made, and things are put into it, for one type of things. -/
import Derived.Test.YtomiobnjllaalaaWindTB
import Derived.RegionTactic
import Derived.Deep.RegionHeld3
import Derived.Deep.DrawnRows
import Derived.Deep.DeepCutAuto
import Derived.Deep.CutBlock
namespace Go.Proofs.Ytomiobnjllaalaa.WB
open Go.RowKit
set_option linter.unusedVariables false
/-- is this a block of a window, or of its slots? -/
def isWin : Obj → Bool
  | .cells _ t _ => t == 78 || t == 82
  | _ => false
/-- no block has turned but those of windows, from base on -/
structure Turns (base : Nat) (w w' : World) : Prop where
  os : w'.os = w.os
  tape : w'.tape = w.tape
  output : w'.output = w.output
  size : w.heap.size ≤ w'.heap.size
  block : ∀ k o, w.heap[k]? = some o → (k < base ∨ isWin o = false) → w'.heap[k]? = some o
section
variable {base : Nat} {w w' w'' : World}
theorem Turns.refl (base : Nat) (w : World) : Turns base w w := ⟨rfl, rfl, rfl, Nat.le_refl _, fun _ _ h _ => h⟩
theorem Turns.trans (h : Turns base w w') (k : Turns base w' w'') : Turns base w w'' :=
  ⟨k.os.trans h.os, k.tape.trans h.tape, k.output.trans h.output, Nat.le_trans h.size k.size, fun i o ho hi => k.block i o (h.block i o ho hi) hi⟩
theorem Turns.of_below (h : Below w.heap.size w w') : Turns base w w' :=
  ⟨h.os, h.tape, h.output, h.size, fun k o ho _ => (h.block k (Array.getElem?_eq_some_iff.1 ho).1).trans ho⟩
theorem Turns.of_grown {g : Nat} {t : TypeId} {cs : Array Value} (h : w.grownBy w' (some g)) (hb : Blk w g t cs) (ht : t = 78 ∨ t = 82) (hg : base ≤ g) : Turns base w w' :=
  ⟨h.os, h.tape, h.output, h.size, fun k o ho hk => by
    refine (h.block k (Array.getElem?_eq_some_iff.1 ho).1 ?_).trans ho
    intro e
    injection e with e
    subst e
    rcases hk with hk | hk
    · omega
    · unfold Blk at hb
      rw [hb] at ho
      injection ho with ho
      subst ho
      rcases ht with rfl | rfl <;> simp [isWin] at hk⟩
theorem Turns.set {g i : Nat} {t : TypeId} {cs : Array Value} (u : Value) (hb : Blk w g t cs) (ht : t = 78 ∨ t = 82) (hg : base ≤ g) : Turns base w (w.setCell ⟨g, i, none⟩ u) :=
  Turns.of_grown (g := g) ⟨rfl, rfl, rfl, by simp [World.setCell], fun k hk hn => Below.heap_setCell w ⟨g, i, none⟩ u k (by rintro rfl; exact hn rfl)⟩ hb ht hg
theorem Turns.below (h : Turns base w w') (hb : base ≤ w.heap.size) : Below base w w' :=
  ⟨h.os, h.tape, h.output, h.size, fun k hk => by
    have hlt : k < w.heap.size := by omega
    rw [Array.getElem?_eq_getElem hlt]
    exact h.block k _ (Array.getElem?_eq_getElem hlt) (.inl hk)⟩
theorem Turns.blk (h : Turns base w w') {g : Nat} {t : TypeId} {cs : Array Value} (hb : Blk w g t cs) (h1 : t ≠ 78) (h2 : t ≠ 82) : Blk w' g t cs :=
  h.block g _ hb (.inr (by simp [isWin, h1, h2]))
theorem Turns.off (h : Turns base w w') {B : Nat} {e : TypeId} {size n c : Nat} {A : Option Addr} {xs : List Value} (hr : OffRow w B e size A n c xs) (h1 : e ≠ 78) (h2 : e ≠ 82) : OffRow w' B e size A n c xs :=
  ⟨hr.len, hr.le, hr.max, hr.blk.imp id fun ⟨g, o, cur, e1, e2, e3, e4⟩ => ⟨g, o, cur, e1, e2, h.blk e3 h1 h2, e4⟩⟩
theorem Turns.rdT (h : Turns base w w') {e : TypeId} {n : Nat} {A : Option Addr} {vs : List Value} (hr : RdT w e A n vs) (h1 : e ≠ 78) (h2 : e ≠ 82) : RdT w' e A n vs :=
  ⟨hr.1, fun hn => by obtain ⟨g, o, cur, e1, hk, hc⟩ := hr.2 hn; exact ⟨g, o, cur, e1, h.blk hk h1 h2, hc⟩⟩
end
theorem run_max0 {P : Program} (w : World) (ts : Array TypeId) (t : TypeId) (n : Int) :
    (Builtin.max_ ts t #[.int .i64 n, .int .i64 0]).run P w = .ok (.int .i64 (max n 0)) w := by
  have e : max n 0 = if (n : Int) < 0 then 0 else n := by omega
  rw [e]
  simp [Builtin.max_, Builtin.max2]
/-- the number that a window begins behind -/
def Wd.held (n : Int) : Nat := (min (max n 0) 1099511627776).toNat
theorem run_min40 {P : Program} (w : World) (ts : Array TypeId) (t : TypeId) (n : Int) :
    (Builtin.min_ ts t #[.int .i64 (max n 0), .int .i64 1099511627776]).run P w = .ok (.int .i64 (Wd.held n : Nat)) w := by
  have e : ((Wd.held n : Nat) : Int) = if (1099511627776 : Int) < max n 0 then 1099511627776 else max n 0 := by unfold Wd.held; omega
  rw [e]
  simp [Builtin.min_, Builtin.min2]
theorem new_any (w : World) (n : Int) :
    Calls Try.prog 21 #[.int .i64 n] w fun e w' => ∃ b, e = .returned (.pointer (some ⟨b, 0, none⟩)) ∧ WinR w' w.heap.size b (Wd.held n) (Wd.held n) [] ∧ Below w.heap.size w w' := by
  have h1 := fun (w : World) ts t => run_max0 (P := Try.prog) w ts t n
  have h2 := fun (w : World) ts t => run_min40 (P := Try.prog) w ts t n
  go_enter Try.func21, Try.ntmps21
  go_wp2
  go_ret
  exact ⟨_, rfl, ⟨none, 0, 0, Blk.new _ _ _, OffRow.nil _ _ _ _, Nat.le_refl _, by unfold Fit Wd.held; omega⟩, (Below.refl _ _).alloc (Nat.le_refl _) _⟩
end Go.Proofs.Ytomiobnjllaalaa.WB
