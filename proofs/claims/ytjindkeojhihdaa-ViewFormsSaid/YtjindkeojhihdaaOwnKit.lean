/- A call's own rows of bytes, over any program that has bytes and strings. -/
import Derived.Test.YtjindkeojhihdaaMem2
import Derived.Test.YtjindkeojhihdaaRows
import Derived.WalkKit
import Derived.ProofKit
import Derived.Below
import Derived.Outline
import Derived.Laws.BitsAllLaws
import Derived.IntWalk
import Derived.OwnWalk
import Derived.WalkSpells
import Derived.WalkLawsBesides
import Derived.Deep.RegionWith
namespace Go.Proofs.Ytjindkeojhihdaa
open Go.RowKit
set_option linter.unusedVariables false

theorem byteT : ByteT Try.prog 22 5 := ⟨Try.underlying22, by kernel_rfl⟩
/-- a length that may be, and n more -/
def Lim (k n : Nat) : Prop := n + k ≤ 1099511627776
theorem Lim.out {k n : Nat} (h : Lim k n) : n + k ≤ 1099511627776 := h
/-- the call that began in W made a row that is the bytes l -/
abbrev OwnB (W w : World) (A : Option Addr) (n c : Nat) (l : List Nat) : Prop := w.ownsRow W.heap.size 5 1 (.slice A n c) n (bv l)
/-- a call that began in W answered the bytes l, in memory of its own, and turned nothing that was there -/
def GotB (W : World) (l : List Nat) (e : Ending) (w' : World) : Prop := ∃ A n c, e = .returned (.slice A n c) ∧ OwnB W w' A n c l ∧ Below W.heap.size W w'
theorem own_len {W w : World} {A : Option Addr} {n c : Nat} {l : List Nat} (h : OwnB W w A n c l) : l.length = n := by
  have := h.1; rw [bv_length] at this; omega
theorem own_below {W w w' : World} {A : Option Addr} {n c : Nat} {l : List Nat} (h : OwnB W w A n c l) (hb : Below w.heap.size w w') : OwnB W w' A n c l := ownsRow_below h hb
/-- the call began in W; from w on it answered the bytes l in memory of W's own -/
def GotIn (W w : World) (l : List Nat) (e : Ending) (w' : World) : Prop := ∃ A c, e = .returned (.slice A l.length c) ∧ OwnB W w' A l.length c l ∧ Below W.heap.size W w' ∧ Below w.heap.size w w'
theorem GotIn.of {W w : World} {l : List Nat} {e : Ending} {w' : World} (hB : Below W.heap.size W w) (h : GotB w l e w') : GotIn W w l e w' := by
  obtain ⟨A, n, c, rfl, ho, hb⟩ := h
  have hn := own_len ho
  subst hn
  refine ⟨A, c, rfl, ?_, hB.trans (hb.mono hB.size), hb⟩
  obtain ⟨h1, h2⟩ := ho
  refine ⟨h1, ?_⟩
  rcases h2 with h2 | ⟨g, cap, cur, hv, hg, r⟩
  · exact .inl h2
  · exact .inr ⟨g, cap, cur, hv, Nat.le_trans hB.size hg, r⟩
/-- a row of the call's own, over a store into a block of another type -/
theorem own_set_t {w : World} {base size n b i : Nat} {e t : TypeId} {v u : Value} {xs : List Value} {cs : Array Value} (h : w.ownsRow base e size v n xs) (hb : Blk w b t cs) (hne : e ≠ t) : (w.setCell ⟨b, i, none⟩ u).ownsRow base e size v n xs := by
  have hg : w.grownBy (w.setCell ⟨b, i, none⟩ u) (some b) :=
    ⟨rfl, rfl, rfl, by simp [World.setCell], fun k hk hn => Below.heap_setCell w ⟨b, i, none⟩ u k (by rintro rfl; exact hn rfl)⟩
  refine h.kept hg ?_
  rcases h.2 with ⟨h1, _⟩ | ⟨g, cap, cur, h1, _, hh, _⟩
  · rw [h1]; exact .inl rfl
  · rw [h1]
    refine .inr ?_
    show some g ≠ some b
    intro h0
    injection h0 with h0
    exact Blk.apart hh hb hne h0
theorem Blk.set_other {w : World} {g b i : Nat} {t : TypeId} {cs : Array Value} {u : Value} (h : Blk w g t cs) (hne : g ≠ b) : Blk (w.setCell ⟨b, i, none⟩ u) g t cs := (Below.heap_setCell w ⟨b, i, none⟩ u g hne).trans h
/-- three stores into a block of three cells: what they leave -/
theorem put3 {w : World} {b : Nat} {t : TypeId} {x0 y0 z0 : Value} (hk : Blk w b t #[x0, y0, z0]) (x y z : Value) :
    Blk (((w.setCell ⟨b, 0, none⟩ x).setCell ⟨b, 1, none⟩ y).setCell ⟨b, 2, none⟩ z) b t #[x, y, z] ∧
    (∀ W, W.heap.size ≤ b → Below W.heap.size W w → Below W.heap.size W (((w.setCell ⟨b, 0, none⟩ x).setCell ⟨b, 1, none⟩ y).setCell ⟨b, 2, none⟩ z)) ∧
    ∀ base e size v n xs, w.ownsRow base e size v n xs → e ≠ t → (((w.setCell ⟨b, 0, none⟩ x).setCell ⟨b, 1, none⟩ y).setCell ⟨b, 2, none⟩ z).ownsRow base e size v n xs :=
  ⟨((hk.set_ 0 x).set_ 1 y).set_ 2 z, fun W h1 h2 => ((h2.setCell h1 _).setCell h1 _).setCell h1 _, fun base e size v n xs h hne => own_set_t (own_set_t (own_set_t h hk hne) (hk.set_ 0 x) hne) ((hk.set_ 0 x).set_ 1 y) hne⟩
/-- a block of three cells: what a walk reads of it -/
theorem three {w : World} {b : Nat} {t : TypeId} {x y z : Value} (h : Blk w b t #[x, y, z]) :
    w.cell? ⟨b, 0, none⟩ = some x ∧ w.cell? ⟨b, 1, none⟩ = some y ∧ w.cell? ⟨b, 2, none⟩ = some z ∧ w.frozen? ⟨b, 0, none⟩ = false ∧ w.frozen? ⟨b, 1, none⟩ = false ∧ w.frozen? ⟨b, 2, none⟩ = false :=
  ⟨h.cell 0, h.cell 1, h.cell 2, h.frozen 0, h.frozen 1, h.frozen 2⟩
theorem results_tmp_cell_row {P : Program} {fn : Func} {u p : Tmp} {ty : TypeId} (h : fn.results = #[.tmp u, .cell p ty]) (tmps : Array Value) (w : World) (g : Nat) (t : TypeId) (cs : Array Value) (d : TypeDesc)
    (hp : tmps.getD p undef = .pointer (some ⟨g, 0, none⟩)) (hg : Blk w g t cs)
    (hu : P.underlying ty = some d) (hd : (match d with | .struct _ | .array _ _ => true | _ => false) = true) (hi : (P.info? ty).map (·.size) = some cs.size) :
    (results fn tmps).run P w = .ok (.tuple #[tmps.getD u undef, .agg cs]) w := by
  have hp' : tmps[p]?.getD undef = .pointer (some ⟨g, 0, none⟩) := by simpa using hp
  simp [results, h, hp', asAddr, run_loadVar_row w g t ty cs (0, 0) d hg hu hd hi]
/-- a row of bytes as a string -/
theorem str_of {w : World} {B : Nat} {A : Option Addr} {n c : Nat} {l : List Nat} (h : Rd w B A n (bv l)) : (convert 22 9 (.slice A n c)).run Try.prog w = .ok (.string (strB l)) w :=
  run_str_rd Try.underlying22 Try.underlying5 Try.underlying9 h
end Go.Proofs.Ytjindkeojhihdaa
