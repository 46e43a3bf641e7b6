/- OwnKit -/
import Derived.Test.YtneehnoolhadbaaGP01
import Derived.Below
import Derived.Deep.RegionWith
import Derived.IntWalk
import Derived.Laws.BitsAllLaws
import Derived.Outline
import Derived.OwnWalk
import Derived.ProofKit
import Derived.Test.YtneehnoolhadbaaRows
import Derived.WalkKit
import Derived.WalkLawsBesides
import Derived.WalkSpells
namespace Go.Proofs.Ytneehnoolhadbaa
open Go.RowKit
set_option linter.unusedVariables false

/-- the call that began in W made a row that is the bytes l -/
abbrev OwnB (W w : World) (A : Option Addr) (n c : Nat) (l : List Nat) : Prop := w.ownsRow W.heap.size 5 1 (.slice A n c) n (bv l)
theorem own_len {W w : World} {A : Option Addr} {n c : Nat} {l : List Nat} (h : OwnB W w A n c l) : l.length = n := by
  have := h.1; rw [bv_length] at this; omega
/-- a row of the call's own, over a store into a block of another type -/
theorem own_set_t {w : World} {base size n b i : Nat} {e t : TypeId} {v u : Value} {xs : List Value} {cs : Array Value} (h : w.ownsRow base e size v n xs) (hb : Blk w b t cs) (hne : e ≠ t) : (w.setCell ⟨b, i, none⟩ u).ownsRow base e size v n xs := by
  have hg : w.grownBy (w.setCell ⟨b, i, none⟩ u) (some b) :=
    ⟨rfl, rfl, rfl, by simp [World.setCell], fun k hk hn => Below.heap_setCell w ⟨b, i, none⟩ u k (by rintro rfl; exact hn rfl)⟩
  refine h.kept hg ?_
  rcases h.2 with ⟨h1, _⟩ | ⟨g, cap, cur, h1, _, hh, _⟩
  · rw [h1]; exact .inl rfl
  · rw [h1]
    refine .inr ?_
    show some g ≠ some b
    intro h0
    injection h0 with h0
    exact Blk.apart hh hb hne h0
theorem Blk.set_other {w : World} {g b i : Nat} {t : TypeId} {cs : Array Value} {u : Value} (h : Blk w g t cs) (hne : g ≠ b) : Blk (w.setCell ⟨b, i, none⟩ u) g t cs := (Below.heap_setCell w ⟨b, i, none⟩ u g hne).trans h
/-- a row of bytes as a string -/
theorem str_of {w : World} {B : Nat} {A : Option Addr} {n c : Nat} {l : List Nat} (h : Rd w B A n (bv l)) : (convert 25 9 (.slice A n c)).run Try.prog w = .ok (.string (strB l)) w :=
  run_str_rd Try.underlying25 Try.underlying5 Try.underlying9 h
end Go.Proofs.Ytneehnoolhadbaa

