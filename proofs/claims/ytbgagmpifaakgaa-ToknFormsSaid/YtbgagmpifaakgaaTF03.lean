/- OwnKit -/
import Derived.Test.YtbgagmpifaakgaaTF02
import Derived.Below
import Derived.Deep.RegionWith
import Derived.IntWalk
import Derived.Laws.BitsAllLaws
import Derived.Outline
import Derived.OwnWalk
import Derived.ProofKit
import Derived.Test.YtbgagmpifaakgaaRows
import Derived.WalkKit
import Derived.WalkLawsBesides
import Derived.WalkSpells
namespace Go.Proofs.Ytbgagmpifaakgaa
open Go.RowKit
set_option linter.unusedVariables false

theorem byteT : ByteT Try.prog 23 5 := ⟨Try.underlying23, by kernel_rfl⟩
/-- a length that may be, and n more -/
def Lim (k n : Nat) : Prop := n + k ≤ 1099511627776
theorem Lim.out {k n : Nat} (h : Lim k n) : n + k ≤ 1099511627776 := h
/-- the call that began in W made a row that is the bytes l -/
abbrev OwnB (W w : World) (A : Option Addr) (n c : Nat) (l : List Nat) : Prop := w.ownsRow W.heap.size 5 1 (.slice A n c) n (bv l)
/-- a call that began in W answered the bytes l, in memory of its own, and turned nothing that was there -/
def GotB (W : World) (l : List Nat) (e : Ending) (w' : World) : Prop := ∃ A n c, e = .returned (.slice A n c) ∧ OwnB W w' A n c l ∧ Below W.heap.size W w'
theorem own_len {W w : World} {A : Option Addr} {n c : Nat} {l : List Nat} (h : OwnB W w A n c l) : l.length = n := by
  have := h.1; rw [bv_length] at this; omega
theorem own_below {W w w' : World} {A : Option Addr} {n c : Nat} {l : List Nat} (h : OwnB W w A n c l) (hb : Below w.heap.size w w') : OwnB W w' A n c l := ownsRow_below h hb
/-- the call began in W; from w on it answered the bytes l in memory of W's own -/
def GotIn (W w : World) (l : List Nat) (e : Ending) (w' : World) : Prop := ∃ A c, e = .returned (.slice A l.length c) ∧ OwnB W w' A l.length c l ∧ Below W.heap.size W w' ∧ Below w.heap.size w w'
theorem GotIn.of {W w : World} {l : List Nat} {e : Ending} {w' : World} (hB : Below W.heap.size W w) (h : GotB w l e w') : GotIn W w l e w' := by
  obtain ⟨A, n, c, rfl, ho, hb⟩ := h
  have hn := own_len ho
  subst hn
  refine ⟨A, c, rfl, ?_, hB.trans (hb.mono hB.size), hb⟩
  obtain ⟨h1, h2⟩ := ho
  refine ⟨h1, ?_⟩
  rcases h2 with h2 | ⟨g, cap, cur, hv, hg, r⟩
  · exact .inl h2
  · exact .inr ⟨g, cap, cur, hv, Nat.le_trans hB.size hg, r⟩
/-- a row of the call's own, over a store into a block of another type -/
theorem own_set_t {w : World} {base size n b i : Nat} {e t : TypeId} {v u : Value} {xs : List Value} {cs : Array Value} (h : w.ownsRow base e size v n xs) (hb : Blk w b t cs) (hne : e ≠ t) : (w.setCell ⟨b, i, none⟩ u).ownsRow base e size v n xs := by
  have hg : w.grownBy (w.setCell ⟨b, i, none⟩ u) (some b) :=
    ⟨rfl, rfl, rfl, by simp [World.setCell], fun k hk hn => Below.heap_setCell w ⟨b, i, none⟩ u k (by rintro rfl; exact hn rfl)⟩
  refine h.kept hg ?_
  rcases h.2 with ⟨h1, _⟩ | ⟨g, cap, cur, h1, _, hh, _⟩
  · rw [h1]; exact .inl rfl
  · rw [h1]
    refine .inr ?_
    show some g ≠ some b
    intro h0
    injection h0 with h0
    exact Blk.apart hh hb hne h0
end Go.Proofs.Ytbgagmpifaakgaa

