/- TknRisKit -/
import Derived.Test.YtbgagmpifaakgaaTK42
import Derived.Test.YtbgagmpifaakgaaTK49
namespace Go.Proofs.Ytbgagmpifaakgaa
open Go.RowKit
set_option linter.unusedVariables false
/-- a row of integers, in a block of its own that is not q -/
def OwX (w : World) (q : Nat) (A : Option Addr) (n c : Nat) (l : List Int) : Prop := w.ownsRow 0 3 1 (.slice A n c) n (iv l) ∧ (Value.slice A n c).ownBlock ≠ some q
theorem OwX.below {w w' : World} {q n c : Nat} {A : Option Addr} {l : List Int} (h : OwX w q A n c l) (hb : Below w.heap.size w w') : OwX w' q A n c l := ⟨ownsRow_below h.1 hb, h.2⟩
theorem OwX.set {w : World} {q n c i : Nat} {u : Value} {A : Option Addr} {l : List Int} (h : OwX w q A n c l) : OwX (w.setCell ⟨q, i, none⟩ u) q A n c l := ⟨h.1.kept (grownBy_set w q i u) (.inr h.2), h.2⟩
theorem OwX.row {w : World} {q n c g : Nat} {A : Option Addr} {l : List Int} {cs old : Array Value} {t : TypeId} (h : OwX w q A n c l) (hb : Blk w g t old) (hne : 3 ≠ t) : OwX (w.setRow g cs) q A n c l := ⟨own_row_t h.1 hb hne, h.2⟩
theorem OwX.new {W w : World} {q n c : Nat} {A : Option Addr} {l : List Int} (h : OwnI W w A n c l) (hq : q < W.heap.size) : OwX w q A n c l :=
  ⟨own_more h (Nat.zero_le _), fun e => by have := (h.lt q e).1; omega⟩
theorem OwX.old {W w : World} {q n c : Nat} {A : Option Addr} {l : List Int} (h : OwnI W w A n c l) (hq : w.heap.size ≤ q) : OwX w q A n c l :=
  ⟨own_more h (Nat.zero_le _), fun e => by have := (h.lt q e).2; omega⟩
theorem OwX.rd {w : World} {q n c : Nat} {A : Option Addr} {l : List Int} (h : OwX w q A n c l) : Rd w w.heap.size A n (iv l) := Rd.own_ h.1
structure RisM (w wr : World) (N q g : Nat) (a : GA) (M : Mg) (H : List Int) : Prop where
  blk : Blk wr g 29 (msgC a M)
  h : OwX wr q a.Ah M.hav.length a.ch M.hav
  n : OwX wr q a.An M.nee.length a.cn M.nee
  hv : OwnI w wr (some ⟨q, 0, none⟩) N N H
  bel : Below w.heap.size w wr
  gg : w.heap.size ≤ g
theorem RisM.below {w wr wy : World} {N q g : Nat} {a : GA} {M : Mg} {H : List Int} (s : RisM w wr N q g a M H) (hb : Below wr.heap.size wr wy) : RisM w wy N q g a M H :=
  ⟨s.blk.below hb, s.h.below hb, s.n.below hb, ownsRow_below s.hv hb, s.bel.trans (hb.mono s.bel.size), s.gg⟩
theorem RisM.wq {w wr : World} {N q g : Nat} {a : GA} {M : Mg} {H : List Int} (s : RisM w wr N q g a M H) : w.heap.size ≤ q ∧ q < wr.heap.size := s.hv.lt q rfl
theorem RisM.put {w wr : World} {N q g p : Nat} {a : GA} {M : Mg} {H : List Int} (s : RisM w wr N q g a M H) (z : Int) : RisM w (wr.setCell ⟨q, p, none⟩ (.int .i64 z)) N q g a M (H.set p z) := by
  have hne : g ≠ q := by
    rintro rfl
    rcases own_blk s.hv with ⟨h1, _⟩ | ⟨q', cur, h1, h2, h3⟩
    · cases h1
    · injection h1 with h1; injection h1 with h1; subst h1
      exact s.blk.apart h3 (by decide) rfl
  exact ⟨(Below.heap_setCell wr ⟨q, p, none⟩ _ g hne).trans s.blk, s.h.set, s.n.set, ownI_set s.hv p z, s.bel.setCell s.wq.1 _, s.gg⟩
theorem RisM.rdG {w wr : World} {N q g : Nat} {a : GA} {M : Mg} {H : List Int} (s : RisM w wr N q g a M H) (hd : M.data = []) (he : M.ent = En.zero) : RdG wr wr.heap.size a M :=
  ⟨by rw [hd]; exact Rd.none_ _ _ _, s.h.rd, s.n.rd, by rw [he]; exact ⟨Rd.none_ _ _ _, Rd.none_ _ _ _, Rd.none_ _ _ _⟩, own_cap s.h.1, own_cap s.n.1⟩
end Go.Proofs.Ytbgagmpifaakgaa

