/- BoxKit -/
import Derived.Test.YtbgagmpifaakgaaTF29
import Derived.Deep.MidRow
import Derived.Deep.RegionWith
import Derived.OwnWalk
import Derived.WalkLawsBesides
import Derived.WalkSpells
namespace Go.Proofs.Ytbgagmpifaakgaa
open Go.RowKit
set_option linter.unusedVariables false
theorem boxed (w : World) (Z R : Array Value) (T : TypeId) : ∃ g w2, w.heap.size = g ∧ (w.alloc (.cells Z T)).setRow g R = w2 ∧ Below w.heap.size w w2 ∧ Blk w2 g T R :=
  ⟨_, _, rfl, rfl, below_setRow ((Below.refl _ _).alloc (Nat.le_refl _) _) (Nat.le_refl _) _, (Blk.new _ _ _).row _⟩
/-- a row loaded under a guard that is known -/
theorem wpList_load_rowV {P : Program} {ops : Array Oper} {rest : List Oper} {o : Oper} {a : Act} {w : World} {Q : Exit → Act → World → Prop} (hgd : Region.wanted o (yielded ops a.tmps) = true) (ty : TypeId) (x : Operand) (ho : o.op = .load ty x)
    (g : Nat) (hx : a.eval x = .pointer (some ⟨g, 0, none⟩)) (t : TypeId) (cs : Array Value) (fr : Nat × Nat) (d : TypeDesc) (hg : w.heap[g]? = some (.cells cs t fr))
    (hu : P.underlying ty = some d) (hd : (match d with | .struct _ | .array _ _ => true | _ => false) = true) (hi : (P.info? ty).map (·.size) = some cs.size)
    (h : wpList P ops Q rest (a.put o.dst (.agg cs)) w) : wpList P ops Q (o :: rest) a w := by
  unfold wpList
  rw [if_pos hgd]
  exact Or.inl (wp_load_row ty x ho g hx t cs fr d hg hu hd hi h)
end Go.Proofs.Ytbgagmpifaakgaa

