/- RegEq -/
import Derived.Test.YtbgagmpifaakgaaTF42
namespace Go.Proofs.Ytbgagmpifaakgaa
open Go.RowKit
set_option linter.unusedVariables false
theorem wanted_ofE {o : Oper} {y : Nat → Option Bool} {j : Nat} {b c r : Bool} (hg : o.guard = some (j, b)) (hy : y j = some c) (hr : (c == b) = r) : Region.wanted o y = r := by
  subst hr; unfold Region.wanted; rw [hg]; simp [hy]
theorem yielded_ofE {ops : Array Oper} {tmps : Array Value} {j s : Nat} {b : Bool} (ho : (ops[j]?).bind (·.dst) = some s) (ht : tmps[s]? = some (.bool b)) : yielded ops tmps j = some b := by
  unfold yielded; rw [ho, Option.bind_some, ht]
theorem deps_ofE {md : Region.Mode} {ops : Array Oper} {deps : Nat → List Nat} (h : ((List.range ops.size).all fun i => (deps i).all fun j => Region.waitsFor md ops i j) = true) : ∀ i, i < ops.size → ∀ j ∈ deps i, Region.waitsFor md ops i j = true := by
  intro i hi j hj
  exact List.all_eq_true.1 (List.all_eq_true.1 h i (List.mem_range.2 hi)) j hj
theorem ev_tmpE {a : Act} {t : Nat} {v : Value} (h : a.eval (.tmp t) = v) : a.tmps[t]?.getD undef = v := by rw [← h]; simp [Act.eval]
inductive KQ9 where
  | eq (u : Value)
  | any
def VQ9 (ks : List KQ9) (i : Nat) (v : Value) (w : World) : Prop := match ks[i]? with
  | some (.eq u) => v = u
  | _ => True
theorem VQ9.ext (ks : List KQ9) (i : Nat) (v : Value) (w w' : World) (h : VQ9 ks i v w) (he : Bw w w') : VQ9 ks i v w' := by
  unfold VQ9 at h ⊢
  cases hk : ks[i]? with
  | none => trivial
  | some k =>
    rw [hk] at h
    cases k with
    | eq u => exact h
    | any => trivial
end Go.Proofs.Ytbgagmpifaakgaa

