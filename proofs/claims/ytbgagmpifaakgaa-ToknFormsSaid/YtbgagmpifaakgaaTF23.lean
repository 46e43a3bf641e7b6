/- TknRows -/
import Derived.Test.YtbgagmpifaakgaaTF04
import Derived.Test.YtbgagmpifaakgaaTF05
import Derived.Deep.RegionLaw
namespace Go.Proofs.Ytbgagmpifaakgaa
open Go.RowKit
set_option linter.unusedVariables false
/-- two rows of the call's own, of one type, in two blocks -/
structure Rows2T (base : Nat) (w : World) (u v : Value) (n m : Nat) (xs ys : List Value) : Prop where
  a : w.ownsRow base 3 1 u n xs
  b : w.ownsRow base 3 1 v m ys
  ap : u.ownBlock = none ∨ v.ownBlock = none ∨ u.ownBlock ≠ v.ownBlock
section
variable {base : Nat} {w w2 : World} {u v u' : Value} {n m n' : Nat} {xs ys xs' : List Value}
theorem Rows2T.swap (h : Rows2T base w u v n m xs ys) : Rows2T base w v u m n ys xs := ⟨h.b, h.a, by rcases h.ap with h1 | h1 | h1; exact .inr (.inl h1); exact .inl h1; exact .inr (.inr (fun e => h1 e.symm))⟩
theorem Rows2T.below (h : Rows2T base w u v n m xs ys) (hb : Below w.heap.size w w2) : Rows2T base w2 u v n m xs ys := ⟨ownsRow_below h.a hb, ownsRow_below h.b hb, h.ap⟩
theorem Rows2T.grow (h : Rows2T base w u v n m xs ys) (hu : w2.ownsRow base 3 1 u' n' xs') (hg : w.grownBy w2 u.ownBlock) (hb : u'.ownBlock = u.ownBlock ∨ u'.ownBlock = some w.heap.size) : Rows2T base w2 u' v n' m xs' ys := by
  refine ⟨hu, h.b.kept hg ?_, ?_⟩
  · rcases h.ap with h1 | h1 | h1
    · rw [h1]
      cases hv : v.ownBlock
      · exact .inl rfl
      · exact .inr (by simp)
    · exact .inl h1
    · exact .inr (fun e => h1 e.symm)
  · rcases hb with e | e
    · rw [e]; exact h.ap
    · rw [e]
      cases hv : v.ownBlock with
      | none => exact .inr (.inl rfl)
      | some g =>
        refine .inr (.inr (fun e2 => ?_))
        injection e2 with e2
        have := (h.b.lt g hv).2
        omega
end
/-- append, and which block the row lies in then -/
theorem wpList_append_cells2T {P : Program} {t e : TypeId} {z : Value} {bytes : Nat} {W w : World} (hT : CellT P t e z bytes) {ops : Array Oper} {rest : List Oper} {o : Oper} {a : Act} {Q : Exit → Act → World → Prop} (s x : Operand)
    (ho : o.op = .call { callee := .builtin .append, args := #[s, x], argTypes := #[t, t] }) (hw : Region.wanted o (yielded ops a.tmps) = true)
    {A : Option Addr} {n c : Nat} {vs : List Value} (hs : a.eval s = .slice A n c) (hown : w.ownsRow W.heap.size e 1 (.slice A n c) n vs)
    {B : Nat} {A' : Option Addr} {m c' : Nat} {ws : List Value} (hx : a.eval x = .slice A' m c') (hr : Rd w B A' m ws) (h1 : ∀ u ∈ ws, u.oneCell' = true) (hnm : n + m ≤ 1099511627776) (hby : bytes ≤ 64) (hB : Below W.heap.size W w)
    (h : ∀ A2 c2 w2, w2.ownsRow W.heap.size e 1 (.slice A2 (n + m) c2) (n + m) (vs ++ ws) → Below W.heap.size W w2 → w.grownBy w2 (Value.slice A n c).ownBlock →
      ((Value.slice A2 (n + m) c2).ownBlock = (Value.slice A n c).ownBlock ∨ (Value.slice A2 (n + m) c2).ownBlock = some w.heap.size) → wpList P ops Q rest (a.put o.dst (.slice A2 (n + m) c2)) w2) :
    wpList P ops Q (o :: rest) a w := by
  obtain ⟨i, hi, hz, hsz, hbi⟩ := info_parts hT.info
  obtain ⟨v', w', hrun, h2, h3, h4⟩ := run_append_rd (P := P) w W.heap.size t o.type e i z bytes hT.under hi hz hsz hbi hT.one _ n vs hown B A' m c' ws hr h1
    (by unfold maxLen; omega) (by have := Nat.mul_le_mul hnm hby; omega) hB.size
  have hlt := hown.lt
  have hB2 : Below W.heap.size W w' := hB.grown h3 hB.size (fun k hk => (hlt k hk).1)
  obtain ⟨A2, c2, rfl, hr2⟩ := Rd.of_own h2
  have hgo := h A2 c2 w' h2 hB2 h3 h4
  unfold wpList
  rw [if_pos hw]
  refine Or.inl ?_
  unfold Oper.wp execOp
  simp only [ho, resolve, invoke, builtin, Sem.run_bind, Sem.run_pure, Result.andThen_ok, List.map_toArray, List.map_cons, List.map_nil, hs, hx, hrun]
  exact hgo
end Go.Proofs.Ytbgagmpifaakgaa

