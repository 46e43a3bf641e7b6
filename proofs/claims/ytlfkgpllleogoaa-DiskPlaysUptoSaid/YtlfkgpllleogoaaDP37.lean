/- AppendZ -/
import Derived.Test.YtlfkgpllleogoaaDP05
import Derived.ArgAppend
namespace Go.Proofs.Ytlfkgpllleogoaa
open Go.RowKit
set_option linter.unusedVariables false
theorem run_append_zero {P : Program} {t e ty : TypeId} {i : TypeInfo} (ht : P.underlying t = some (.slice e)) (hi : P.info? e = some i) (hs : i.size = 1) (w : World) (g c : Nat) (ad : Option Addr) :
    (Builtin.append_ #[t, t] ty #[.slice (some ⟨g, 0, none⟩) 0 0, .slice ad 0 c]).run P w = .ok (.slice (some ⟨g, 0, none⟩) 0 0) w := by
  cases ad with
  | none => simp [Builtin.append_, run_underlying ht, sizeOf, typeInfo, hi, Builtin.lenOf, Builtin.firstCells, storeCells, loadCells, loadCellsFrom]
  | some ad => simp [Builtin.append_, run_underlying ht, sizeOf, typeInfo, hi, Builtin.lenOf, Builtin.firstCells, storeCells, loadCells, loadCellsFrom]
theorem wp_append_empty {P : Program} {t e : TypeId} {W w : World} (hT : ByteT P t e) {o : Oper} {a : Act} {K : Act → World → Prop} {Q : Exit → Act → World → Prop} (s x : Operand)
    (ho : o.op = .call { callee := .builtin .append, args := #[s, x], argTypes := #[t, t] }) {g : Nat} (hs : a.eval s = .slice (some ⟨g, 0, none⟩) 0 0) (hown : w.ownsRow W.heap.size e 1 (.slice (some ⟨g, 0, none⟩) 0 0) 0 (bv []))
    {B : Nat} {A' : Option Addr} {m c' : Nat} {l' : List Nat} (hx : a.eval x = .slice A' m c') (hr : Rd w B A' m (bv l')) (hm : m ≤ 1099511627776) (hW : W.heap.size ≤ w.heap.size)
    (h : ∀ A2 c2 w2, w2.ownsRow W.heap.size e 1 (.slice A2 m c2) m (bv l') → Below w.heap.size w w2 → K (a.put o.dst (.slice A2 m c2)) w2) : o.wp P a w K Q := by
  obtain ⟨i, hi, hz, hsz, hby⟩ := info_parts hT.info
  rcases Nat.eq_zero_or_pos m with h0 | h0
  · subst h0
    have hn : l' = [] := List.eq_nil_of_length_eq_zero hr.length
    subst hn
    have hrun := run_append_zero (P := P) (ty := o.type) hT.under hi hsz w g c' A'
    unfold Oper.wp
    simp [execOp, ho, resolve, invoke, builtin, hs, hx, hrun, Result.andThen]
    exact h _ _ w hown (Below.refl _ _)
  · obtain ⟨b, of, rfl, _, hc⟩ := hr.2 h0
    have hadd : ∀ j, (⟨b, of, none⟩ : Addr).add j = ⟨b, of + j, none⟩ := fun j => by unfold Addr.add; split <;> simp_all
    obtain ⟨v', w', hrun, r1, r2⟩ := run_append_arg_grows (P := P) w t o.type e i (.int .u8 0) 1 1 hT.under hi hz hsz hby rfl (by omega) ⟨g, 0, none⟩ 0 0 [] rfl (fun j u hj => by simp at hj) ⟨b, of, none⟩ m c' (bv l') (by rw [hr.1, Nat.mul_one])
      (fun j u hu => by
        have hj : j < m := by have := (List.getElem?_eq_some_iff.1 hu).1; rw [hr.1] at this; exact this
        rw [hadd, hc j hj, hu]) (by omega) (by unfold maxLen; omega) (by omega)
    rw [Nat.zero_add, List.nil_append] at r1
    obtain ⟨A2, c2, rfl, _⟩ := Rd.of_own r1
    unfold Oper.wp
    simp [execOp, ho, resolve, invoke, builtin, hs, hx, hrun, Result.andThen]
    refine h A2 c2 w' ?_ ((Below.refl w.heap.size w).grown r2 (Nat.le_refl _) (fun k hk => by cases hk))
    obtain ⟨q1, q2⟩ := r1
    refine ⟨q1, ?_⟩
    rcases q2 with q2 | ⟨g', cap, cur, hv, hg, r⟩
    · exact .inl q2
    · exact .inr ⟨g', cap, cur, hv, Nat.le_trans hW hg, r⟩
end Go.Proofs.Ytlfkgpllleogoaa

