/- CmdRow -/
import Derived.Test.YtneehnoolhadbaaGP14
import Derived.Deep.Slices
namespace Go.Proofs.Ytneehnoolhadbaa
open Go.RowKit
set_option linter.unusedVariables false
open Go.ChangeShapes Go.WideShapes Go.ChangeAt in
theorem cell_row {H : Type} {enc : TypeId × Value → H} {P : Program} {w : World} {t q : TypeId} {n : Nat} {v : Value} {y : DataW H × List MemPlace} (ht : P.underlying t = some (.slice q)) (hq : P.underlying q = some (.int .u8)) (cq : P.cellsOf q = 1)
    (h : DataW.trod enc P w 0 (fun _ => true) true n t [v] = some y) : ∃ (a : Option Addr) (c : Nat) (l : List Nat), v = .slice a l.length c ∧ (∀ x ∈ l, x < 256) ∧ Rd w w.heap.size a l.length (bv l) := by
  have hrow : ∃ a len cap zs, v = .slice a len cap ∧ IsRow .u8 w a len cap zs := by
    rcases open_ints ht hq cq h with ⟨hcs, _⟩ | ⟨x, l, c, zs, hcs, _, hl, hm, hz, _, hcell, hwz⟩
    · simp at hcs
      subst hcs
      exact ⟨none, 0, 0, [], rfl, .inl ⟨rfl, rfl, rfl, rfl⟩⟩
    · simp at hcs
      subst hcs
      exact ⟨some x, l, c, zs, rfl, .inr ⟨_, rfl, hl, hm, by simpa using hz, hcell, hwz⟩⟩
  obtain ⟨a, len, cap, zs, rfl, hr⟩ := hrow
  obtain ⟨l, h1, h2, _⟩ := hr.rd
  obtain rfl := h2.length
  exact ⟨a, cap, l, rfl, h1, h2⟩
open Go.ChangeShapes Go.WideShapes Go.ChangeAt in
theorem cell_int {H : Type} {enc : TypeId × Value → H} {P : Program} {w : World} {t : TypeId} {n : Nat} {v : Value} {y : DataW H × List MemPlace} (ht : P.underlying t = some (.int .i64))
    (h : DataW.trod enc P w 0 (fun _ => true) true n t [v] = some y) : ∃ z, v = .int .i64 z := by
  obtain ⟨z, h1, _⟩ := DataW.trod_int ht h
  simp at h1
  exact ⟨z, h1⟩
theorem list5 {α : Type} {l : List α} (h : l.length = 5) : ∃ a b c d e, l = [a, b, c, d, e] := by
  match l, h with
  | [a, b, c, d, e], _ => exact ⟨a, b, c, d, e, rfl⟩
end Go.Proofs.Ytneehnoolhadbaa

