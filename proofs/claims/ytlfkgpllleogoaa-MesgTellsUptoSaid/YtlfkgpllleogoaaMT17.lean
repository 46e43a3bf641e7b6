/- MachPutE -/
import Derived.Test.YtlfkgpllleogoaaMT12
namespace Go.Proofs.Ytlfkgpllleogoaa
open Go.RowKit
set_option linter.unusedVariables false
theorem RdT.at_ {w : World} {e : TypeId} {A : Option Addr} {n k : Nat} {vs : List Value} {v : Value} (h : RdT w e A n vs) (hk : k < n) (hv : vs[k]? = some v) : ∃ b o, A = some ⟨b, o, none⟩ ∧ w.cell? ⟨b, o + k, none⟩ = some v := by
  obtain ⟨g, o, cur, e1, hb, hc⟩ := h.2 (by omega)
  exact ⟨g, o, e1, (hb.cell _).trans ((hc k hk).trans hv)⟩
theorem iv_at {zs : List Int} {k : Nat} {z : Int} (h : zs[k]? = some z) : (iv zs)[k]? = some (.int .i64 z) := by unfold iv; rw [List.getElem?_map, h]; rfl
end Go.Proofs.Ytlfkgpllleogoaa

