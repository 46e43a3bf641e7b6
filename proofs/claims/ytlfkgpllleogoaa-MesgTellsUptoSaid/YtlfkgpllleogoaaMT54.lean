/- MesgTellsWalk -/
import Derived.Test.YtlfkgpllleogoaaMT53
namespace Go.Proofs.Ytlfkgpllleogoaa
open Go.RowKit
set_option linter.unusedVariables false
theorem mesgTells_walk (g0 : GA) (m0 : Mg) (a1 a2 : Int) (a3 : Option Addr) (len3 cap3 : Nat) (z3 : List Int) (a4 a5 : Int) (w : World) (w0 : IsMsg w g0 m0) (b0 : m0.ent.c.key.length ≤ 1048576 ∧ m0.ent.c.val.length ≤ 1048576 ∧ m0.ent.c.old.length ≤ 1048576) (w1 : (Lit.int .i64 a1).wf = true) (w2 : (Lit.int .i64 a2).wf = true) (w3 : IsRow .u8 w a3 len3 cap3 z3) (w4 : (Lit.int .i64 a4).wf = true) (w5 : (Lit.int .u8 a5).wf = true) :
    Calls Try.prog 3 #[msgV g0 m0, .int .i64 a1, .int .i64 a2, .slice a3 len3 cap3, .int .i64 a4, .int .u8 a5] w fun e w' => e = .returned (.bool true) ∧ Below w.heap.size w w' := by
  obtain ⟨l, h1, h2, h4⟩ := w3.rd
  obtain ⟨y, rfl, hy⟩ := u8_nat w5
  obtain rfl := h2.length
  have h3 := mesgTells_raw g0 m0 a1 a2 a3 cap3 l a4 y hy w w0 b0 (by simpa [bv] using h2) (by simpa [bv] using h4) h1
  simpa [bv, msgV, msgC] using h3
end Go.Proofs.Ytlfkgpllleogoaa

