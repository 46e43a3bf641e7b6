/- MesgBackWalk -/
import Derived.Test.YtmdkbmafkglhdaaK52
namespace Go.Proofs.Ytmdkbmafkglhdaa
open Go.RowKit
set_option linter.unusedVariables false
theorem mesgBack_walk (g0 : GA) (m0 : Mg) (a1 a2 : Int) (a3 : Option Addr) (len3 cap3 : Nat) (z3 : List Int) (w : World) (w0 : IsMsg w g0 m0) (b0 : m0.ent.c.key.length ≤ 1048576 ∧ m0.ent.c.val.length ≤ 1048576 ∧ m0.ent.c.old.length ≤ 1048576) (w1 : (Lit.int .i64 a1).wf = true) (w2 : (Lit.int .i64 a2).wf = true) (w3 : IsRow .u8 w a3 len3 cap3 z3) :
    Calls Try.prog 4 #[msgV g0 m0, .int .i64 a1, .int .i64 a2, .slice a3 len3 cap3] w fun e w' => e = .returned (.bool true) ∧ Below w.heap.size w w' := by
  obtain ⟨l, h1, h2, _⟩ := w3.rd
  obtain rfl := h2.length
  have h3 := mesgBack_raw g0 m0 a1 a2 a3 cap3 l w w0 b0 (by simpa [bv] using h2) h1
  simpa [bv, msgV, msgC] using h3
end Go.Proofs.Ytmdkbmafkglhdaa

