/- MachKit -/
import Derived.Test.YtbgagmpifaakgaaTF09
namespace Go.Proofs.Ytbgagmpifaakgaa
open Go.RowKit
set_option linter.unusedVariables false
def entC (a : CA) (e : En) : Array Value := #[.int .i64 e.s, .int .i64 e.q, .int .i64 e.c.kind, .int .i64 e.c.who, .slice a.Ak e.c.key.length a.ck, .slice a.Av e.c.val.length a.cv, .slice a.Ao e.c.old.length a.co]
section
variable {W w w' : World} {B : Nat}
end
theorem Cm.Fits.zero : Cm.Fits ⟨0, 0, [], [], []⟩ := ⟨⟨by simp, by simp⟩, ⟨by simp, by simp⟩, ⟨by simp, by simp⟩⟩
theorem RdC.zero (w : World) (B : Nat) : RdC w B ⟨none, 0, none, 0, none, 0⟩ ⟨0, 0, [], [], []⟩ := ⟨Rd.none_ _ _ _, Rd.none_ _ _ _, Rd.none_ _ _ _⟩
end Go.Proofs.Ytbgagmpifaakgaa

