/- StructKit -/
import Derived.Test.YtlfkgpllleogoaaMT01
namespace Go.Proofs.Ytlfkgpllleogoaa
open Go.RowKit
set_option linter.unusedVariables false
theorem own_frozenS {w : World} {base size n c g : Nat} {e : TypeId} {vs : List Value} (h : w.ownsRow base e size (.slice (some ⟨g, 0, none⟩) n c) n vs) (j : Nat) : w.frozen? ⟨g, j, none⟩ = false := by
  rcases own_blk h with ⟨h1, _⟩ | ⟨g', cur, h1, _, h2⟩
  · cases h1
  · injection h1 with h1; injection h1 with h1; subst h1; exact h2.frozen j
section
variable {P : Program} {t e : TypeId} {z : Value} {size bytes : Nat}
end
end Go.Proofs.Ytlfkgpllleogoaa

