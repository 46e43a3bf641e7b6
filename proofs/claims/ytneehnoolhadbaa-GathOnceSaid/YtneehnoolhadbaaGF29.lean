/- MesgRow -/
import Derived.Test.YtneehnoolhadbaaGF04
import Derived.Test.YtneehnoolhadbaaGF20
import Derived.Test.YtneehnoolhadbaaGF21
import Derived.Test.YtneehnoolhadbaaGF22
import Derived.Test.YtneehnoolhadbaaGF24
import Derived.Test.YtneehnoolhadbaaGF25
import Derived.Test.YtneehnoolhadbaaGF28
import Derived.Deep.RegionHeld3
import Derived.Laws.CopyOwn
namespace Go.Proofs.Ytneehnoolhadbaa
open Go.RowKit
set_option linter.unusedVariables false
section
variable {W w wx : World} {b g k : Nat} {t e : TypeId} {old cs c : Array Value}
theorem only_row (w : World) (g : Nat) (cs : Array Value) : Only g w (w.setRow g cs) :=
  ⟨rfl, rfl, rfl, by simp, fun k hk hne => setRow_other w g k cs (by rintro rfl; exact hne rfl)⟩
theorem Blk.row (h : Blk w g t old) (cs : Array Value) : Blk (w.setRow g cs) g t cs := setRow_heap w g old cs t (0, 0) h
theorem Blk.row_other (h : Blk w k t c) (hne : k ≠ g) (cs : Array Value) : Blk (w.setRow g cs) k t c := (setRow_other w g k cs hne).trans h
end
end Go.Proofs.Ytneehnoolhadbaa

