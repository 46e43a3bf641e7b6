/- MachPut2 -/
import Derived.Test.YtmdkbmafkglhdaaK21
import Derived.Test.YtmdkbmafkglhdaaK22
namespace Go.Proofs.Ytmdkbmafkglhdaa
open Go.RowKit
set_option linter.unusedVariables false
theorem take_snoc {α : Type} {l : List α} {k : Nat} {x : α} (h : l[k]? = some x) : l.take (k + 1) = l.take k ++ [x] := by rw [List.take_add_one, h]; rfl
end Go.Proofs.Ytmdkbmafkglhdaa

