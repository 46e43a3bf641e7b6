/- MapsC0 -/
import Derived.Test.YtmdkbmafkglhdaaK03
import Derived.Test.YtmdkbmafkglhdaaK25
import Derived.Test.YtmdkbmafkglhdaaK36
import Derived.Deep.CutBlock
import Derived.Deep.DeepCutAuto
import Derived.Laws.DeepStrings4
namespace Go.Proofs.Ytmdkbmafkglhdaa
open Go.RowKit
set_option linter.unusedVariables false
theorem sb_len (s : ByteArray) : (sb s).length = s.size := by unfold sb; rw [List.length_map, Array.length_toList]; rfl
end Go.Proofs.Ytmdkbmafkglhdaa

