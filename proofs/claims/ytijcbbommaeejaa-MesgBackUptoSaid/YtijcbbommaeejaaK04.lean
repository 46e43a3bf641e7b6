/- MapsC0 -/
import Derived.Test.YtijcbbommaeejaaK01
import Derived.Test.YtijcbbommaeejaaK02
import Derived.Test.YtijcbbommaeejaaK03
import Derived.Deep.CutBlock
import Derived.Deep.DeepCutAuto
import Derived.Laws.DeepStrings4
namespace Go.Proofs.Ytijcbbommaeejaa
open Go.RowKit
set_option linter.unusedVariables false
theorem sb_len (s : ByteArray) : (sb s).length = s.size := by unfold sb; rw [List.length_map, Array.length_toList]; rfl
end Go.Proofs.Ytijcbbommaeejaa

