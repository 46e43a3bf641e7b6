/- BlobMath -/
import Derived.Test.YtaknfmionkkdjaaFM02
import Derived.Test.YtaknfmionkkdjaaFM21
import Derived.Test.YtaknfmionkkdjaaFM22
import Init
namespace Go.Proofs.Ytaknfmionkkdjaa
set_option linter.unusedVariables false
/-- a state -/
structure Sb where
  pos : Int
  m : Mc
  rest : List En
def Sb.zero : Sb := ⟨0, Mc.zero, []⟩
namespace Sb
end Sb
end Go.Proofs.Ytaknfmionkkdjaa

