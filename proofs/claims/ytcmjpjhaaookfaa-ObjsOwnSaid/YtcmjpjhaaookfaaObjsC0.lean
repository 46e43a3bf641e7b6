/- The objects: what the code owes; Ok and awake. -/
import Derived.Test.YtcmjpjhaaookfaaObjsC00
import Derived.Test.YtcmjpjhaaookfaaObjOk
import Derived.Test.YtcmjpjhaaookfaaObjCmd
namespace Go.Proofs.Ytcmjpjhaaookfaa
open Go.RowKit
set_option linter.unusedVariables false
def OkC8 : Prop := ∀ (w : World) (ca : CA) (c : Cm), Calls Try.prog 13 #[cmdV ca c] w fun e w' => e = .returned (.bool c.ok) ∧ Below w.heap.size w w'
def AwakeC8 : Prop := ∀ w : World, Calls Try.prog 14 #[] w fun e w' => e = .returned (.bool true) ∧ Below w.heap.size w w'
end Go.Proofs.Ytcmjpjhaaookfaa
