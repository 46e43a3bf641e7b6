/- The third contract of stage 9. -/
import Derived.Test.YtcmjpjhaaookfaaSessCode
import Derived.Test.YtcmjpjhaaookfaaSessC0
namespace Go.Proofs.Ytcmjpjhaaookfaa
open Go.RowKit
set_option linter.unusedVariables false
theorem awake9 : AwakeC9 := sessAwake look9 put9
end Go.Proofs.Ytcmjpjhaaookfaa
