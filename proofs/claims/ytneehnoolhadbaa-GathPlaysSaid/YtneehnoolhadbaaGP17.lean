/- MachBytes -/
import Derived.Test.YtneehnoolhadbaaGP16
namespace Go.Proofs.Ytneehnoolhadbaa
set_option linter.unusedVariables false
def En.zero : En := ⟨0, 0, ⟨0, 0, [], [], []⟩⟩
-- back
end Go.Proofs.Ytneehnoolhadbaa

