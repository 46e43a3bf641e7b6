/- MachBytes -/
import Derived.Test.YtaknfmionkkdjaaFM18
namespace Go.Proofs.Ytaknfmionkkdjaa
set_option linter.unusedVariables false
def En.zero : En := ⟨0, 0, ⟨0, 0, [], [], []⟩⟩
-- back
end Go.Proofs.Ytaknfmionkkdjaa

