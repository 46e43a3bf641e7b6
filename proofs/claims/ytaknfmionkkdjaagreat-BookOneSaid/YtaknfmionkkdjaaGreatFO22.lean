/- MachBytes -/
import Derived.Test.YtaknfmionkkdjaaGreatFO19
namespace Go.Proofs.YtaknfmionkkdjaaGreat
set_option linter.unusedVariables false
def En.zero : En := ⟨0, 0, ⟨0, 0, [], [], []⟩⟩
-- back
end Go.Proofs.YtaknfmionkkdjaaGreat

