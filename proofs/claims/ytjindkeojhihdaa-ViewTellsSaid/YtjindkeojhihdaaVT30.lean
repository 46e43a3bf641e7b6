/- MachBytes -/
import Derived.Test.YtjindkeojhihdaaVT29
namespace Go.Proofs.Ytjindkeojhihdaa
set_option linter.unusedVariables false
def En.zero : En := ⟨0, 0, ⟨0, 0, [], [], []⟩⟩
-- back
end Go.Proofs.Ytjindkeojhihdaa

