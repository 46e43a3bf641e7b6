/- MachBytes -/
import Derived.Test.YtbgagmpifaakgaaTF09
namespace Go.Proofs.Ytbgagmpifaakgaa
set_option linter.unusedVariables false
def En.zero : En := ⟨0, 0, ⟨0, 0, [], [], []⟩⟩
-- back
end Go.Proofs.Ytbgagmpifaakgaa

