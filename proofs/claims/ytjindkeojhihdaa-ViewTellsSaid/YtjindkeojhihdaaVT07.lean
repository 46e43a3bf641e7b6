/- ResKit -/
import Derived.Test.YtjindkeojhihdaaVT06
namespace Go.Proofs.Ytjindkeojhihdaa
open Go.RowKit
set_option linter.unusedVariables false

theorem own_nil (W w : World) : OwnB W w none 0 0 [] := ⟨rfl, .inl ⟨rfl, rfl⟩⟩
end Go.Proofs.Ytjindkeojhihdaa

