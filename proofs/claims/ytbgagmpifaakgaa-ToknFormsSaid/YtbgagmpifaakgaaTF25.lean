/- MachRefG -/
import Derived.Test.YtbgagmpifaakgaaTF04
import Derived.Test.YtbgagmpifaakgaaTF10
import Derived.Test.YtbgagmpifaakgaaTF11
import Derived.Test.YtbgagmpifaakgaaTF24
import Derived.Deep.RegionHeld3
namespace Go.Proofs.Ytbgagmpifaakgaa
open Go.RowKit
set_option linter.unusedVariables false
/-- a command of the call's own -/
structure OwnC (W w : World) (a : CA) (c : Cm) : Prop where
  k : OwnB W w a.Ak c.key.length a.ck c.key
  v : OwnB W w a.Av c.val.length a.cv c.val
  o : OwnB W w a.Ao c.old.length a.co c.old
end Go.Proofs.Ytbgagmpifaakgaa

