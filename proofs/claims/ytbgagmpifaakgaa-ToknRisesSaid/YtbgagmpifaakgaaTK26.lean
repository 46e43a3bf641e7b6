/- MachRefG -/
import Derived.Test.YtbgagmpifaakgaaTK04
import Derived.Test.YtbgagmpifaakgaaTK10
import Derived.Test.YtbgagmpifaakgaaTK11
import Derived.Test.YtbgagmpifaakgaaTK25
import Derived.Deep.RegionHeld3
namespace Go.Proofs.Ytbgagmpifaakgaa
open Go.RowKit
set_option linter.unusedVariables false
/-- a command of the call's own -/
structure OwnC (W w : World) (a : CA) (c : Cm) : Prop where
  k : OwnB W w a.Ak c.key.length a.ck c.key
  v : OwnB W w a.Av c.val.length a.cv c.val
  o : OwnB W w a.Ao c.old.length a.co c.old
theorem OwnC.rd {W w : World} {a : CA} {c : Cm} (h : OwnC W w a c) : RdC w w.heap.size a c := ⟨Rd.own_ h.k, Rd.own_ h.v, Rd.own_ h.o⟩
end Go.Proofs.Ytbgagmpifaakgaa

