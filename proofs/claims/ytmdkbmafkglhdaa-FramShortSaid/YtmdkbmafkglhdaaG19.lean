/- MachRefG -/
import Derived.Test.YtmdkbmafkglhdaaG03
import Derived.Test.YtmdkbmafkglhdaaG10
import Derived.Test.YtmdkbmafkglhdaaG15
import Derived.Test.YtmdkbmafkglhdaaG18
import Derived.Deep.RegionHeld3
namespace Go.Proofs.Ytmdkbmafkglhdaa
open Go.RowKit
set_option linter.unusedVariables false
/-- a command of the call's own -/
structure OwnC (W w : World) (a : CA) (c : Cm) : Prop where
  k : OwnB W w a.Ak c.key.length a.ck c.key
  v : OwnB W w a.Av c.val.length a.cv c.val
  o : OwnB W w a.Ao c.old.length a.co c.old
theorem OwnC.rd {W w : World} {a : CA} {c : Cm} (h : OwnC W w a c) : RdC w w.heap.size a c := ⟨Rd.own_ h.k, Rd.own_ h.v, Rd.own_ h.o⟩
/-- an own row of bytes, over what a reader turns -/
theorem own_read {w wx wy : World} {A : Option Addr} {n c b : Nat} {l : List Nat} (h : OwnB w wx A n c l) (ho : Only b wx wy) (hb : b < w.heap.size) : OwnB w wy A n c l := own_old h ho (Old.some hb)
end Go.Proofs.Ytmdkbmafkglhdaa

