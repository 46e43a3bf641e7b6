/- MesgMath -/
import Derived.Test.YtjindkeojhihdaaVT30
import Derived.Test.YtjindkeojhihdaaVT31
namespace Go.Proofs.Ytjindkeojhihdaa
open Go.RowKit
set_option linter.unusedVariables false
/-- a message -/
structure Mg where
  kind : Int
  frm : Int
  dst : Int
  view : Int
  inst : Int
  len : Int
  has : Bool
  mem : Int
  src : Int
  pos : Int
  tot : Int
  data : List Nat
  hop : Int
  seq : Int
  hav : List Int
  nee : List Int
  idx : Int
  ent : En
def Mg.zero : Mg := ⟨0, 0, 0, 0, 0, 0, false, 0, 0, 0, 0, [], 0, 0, [], [], 0, En.zero⟩
-- back
end Go.Proofs.Ytjindkeojhihdaa

