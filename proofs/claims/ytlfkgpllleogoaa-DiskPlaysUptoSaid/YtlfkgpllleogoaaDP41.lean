/- MsgRow -/
import Derived.Test.YtlfkgpllleogoaaDP07
import Derived.Test.YtlfkgpllleogoaaDP12
import Derived.Test.YtlfkgpllleogoaaDP14
import Derived.Test.YtlfkgpllleogoaaDP19
import Derived.Test.YtlfkgpllleogoaaDP20
import Derived.BigQuiet
import Derived.Deep.CutBlock
import Derived.Deep.DeepCutAuto
import Derived.Deep.DrawnRows
import Derived.Deep.Matrix
import Derived.Deep.QuietTactic
import Derived.Deep.RegionHeld3
import Derived.Deep.RegionLaw
import Derived.Deep.RegionWith
import Derived.Deep.Slices
import Derived.WideShapes
namespace Go.Proofs.Ytlfkgpllleogoaa
open Go.RowKit
set_option linter.unusedVariables false
/-- a row's length, as its datum has it -/
def slen {H : Type} : DataW H → Nat
  | .slice e _ => e.length
  | _ => 0
open Go.ChangeShapes Go.WideShapes Go.ChangeAt in
theorem trod_part {H : Type} {enc : TypeId × Value → H} {P : Program} {w : World} {t : TypeId} {n o c : Nat} {vs us : List Value} {y : Option (DataW H × List MemPlace)} (h : DataW.trod enc P w 0 (fun _ => true) true n t ((vs.drop o).take (P.cellsOf t)) = y) (hc : P.cellsOf t = c) (hu : (vs.drop o).take c = us) : DataW.trod enc P w 0 (fun _ => true) true n t us = y := by
  subst hu hc; exact h
end Go.Proofs.Ytlfkgpllleogoaa

