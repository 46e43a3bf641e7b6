/- QKit -/
import Derived.Test.YtmdkbmafkglhdaaFT03
import Derived.Deep.Matrix
namespace Go.Proofs.Ytmdkbmafkglhdaa
open Go.RowKit
set_option linter.unusedVariables false

/-- the slices vs read as the rows qs, in blocks below B -/
structure Cells (w : World) (B : Nat) (vs : List Value) (qs : List (List Nat)) : Prop where
  len : vs.length = qs.length
  cell : ∀ (i : Nat) (l : List Nat), qs[i]? = some l → ∃ A c, vs[i]? = some (.slice A l.length c) ∧ Rd w B A l.length (bv l)
section
variable {w w' : World} {B B' n : Nat} {A : Option Addr} {vs : List Value} {qs : List (List Nat)}
end
end Go.Proofs.Ytmdkbmafkglhdaa

