/- MesgRSameT -/
import Derived.Test.YtbgagmpifaakgaaTK46
namespace Go.Proofs.Ytbgagmpifaakgaa
open Go.RowKit
theorem refSame11_eq (w : World) {a a' : GA} {m m' : Mg} {B B' : Nat} (_hEq : m = m') (hM : m.Wide) (hM' : m'.Wide) (h : RdG w B a m) (h' : RdG w B' a' m') : Calls Try.prog 13 #[msgV a m, msgV a' m'] w fun e w' => e = .returned (.bool (decide (m = m'))) ∧ Below w.heap.size w w' := refSame11 w hM hM' h h'
end Go.Proofs.Ytbgagmpifaakgaa

