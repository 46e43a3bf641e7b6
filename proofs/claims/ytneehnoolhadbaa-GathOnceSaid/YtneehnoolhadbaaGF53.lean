/- MesgRSameT -/
import Derived.Test.YtneehnoolhadbaaGF52
namespace Go.Proofs.Ytneehnoolhadbaa
open Go.RowKit
theorem refSame11_eq (w : World) {a a' : GA} {m m' : Mg} {B B' : Nat} (_hEq : m = m') (hM : m.Wide) (hM' : m'.Wide) (h : RdG w B a m) (h' : RdG w B' a' m') : Calls Try.prog 23 #[msgV a m, msgV a' m'] w fun e w' => e = .returned (.bool (decide (m = m'))) ∧ Below w.heap.size w w' := refSame11 w hM hM' h h'
end Go.Proofs.Ytneehnoolhadbaa

