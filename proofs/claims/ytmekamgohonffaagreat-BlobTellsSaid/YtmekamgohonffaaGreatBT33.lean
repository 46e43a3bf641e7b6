/- MesgKit -/
import Derived.Test.YtmekamgohonffaaGreatBT08
import Derived.Test.YtmekamgohonffaaGreatBT20
import Derived.Test.YtmekamgohonffaaGreatBT28
namespace Go.Proofs.YtmekamgohonffaaGreat
open Go.RowKit
set_option linter.unusedVariables false
section
variable {W w w' : World} {B : Nat} {c : Cm} {ca : CA}
theorem OwnC.below (h : OwnC W w ca c) (hb : Below w.heap.size w w') : OwnC W w' ca c := ⟨own_below h.k hb, own_below h.v hb, own_below h.o hb⟩
theorem OwnC.of (hs : W.heap.size <= w.heap.size) (h : OwnC w w' ca c) : OwnC W w' ca c := ⟨own_of hs h.k, own_of hs h.v, own_of hs h.o⟩
end
end Go.Proofs.YtmekamgohonffaaGreat
