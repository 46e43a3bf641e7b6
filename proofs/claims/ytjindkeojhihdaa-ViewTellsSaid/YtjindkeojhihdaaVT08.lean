/- StepKit -/
import Derived.Test.YtjindkeojhihdaaVT07
import Derived.Deep.RegionLaw
namespace Go.Proofs.Ytjindkeojhihdaa
open Go.RowKit
set_option linter.unusedVariables false
theorem Blk.apart_own {w w' : World} {g n c base' size' : Nat} {t e' : TypeId} {cs : Array Value} {A' : Option Addr} {xs' : List Value} (h : Blk w g t cs) (ho : w.ownsRow base' e' size' (.slice A' n c) n xs') (hne : t ≠ e') (hg : w.grownBy w' (Value.slice A' n c).ownBlock) : Blk w' g t cs := by
  refine h.grown hg ?_
  rcases own_blk ho with ⟨q1, _, _⟩ | ⟨g', cur', q1, _, hk'⟩
  · rw [q1]; intro h0; cases h0
  · rw [q1]; intro h0
    have h3 : g = g' := by simpa [Value.ownBlock] using h0
    exact Blk.apart h hk' hne h3
end Go.Proofs.Ytjindkeojhihdaa

