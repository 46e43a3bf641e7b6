/- ObjRef ObjsC00 -/
import Derived.Test.YtaknfmionkkdjaaFM01
import Derived.Test.YtaknfmionkkdjaaFM02
import Derived.Test.YtaknfmionkkdjaaFM04
import Derived.Test.YtaknfmionkkdjaaFM06
import Derived.Test.YtaknfmionkkdjaaFM09
import Derived.Test.YtaknfmionkkdjaaFM10
import Derived.Test.YtaknfmionkkdjaaFM16
import Derived.Test.YtaknfmionkkdjaaFM28
import Derived.Deep.CutBlock
import Derived.Deep.DeepCutAuto
import Derived.Deep.DrawnRows
import Derived.Deep.QuietTactic
import Derived.Deep.RegionHeld3
import Derived.Deep.RegionLaw
import Derived.Deep.RegionWith
namespace Go.Proofs.Ytaknfmionkkdjaa
open Go.RowKit
set_option linter.unusedVariables false
section
variable {w wx : World} {b g : Nat} {a : OA} {s : Ob} {ca : CA} {c : Cm} {x0 x1 x2 : Value}
/-- a row of bytes of the call's own over the answer's variable -/
theorem own_res {A : Option Addr} {n cc : Nat} {l : List Nat} (h : OwnB w wx A n cc l) (hk : Blk wx g 65 #[x0, x1, x2]) (x y z : Value) : OwnB w (((wx.setCell ⟨g, 0, none⟩ x).setCell ⟨g, 1, none⟩ y).setCell ⟨g, 2, none⟩ z) A n cc l :=
  own_set_t (own_set_t (own_set_t h hk (by decide)) (hk.set_ 0 x) (by decide)) ((hk.set_ 0 x).set_ 1 y) (by decide)
end
theorem results_cells2 {P : Program} {fn : Func} {p q : Tmp} {ty ty' : TypeId} (h : fn.results = #[.cell p ty, .cell q ty']) (tmps : Array Value) (w : World) (g g' : Nat) (t t' : TypeId) (cs cs' : Array Value) (d d' : TypeDesc)
    (hp : tmps.getD p undef = .pointer (some ⟨g, 0, none⟩)) (hq : tmps.getD q undef = .pointer (some ⟨g', 0, none⟩)) (hg : Blk w g t cs) (hg' : Blk w g' t' cs')
    (hu : P.underlying ty = some d) (hd : (match d with | .struct _ | .array _ _ => true | _ => false) = true) (hi : (P.info? ty).map (·.size) = some cs.size)
    (hu' : P.underlying ty' = some d') (hd' : (match d' with | .struct _ | .array _ _ => true | _ => false) = true) (hi' : (P.info? ty').map (·.size) = some cs'.size) :
    (results fn tmps).run P w = .ok (.tuple #[.agg cs, .agg cs']) w := by
  have hp' : tmps[p]?.getD undef = .pointer (some ⟨g, 0, none⟩) := by simpa using hp
  have hq' : tmps[q]?.getD undef = .pointer (some ⟨g', 0, none⟩) := by simpa using hq
  simp [results, h, hp', hq', asAddr, run_loadVar_row w g t ty cs (0, 0) d hg hu hd hi, run_loadVar_row w g' t' ty' cs' (0, 0) d' hg' hu' hd' hi']
end Go.Proofs.Ytaknfmionkkdjaa

namespace Go.Proofs.Ytaknfmionkkdjaa
open Go.RowKit
set_option linter.unusedVariables false
def ApplyC8 : Prop := ∀ {W w : World} {a : OA} {ca : CA} {s : Ob} {c : Cm} {B B' : Nat}, s.Inv → c.Fits → RdO w B a s → RdC w B' ca c → Below W.heap.size W w →
  Calls Try.prog 51 #[objV a s, cmdV ca c] w (GotO W w (s.apply c))
end Go.Proofs.Ytaknfmionkkdjaa

