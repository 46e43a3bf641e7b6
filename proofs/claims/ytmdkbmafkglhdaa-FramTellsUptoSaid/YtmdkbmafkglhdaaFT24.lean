/- MapsRef MapsC0 KeysF -/
import Derived.Test.YtmdkbmafkglhdaaFT03
import Derived.Test.YtmdkbmafkglhdaaFT04
import Derived.Test.YtmdkbmafkglhdaaFT06
import Derived.Test.YtmdkbmafkglhdaaFT23
import Derived.BigQuiet
import Derived.Deep.DeepCutAuto
import Derived.Deep.DrawnRows
import Derived.Deep.QuietTactic
import Derived.Deep.RegionHeld3
import Derived.Deep.RegionLaw
import Derived.Deep.RegionWith
import Derived.Deep.CutBlock
import Derived.Laws.DeepStrings4
namespace Go.Proofs.Ytmdkbmafkglhdaa
open Go.RowKit
set_option linter.unusedVariables false
theorem belowN_ {B : Nat} {a w : World} (h : Below B a w) (k : Nat) : Below B a (w.drewN k) := h.trans ⟨rfl, rfl, rfl, Nat.le_refl _, fun _ _ => rfl⟩
end Go.Proofs.Ytmdkbmafkglhdaa

namespace Go.Proofs.Ytmdkbmafkglhdaa
open Go.RowKit
set_option linter.unusedVariables false
theorem sb_len (s : ByteArray) : (sb s).length = s.size := by unfold sb; rw [List.length_map, Array.length_toList]; rfl
end Go.Proofs.Ytmdkbmafkglhdaa

namespace Go.Proofs.Ytmdkbmafkglhdaa
open Go.RowKit
set_option linter.unusedVariables false
/-- a row of bytes in a block that was made behind w -/
theorem Rd.of_stringAt (w : World) (s : ByteArray) (cap : Nat) (t : TypeId) (mark : Nat × Nat) {g : Nat} (hg : w.heap.size = g) : Rd (w.alloc (.cells (bytesRow s cap) t mark)) (w.alloc (.cells (bytesRow s cap) t mark)).heap.size (some ⟨g, 0, none⟩) (sb s).length (bv (sb s)) := by
  subst hg; rw [sb_len]; exact (Rd.of_string w s cap t mark).fit
end Go.Proofs.Ytmdkbmafkglhdaa

