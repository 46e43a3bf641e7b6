/- KeysF -/
import Derived.Test.YtjindkeojhihdaaVT41
namespace Go.Proofs.Ytjindkeojhihdaa
open Go.RowKit
set_option linter.unusedVariables false
/-- a row of bytes in a block that was made behind w -/
theorem Rd.of_stringAt (w : World) (s : ByteArray) (cap : Nat) (t : TypeId) (mark : Nat × Nat) {g : Nat} (hg : w.heap.size = g) : Rd (w.alloc (.cells (bytesRow s cap) t mark)) (w.alloc (.cells (bytesRow s cap) t mark)).heap.size (some ⟨g, 0, none⟩) (sb s).length (bv (sb s)) := by
  subst hg; rw [sb_len]; exact (Rd.of_string w s cap t mark).fit
end Go.Proofs.Ytjindkeojhihdaa

