/- MesgRow -/
import Derived.Test.YtbgagmpifaakgaaTF04
import Derived.Test.YtbgagmpifaakgaaTF05
import Derived.Test.YtbgagmpifaakgaaTF06
import Derived.Test.YtbgagmpifaakgaaTF07
import Derived.Test.YtbgagmpifaakgaaTF08
import Derived.Test.YtbgagmpifaakgaaTF11
import Derived.Test.YtbgagmpifaakgaaTF12
import Derived.Test.YtbgagmpifaakgaaTF15
import Derived.Test.YtbgagmpifaakgaaTF24
import Derived.Test.YtbgagmpifaakgaaTF25
import Derived.Test.YtbgagmpifaakgaaTF26
import Derived.Test.YtbgagmpifaakgaaTF27
import Derived.Test.YtbgagmpifaakgaaTF28
import Derived.BigQuiet
import Derived.Deep.CutBlock
import Derived.Deep.DeepCutAuto
import Derived.Deep.DrawnRows
import Derived.Deep.Matrix
import Derived.Deep.QuietTactic
import Derived.Deep.RegionHeld3
import Derived.Deep.RegionLaw
import Derived.Deep.RegionWith
import Derived.Laws.CopyOwn
import Derived.WalkSmall
namespace Go.Proofs.Ytbgagmpifaakgaa
open Go.RowKit
set_option linter.unusedVariables false
section
variable {W w wx : World} {b g k : Nat} {t e : TypeId} {old cs c : Array Value}
theorem only_row (w : World) (g : Nat) (cs : Array Value) : Only g w (w.setRow g cs) :=
  ⟨rfl, rfl, rfl, by simp, fun k hk hne => setRow_other w g k cs (by rintro rfl; exact hne rfl)⟩
theorem Blk.row (h : Blk w g t old) (cs : Array Value) : Blk (w.setRow g cs) g t cs := setRow_heap w g old cs t (0, 0) h
theorem own_row_t {base size n : Nat} {v : Value} {xs : List Value} (h : w.ownsRow base e size v n xs) (hb : Blk w b t old) (hne : e ≠ t) : (w.setRow b cs).ownsRow base e size v n xs := by
  refine h.kept (only_row w b cs) ?_
  rcases h.2 with ⟨h1, _⟩ | ⟨g, cap, cur, h1, _, hh, _⟩
  · rw [h1]; exact .inl rfl
  · rw [h1]
    refine .inr ?_
    show some g ≠ some b
    intro h0
    injection h0 with h0
    subst h0
    have hb' : w.heap[g]? = some (.cells old t (0, 0)) := hb
    rw [hb'] at hh
    injection hh with hh
    injection hh with _ h3 _
    exact hne h3.symm
end
end Go.Proofs.Ytbgagmpifaakgaa

