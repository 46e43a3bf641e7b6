/- GathOnceWalk ViewRowIn -/
import Derived.Test.YtneehnoolhadbaaGP12
import Derived.Test.YtneehnoolhadbaaGP13
import Derived.Test.YtneehnoolhadbaaGP35
import Derived.Test.YtneehnoolhadbaaGP38
import Derived.BigQuiet
import Derived.BigRegion
import Derived.Deep.CutBlock
import Derived.Deep.DeepCutAuto
namespace Go.Proofs.Ytneehnoolhadbaa
open Go.RowKit
set_option linter.unusedVariables false
set_option linter.unusedSimpArgs false
theorem Gm.msg_rd (w : World) (B : Nat) (g : Gm) : RdG w B GA.zero g.msg := by
  have h := RdG.zero w B
  unfold Gm.msg
  cases g.com with
  | none => exact h
  | some c => exact ⟨h.d, h.h, h.n, h.c, h.hl, h.nl⟩
theorem Gm.msg_wide (g : Gm) : g.msg.Wide := by
  have h := Mg.Wide.zero
  unfold Gm.msg
  cases g.com with
  | none => exact h
  | some c => exact ⟨h.1, h.2, h.3, h.4⟩
end Go.Proofs.Ytneehnoolhadbaa

namespace Go.Proofs.Ytneehnoolhadbaa
open Go.RowKit
set_option linter.unusedVariables false
/-- what a proof's frame tells of it -/
def IsRowV (w : World) (a : Option Addr) (len cap : Nat) (es : List (List Value)) : Prop := RdV w w.heap.size a len es ∧ len ≤ cap ∧ cap ≤ maxLen
theorem wf_lo {z : Int} (h : (Lit.int .i64 z).wf = true) : -9223372036854775808 ≤ z := by
  simp [Lit.wf] at h
  have e : IntKind.i64.min = -9223372036854775808 := by rfl
  omega
theorem addr_addV (b o m i : Nat) : ((⟨b, o, none⟩ : Addr).add m).add i = ⟨b, o + m + i, none⟩ := by
  rw [Go.Deep.add_add]; unfold Addr.add; split <;> simp_all <;> omega
end Go.Proofs.Ytneehnoolhadbaa

