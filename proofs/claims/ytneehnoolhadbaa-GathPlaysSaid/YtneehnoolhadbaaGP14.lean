/- ObjKit -/
import Derived.Test.YtneehnoolhadbaaGP03
import Derived.Test.YtneehnoolhadbaaGP04
import Derived.Test.YtneehnoolhadbaaGP11
import Derived.BigQuiet
import Derived.Deep.DeepCutAuto
import Derived.Deep.DrawnRows
import Derived.Deep.Matrix
import Derived.Deep.QuietTactic
import Derived.Deep.RegionHeld3
import Derived.Deep.RegionWith
namespace Go.Proofs.Ytneehnoolhadbaa
open Go.RowKit
set_option linter.unusedVariables false
/-- a command -/
structure Cm where
  kind : Int
  who : Int
  key : List Nat
  val : List Nat
  old : List Nat
/-- where a command lies -/
structure CA where
  Ak : Option Addr
  ck : Nat
  Av : Option Addr
  cv : Nat
  Ao : Option Addr
  co : Nat
def cmdC (a : CA) (c : Cm) : Array Value := #[.int .i64 c.kind, .int .i64 c.who, .slice a.Ak c.key.length a.ck, .slice a.Av c.val.length a.cv, .slice a.Ao c.old.length a.co]
def cmdV (a : CA) (c : Cm) : Value := .agg (cmdC a c)
/-- a command that reads -/
structure RdC (w : World) (B : Nat) (a : CA) (c : Cm) : Prop where
  rk : Rd w B a.Ak c.key.length (bv c.key)
  rv : Rd w B a.Av c.val.length (bv c.val)
  ro : Rd w B a.Ao c.old.length (bv c.old)
section
variable {W w w' : World} {B : Nat} {ca : CA} {c : Cm}
theorem RdC.below (h : RdC w B ca c) (hb : Below B w w') : RdC w' B ca c := ⟨h.rk.below hb, h.rv.below hb, h.ro.below hb⟩
theorem RdC.fit (h : RdC w B ca c) : RdC w w.heap.size ca c := ⟨h.rk.fit, h.rv.fit, h.ro.fit⟩
end
/-- what a command keeps -/
structure Cm.Fits (c : Cm) : Prop where
  key : c.key.length ≤ 100 ∧ ∀ x ∈ c.key, x < 256
  val : c.val.length ≤ 100 ∧ ∀ x ∈ c.val, x < 256
  old : c.old.length ≤ 100 ∧ ∀ x ∈ c.old, x < 256
/-- .. of five -/
theorem five {w : World} {b : Nat} {t : TypeId} {x y z u v : Value} (h : Blk w b t #[x, y, z, u, v]) :
    w.cell? ⟨b, 0, none⟩ = some x ∧ w.cell? ⟨b, 1, none⟩ = some y ∧ w.cell? ⟨b, 2, none⟩ = some z ∧ w.cell? ⟨b, 3, none⟩ = some u ∧ w.cell? ⟨b, 4, none⟩ = some v :=
  ⟨h.cell 0, h.cell 1, h.cell 2, h.cell 3, h.cell 4⟩
end Go.Proofs.Ytneehnoolhadbaa

