/- SessC00 MachMath -/
import Derived.Test.YtmekamgohonffaaBF09
import Derived.Test.YtmekamgohonffaaBF10
import Derived.Test.YtmekamgohonffaaBF23
namespace Go.Proofs.Ytmekamgohonffaa
open Go.RowKit
set_option linter.unusedVariables false
/-- a table that is well -/
structure Tb.Ok (ls : List Ls) : Prop where
  rises : Tb.Rises ls
  len : ls.length ≤ 1000
  each : ∀ l ∈ ls, Tb.named l.s l.q ∧ l.v.length ≤ 16 ∧ ∀ x ∈ l.v, x < 256
theorem Tb.Ok.nil : Tb.Ok [] := ⟨List.Pairwise.nil, by simp, by intro l h; cases h⟩
theorem Tb.Ok.bytes {ls : List Ls} (h : Tb.Ok ls) : BytesLs ls := fun l hl => (h.each l hl).2.2
end Go.Proofs.Ytmekamgohonffaa

namespace Go.Proofs.Ytmekamgohonffaa
open Go.RowKit
set_option linter.unusedVariables false
/-- a machine: objects, and the table -/
structure Mc where
  o : Ob
  t : List Ls
/-- an entry: session, number, command -/
structure En where
  s : Int
  q : Int
  c : Cm
def Mc.zero : Mc := ⟨⟨[], [], [], []⟩, []⟩
/-- a machine that keeps its bounds -/
structure Mc.Ok (m : Mc) : Prop where
  o : m.o.Inv
  lk : ∀ z ∈ m.o.lk, 0 ≤ z ∧ z ≤ 999
  t : Tb.Ok m.t
  t8 : m.t.length ≤ 8
  te : ∀ l ∈ m.t, 0 ≤ l.e ∧ l.e ≤ 10 ∧ -1 ≤ l.n ∧ l.n ≤ 1073741824
theorem Mc.Ok.zero : Mc.zero.Ok := ⟨Ob.Inv.nil, fun z h => (by cases h), Tb.Ok.nil, by decide, fun l h => (by cases h)⟩
end Go.Proofs.Ytmekamgohonffaa

