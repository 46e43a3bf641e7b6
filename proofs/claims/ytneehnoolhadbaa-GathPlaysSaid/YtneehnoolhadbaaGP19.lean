/- MachC0 MesgMath -/
import Derived.Test.YtneehnoolhadbaaGP17
import Derived.Test.YtneehnoolhadbaaGP18
namespace Go.Proofs.Ytneehnoolhadbaa
open Go.RowKit
set_option linter.unusedVariables false
theorem En.eq_iff (a b : En) : a = b ↔ a.s = b.s ∧ a.q = b.q ∧ a.c.kind = b.c.kind ∧ a.c.who = b.c.who ∧ a.c.key = b.c.key ∧ a.c.val = b.c.val ∧ a.c.old = b.c.old := by
  constructor
  · rintro rfl; exact ⟨rfl, rfl, rfl, rfl, rfl, rfl, rfl⟩
  · rintro ⟨h1, h2, h3, h4, h5, h6, h7⟩; obtain ⟨_, _, ⟨_, _, _, _, _⟩⟩ := a; obtain ⟨_, _, ⟨_, _, _, _, _⟩⟩ := b; simp at h1 h2 h3 h4 h5 h6 h7; subst h1 h2 h3 h4 h5 h6 h7; rfl
instance : DecidableEq En := fun a b => decidable_of_iff _ (En.eq_iff a b).symm
end Go.Proofs.Ytneehnoolhadbaa

namespace Go.Proofs.Ytneehnoolhadbaa
open Go.RowKit
set_option linter.unusedVariables false
/-- a message -/
structure Mg where
  kind : Int
  frm : Int
  dst : Int
  view : Int
  inst : Int
  len : Int
  has : Bool
  mem : Int
  src : Int
  pos : Int
  tot : Int
  data : List Nat
  hop : Int
  seq : Int
  hav : List Int
  nee : List Int
  idx : Int
  ent : En
def Mg.zero : Mg := ⟨0, 0, 0, 0, 0, 0, false, 0, 0, 0, 0, [], 0, 0, [], [], 0, En.zero⟩
theorem Mg.eq_iff (a b : Mg) : a = b ↔ a.kind = b.kind ∧ a.frm = b.frm ∧ a.dst = b.dst ∧ a.view = b.view ∧ a.inst = b.inst ∧ a.len = b.len ∧ a.has = b.has ∧ a.mem = b.mem ∧ a.src = b.src ∧ a.pos = b.pos ∧ a.tot = b.tot ∧ a.data = b.data ∧ a.hop = b.hop ∧ a.seq = b.seq ∧ a.hav = b.hav ∧ a.nee = b.nee ∧ a.idx = b.idx ∧ a.ent = b.ent := by
  constructor
  · rintro rfl; exact ⟨rfl, rfl, rfl, rfl, rfl, rfl, rfl, rfl, rfl, rfl, rfl, rfl, rfl, rfl, rfl, rfl, rfl, rfl⟩
  · rintro ⟨h1, h2, h3, h4, h5, h6, h7, h8, h9, h10, h11, h12, h13, h14, h15, h16, h17, h18⟩; cases a; cases b; simp at h1 h2 h3 h4 h5 h6 h7 h8 h9 h10 h11 h12 h13 h14 h15 h16 h17 h18; subst h1 h2 h3 h4 h5 h6 h7 h8 h9 h10 h11 h12 h13 h14 h15 h16 h17 h18; rfl
instance : DecidableEq Mg := fun a b => decidable_of_iff _ (Mg.eq_iff a b).symm
-- back
end Go.Proofs.Ytneehnoolhadbaa

