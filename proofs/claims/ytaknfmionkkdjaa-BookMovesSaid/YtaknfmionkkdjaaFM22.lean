/- MachC0 -/
import Derived.Test.YtaknfmionkkdjaaFM19
import Derived.Test.YtaknfmionkkdjaaFM21
namespace Go.Proofs.Ytaknfmionkkdjaa
open Go.RowKit
set_option linter.unusedVariables false
theorem Ls.eq_iff (a b : Ls) : a = b ↔ a.s = b.s ∧ a.q = b.q ∧ a.e = b.e ∧ a.v = b.v ∧ a.n = b.n := by
  constructor
  · rintro rfl; exact ⟨rfl, rfl, rfl, rfl, rfl⟩
  · rintro ⟨h1, h2, h3, h4, h5⟩; cases a; cases b; simp at h1 h2 h3 h4 h5; subst h1 h2 h3 h4 h5; rfl
instance : DecidableEq Ls := fun a b => decidable_of_iff _ (Ls.eq_iff a b).symm
theorem Mc.eq_iff (a b : Mc) : a = b ↔ a.o.reg = b.o.reg ∧ a.o.q = b.o.q ∧ a.o.lk = b.o.lk ∧ a.o.mp = b.o.mp ∧ a.t = b.t := by
  constructor
  · rintro rfl; exact ⟨rfl, rfl, rfl, rfl, rfl⟩
  · rintro ⟨h1, h2, h3, h4, h5⟩; obtain ⟨⟨_, _, _, _⟩, _⟩ := a; obtain ⟨⟨_, _, _, _⟩, _⟩ := b; simp at h1 h2 h3 h4 h5; subst h1 h2 h3 h4 h5; rfl
instance : DecidableEq Mc := fun a b => decidable_of_iff _ (Mc.eq_iff a b).symm
theorem En.eq_iff (a b : En) : a = b ↔ a.s = b.s ∧ a.q = b.q ∧ a.c.kind = b.c.kind ∧ a.c.who = b.c.who ∧ a.c.key = b.c.key ∧ a.c.val = b.c.val ∧ a.c.old = b.c.old := by
  constructor
  · rintro rfl; exact ⟨rfl, rfl, rfl, rfl, rfl, rfl, rfl⟩
  · rintro ⟨h1, h2, h3, h4, h5, h6, h7⟩; obtain ⟨_, _, ⟨_, _, _, _, _⟩⟩ := a; obtain ⟨_, _, ⟨_, _, _, _, _⟩⟩ := b; simp at h1 h2 h3 h4 h5 h6 h7; subst h1 h2 h3 h4 h5 h6 h7; rfl
instance : DecidableEq En := fun a b => decidable_of_iff _ (En.eq_iff a b).symm
def StepC10 : Prop := ∀ {W w : World} {a : MA} {ca : CA} {m : Mc} {e : En} {B B' : Nat}, m.Ok → e.c.Fits → RdM w B a m → RdC w B' ca e.c → Below W.heap.size W w →
  Calls Try.prog 42 #[machV a m, entV ca e] w (GotM W w (m.step e))
theorem StepC10.is (h : StepC10) {W w : World} {a : MA} {ca : CA} {m : Mc} {e : En} {B B' : Nat} {r : MAns} (he : m.step e = r) (hM : m.Ok) (hc : e.c.Fits) (hr : RdM w B a m) (hr' : RdC w B' ca e.c) (hB : Below W.heap.size W w) :
    Calls Try.prog 42 #[machV a m, entV ca e] w (GotM W w r) := by subst he; exact h hM hc hr hr' hB
end Go.Proofs.Ytaknfmionkkdjaa

