/- The objects: what the code owes; what Apply turns (plain). -/
import Derived.Test.YtcmjpjhaaookfaaObjRef
import Derived.Test.YtcmjpjhaaookfaaObjSame
namespace Go.Proofs.Ytcmjpjhaaookfaa
open Go.RowKit
set_option linter.unusedVariables false
def ApplyC8 : Prop := ∀ {W w : World} {a : OA} {ca : CA} {s : Ob} {c : Cm} {B B' : Nat}, s.Inv → c.Fits → RdO w B a s → RdC w B' ca c → Below W.heap.size W w →
  Calls Try.prog 12 #[objV a s, cmdV ca c] w (GotO W w (s.apply c))
def SameC8 : Prop := ∀ (w : World) {a a' : OA} {s s' : Ob} {B B' : Nat}, s.Inv → s'.Inv → RdO w B a s → RdO w B' a' s' →
  Calls Try.prog 19 #[objV a s, objV a' s'] w fun e w' => e = .returned (.bool (s.same s')) ∧ Below w.heap.size w w'
def SameResC8 : Prop := ∀ (w : World) {A A' : Option Addr} {n c n' c' B B' : Nat} {l l' : List Nat} (e e' N N' : Int), (∀ x ∈ l, x < 256) → (∀ x ∈ l', x < 256) → Rd w B A n (bv l) → Rd w B' A' n' (bv l') →
  Calls Try.prog 21 #[resV e A n c N, resV e' A' n' c' N'] w fun en w' => en = .returned (.bool (decide (e = e') && decide (l = l') && decide (N = N'))) ∧ Below w.heap.size w w'
/-- nothing turned, or one alone, and no error -/
theorem Ob.apart (s : Ob) (c : Cm) :
    ((s.apply c).s = s) ∨ (s.apply c).e = 0 ∧
      (((s.apply c).s.q = s.q ∧ (s.apply c).s.lk = s.lk ∧ (s.apply c).s.mp = s.mp ∧ (c.kind = 2 ∨ c.kind = 3)) ∨
       ((s.apply c).s.reg = s.reg ∧ (s.apply c).s.lk = s.lk ∧ (s.apply c).s.mp = s.mp ∧ (c.kind = 4 ∨ c.kind = 5)) ∨
       ((s.apply c).s.reg = s.reg ∧ (s.apply c).s.q = s.q ∧ (s.apply c).s.mp = s.mp ∧ (c.kind = 6 ∨ c.kind = 7)) ∨
       ((s.apply c).s.reg = s.reg ∧ (s.apply c).s.q = s.q ∧ (s.apply c).s.lk = s.lk ∧ (c.kind = 9 ∨ c.kind = 11))) := by
  refine Ob.apply_ind (P := fun r => (r.s = s) ∨ r.e = 0 ∧ ((r.s.q = s.q ∧ r.s.lk = s.lk ∧ r.s.mp = s.mp ∧ (c.kind = 2 ∨ c.kind = 3)) ∨ (r.s.reg = s.reg ∧ r.s.lk = s.lk ∧ r.s.mp = s.mp ∧ (c.kind = 4 ∨ c.kind = 5)) ∨ (r.s.reg = s.reg ∧ r.s.q = s.q ∧ r.s.mp = s.mp ∧ (c.kind = 6 ∨ c.kind = 7)) ∨ (r.s.reg = s.reg ∧ r.s.q = s.q ∧ r.s.lk = s.lk ∧ (c.kind = 9 ∨ c.kind = 11)))) s c ?_ ?_ ?_ ?_ ?_ ?_ ?_ ?_ ?_ ?_ ?_ ?_
  · intro h; exact .inl rfl
  · intro h
    by_cases h1 : c.val.length ≤ 16
    · exact .inr ⟨by simp [h1], .inl ⟨rfl, rfl, rfl, .inl h⟩⟩
    · exact .inl (by simp [h1])
  · intro h
    by_cases h1 : casE s.reg c.old c.val = 0
    · exact .inr ⟨h1, .inl ⟨rfl, rfl, rfl, .inr h⟩⟩
    · exact .inl (by have : casS s.reg c.old c.val = s.reg := (by unfold casE at h1; unfold casS; split <;> simp_all); rw [this])
  · intro h
    by_cases h1 : pushE s.q c.val = 0
    · exact .inr ⟨h1, .inr (.inl ⟨rfl, rfl, rfl, .inl h⟩)⟩
    · exact .inl (by have : pushS s.q c.val = s.q := (by unfold pushE at h1; unfold pushS; split <;> simp_all); rw [this])
  · intro h
    by_cases h1 : popE s.q = 0
    · exact .inr ⟨h1, .inr (.inl ⟨rfl, rfl, rfl, .inr h⟩)⟩
    · exact .inl (by have : s.q.tail = s.q := (by unfold popE at h1; cases hq : s.q <;> simp_all); rw [this])
  · intro h
    by_cases h1 : takeE s.lk c.who = 0
    · exact .inr ⟨h1, .inr (.inr (.inl ⟨rfl, rfl, rfl, .inl h.1⟩))⟩
    · exact .inl (by have : takeS s.lk c.who = s.lk := (by unfold takeE at h1; unfold takeS; split <;> simp_all); rw [this])
  · intro h
    by_cases h1 : freeE s.lk c.who = 0
    · exact .inr ⟨h1, .inr (.inr (.inl ⟨rfl, rfl, rfl, .inr h.1⟩))⟩
    · exact .inl (by have : s.lk.erase c.who = s.lk := (by unfold freeE at h1; refine List.erase_of_not_mem ?_; intro hm; simp_all); rw [this])
  · intro h; exact .inl rfl
  · intro h
    by_cases h1 : Mp.putE s.mp c.key c.val = 0
    · exact .inr ⟨h1, .inr (.inr (.inr ⟨rfl, rfl, rfl, .inl h⟩))⟩
    · exact .inl (by have : Mp.putS s.mp c.key c.val = s.mp := (by unfold Mp.putE at h1; unfold Mp.putS; split <;> simp_all); rw [this])
  · intro h; exact .inl rfl
  · intro h
    by_cases h1 : Mp.getE s.mp c.key = 0
    · exact .inr ⟨h1, .inr (.inr (.inr ⟨rfl, rfl, rfl, .inr h⟩))⟩
    · exact .inl (by have : Mp.delS s.mp c.key = s.mp := (by unfold Mp.getE at h1; unfold Mp.delS; split <;> simp_all); rw [this])
  · exact .inl rfl
/-- the same, as the law asks -/
theorem Ob.apart4 (s : Ob) (c : Cm) :
    (decide (s.reg = (s.apply c).s.reg) = true ∧ decide (s.q = (s.apply c).s.q) = true ∧ decide (s.lk = (s.apply c).s.lk) = true ∧ decide (s.mp = (s.apply c).s.mp) = true) ∨
    (s.apply c).e = 0 ∧
      ((decide (s.reg = (s.apply c).s.reg) = false ∧ decide (s.q = (s.apply c).s.q) = true ∧ decide (s.lk = (s.apply c).s.lk) = true ∧ decide (s.mp = (s.apply c).s.mp) = true ∧ (c.kind = 2 ∨ c.kind = 3)) ∨
       (decide (s.reg = (s.apply c).s.reg) = true ∧ decide (s.q = (s.apply c).s.q) = false ∧ decide (s.lk = (s.apply c).s.lk) = true ∧ decide (s.mp = (s.apply c).s.mp) = true ∧ (c.kind = 4 ∨ c.kind = 5)) ∨
       (decide (s.reg = (s.apply c).s.reg) = true ∧ decide (s.q = (s.apply c).s.q) = true ∧ decide (s.lk = (s.apply c).s.lk) = false ∧ decide (s.mp = (s.apply c).s.mp) = true ∧ (c.kind = 6 ∨ c.kind = 7)) ∨
       (decide (s.reg = (s.apply c).s.reg) = true ∧ decide (s.q = (s.apply c).s.q) = true ∧ decide (s.lk = (s.apply c).s.lk) = true ∧ decide (s.mp = (s.apply c).s.mp) = false ∧ (c.kind = 9 ∨ c.kind = 11))) := by
  have hA := s.apart c
  generalize s.apply c = r at hA ⊢
  obtain ⟨t, e, v, n⟩ := r
  rcases hA with h | ⟨h0, h | h | h | h⟩
  · left; subst h; simp
  · by_cases h1 : s.reg = t.reg
    · left; simp_all
    · right; refine ⟨h0, .inl ?_⟩; simp_all
  · by_cases h1 : s.q = t.q
    · left; simp_all
    · right; refine ⟨h0, .inr (.inl ?_)⟩; simp_all
  · by_cases h1 : s.lk = t.lk
    · left; simp_all
    · right; refine ⟨h0, .inr (.inr (.inl ?_))⟩; simp_all
  · by_cases h1 : s.mp = t.mp
    · left; simp_all
    · right; refine ⟨h0, .inr (.inr (.inr ?_))⟩; simp_all
end Go.Proofs.Ytcmjpjhaaookfaa
