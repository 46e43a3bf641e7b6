/- BookAw0 -/
import Derived.Test.YtaknfmionkkdjaaGreatFO03
import Derived.Test.YtaknfmionkkdjaaGreatFO48
import Derived.Test.YtaknfmionkkdjaaGreatFO49
namespace Go.Proofs.YtaknfmionkkdjaaGreat
open Go.RowKit
set_option linter.unusedVariables false
/-- one of a row of what was done -/
theorem RdD9.at {w : World} {A : Option Addr} {n k : Nat} {ds : List Bk.Dn} (h : RdD9 w A n ds) (hk : k < n) : ∃ b o d a A1 c1, A = some ⟨b, o, none⟩ ∧ ds[k]? = some d ∧ w.rangeAt b (o + k * 11) (doneL a A1 c1 d) ∧ RdC w w.heap.size a d.e.c ∧ Rd w w.heap.size A1 d.r.v.length (bv d.r.v) := by
  have hlen := h.length
  obtain ⟨vs, h1, h2⟩ := h
  obtain ⟨b, o, e, _, hc⟩ := h1.2 (by omega)
  obtain ⟨d, hd⟩ : ∃ d, ds[k]? = some d := ⟨_, List.getElem?_eq_getElem (by omega)⟩
  obtain ⟨a, A1, c1, e1, r1, r2⟩ := h2.cell k d hd
  refine ⟨b, o, d, a, A1, c1, e, hd, fun j v hv => ?_, r1, r2⟩
  have hj := doneL_lt hv
  rw [Nat.add_assoc, hc _ (by omega), e1 j v hv]
namespace Bk
/-- the entry of a number -/
def ae (n : Nat) : En := ⟨1, n, ⟨4, 0, [], [n], []⟩⟩
def a1 : Bk := Bk.new.add 1 (ae 1)
def a2 : Bk := a1.add 3 (ae 3)
def a3 : Bk := a2.apply 9
theorem aw_may1 : Bk.new.may 1 = true := by decide
theorem aw_may2 : a1.may 3 = true := by decide
theorem aw_may3 : a2.may 1 = false := by decide
theorem aw_add3 : a2.add 1 (ae 9) = a2 := by unfold Bk.add; rw [aw_may3]; rfl
theorem aw_miss : a2.missing 4 = [2, 4] := by decide
theorem aw_dones : ∃ d, a2.dones 9 = [d] ∧ d.i = 1 ∧ d.r.n = 1 := ⟨⟨1, ae 1, Mc.zero.step (ae 1)⟩, rfl, rfl, by decide⟩
theorem aw_wh1 : Bk.new.wh ≤ Bk.new.pos + 90000 := by decide
theorem aw_wh2 : a1.wh ≤ a1.pos + 90000 := by decide
theorem aw_wh3 : a2.wh ≤ a2.pos + 90000 := by decide
theorem aw_wh4 : a2.wh ≤ 1099511627776 := by decide
theorem aw_pos : a3.pos = 1 := by decide
theorem aw_wh : a3.wh = 1 := by decide
theorem aw_state : a3.state.pos = 1 ∧ a3.state.rest = [] := ⟨by decide, rfl⟩
theorem aw_q : a3.m.o.q.length = 1 := by decide
theorem aw_wh5 : a3.wh ≤ a3.pos + 90000 := by decide
theorem ae_fits (n : Nat) (hn : n < 256) : (ae n).c.Fits := ⟨⟨by simp [ae], by simp [ae]⟩, ⟨by simp [ae], by simp [ae]; exact hn⟩, ⟨by simp [ae], by simp [ae]⟩⟩
end Bk
end Go.Proofs.YtaknfmionkkdjaaGreat

