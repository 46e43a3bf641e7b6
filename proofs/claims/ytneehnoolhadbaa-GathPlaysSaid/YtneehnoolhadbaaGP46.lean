/- KeysF ObjCmd -/
import Derived.Test.YtneehnoolhadbaaGP14
import Derived.Test.YtneehnoolhadbaaGP23
import Derived.Test.YtneehnoolhadbaaGP45
import Derived.Deep.CutBlock
import Derived.Deep.RegionHeld3
namespace Go.Proofs.Ytneehnoolhadbaa
open Go.RowKit
set_option linter.unusedVariables false
/-- a row of bytes in a block that was made behind w -/
theorem Rd.of_stringAt (w : World) (s : ByteArray) (cap : Nat) (t : TypeId) (mark : Nat × Nat) {g : Nat} (hg : w.heap.size = g) : Rd (w.alloc (.cells (bytesRow s cap) t mark)) (w.alloc (.cells (bytesRow s cap) t mark)).heap.size (some ⟨g, 0, none⟩) (sb s).length (bv (sb s)) := by
  subst hg; rw [sb_len]; exact (Rd.of_string w s cap t mark).fit
end Go.Proofs.Ytneehnoolhadbaa

namespace Go.Proofs.Ytneehnoolhadbaa
open Go.RowKit
set_option linter.unusedVariables false
def tab8 (j : Nat) : ByteArray := ([⟨#[]⟩, ⟨#[97]⟩, ⟨#[98]⟩, ⟨#[97, 98]⟩, ⟨#[118, 97, 108, 117, 101]⟩, ⟨#[48, 49, 50, 51, 52, 53, 54, 55, 56, 57, 97, 98, 99, 100, 101, 102]⟩, ⟨#[48, 49, 50, 51, 52, 53, 54, 55, 56, 57, 97, 98, 99, 100, 101, 102, 103]⟩, ⟨#[0, 255]⟩] : List ByteArray).getD j ⟨#[]⟩
def tab4 (j : Nat) : ByteArray := ([⟨#[]⟩, ⟨#[97]⟩, ⟨#[98]⟩, ⟨#[97, 98]⟩] : List ByteArray).getD j ⟨#[]⟩
theorem tab8_at : ∀ j (h : j < ([.string ⟨#[]⟩, .string ⟨#[97]⟩, .string ⟨#[98]⟩, .string ⟨#[97, 98]⟩, .string ⟨#[118, 97, 108, 117, 101]⟩, .string ⟨#[48, 49, 50, 51, 52, 53, 54, 55, 56, 57, 97, 98, 99, 100, 101, 102]⟩, .string ⟨#[48, 49, 50, 51, 52, 53, 54, 55, 56, 57, 97, 98, 99, 100, 101, 102, 103]⟩, .string ⟨#[0, 255]⟩] : List Value).length), ([.string ⟨#[]⟩, .string ⟨#[97]⟩, .string ⟨#[98]⟩, .string ⟨#[97, 98]⟩, .string ⟨#[118, 97, 108, 117, 101]⟩, .string ⟨#[48, 49, 50, 51, 52, 53, 54, 55, 56, 57, 97, 98, 99, 100, 101, 102]⟩, .string ⟨#[48, 49, 50, 51, 52, 53, 54, 55, 56, 57, 97, 98, 99, 100, 101, 102, 103]⟩, .string ⟨#[0, 255]⟩] : List Value)[j]'h = .string (tab8 j) := by
  intro j h
  match j, h with
  | 0, _ | 1, _ | 2, _ | 3, _ | 4, _ | 5, _ | 6, _ | 7, _ => rfl
theorem tab4_at : ∀ j (h : j < ([.string ⟨#[]⟩, .string ⟨#[97]⟩, .string ⟨#[98]⟩, .string ⟨#[97, 98]⟩] : List Value).length), ([.string ⟨#[]⟩, .string ⟨#[97]⟩, .string ⟨#[98]⟩, .string ⟨#[97, 98]⟩] : List Value)[j]'h = .string (tab4 j) := by
  intro j h
  match j, h with
  | 0, _ | 1, _ | 2, _ | 3, _ => rfl
theorem tab8_size : ∀ j, j < 8 → (tab8 j).size ≤ 17 := by
  intro j hj
  match j, hj with
  | 0, _ | 1, _ | 2, _ | 3, _ | 4, _ | 5, _ | 6, _ | 7, _ => decide
theorem tab4_size : ∀ j, j < 4 → (tab4 j).size ≤ 2 := by
  intro j hj
  match j, hj with
  | 0, _ | 1, _ | 2, _ | 3, _ => decide
def tabk (p : Nat) : Int := ([1, 2, 4, 9] : List Int).getD p 0
theorem tabk_at : ∀ p (h : p < ([.int .i64 1, .int .i64 2, .int .i64 4, .int .i64 9] : List Value).length), ([.int .i64 1, .int .i64 2, .int .i64 4, .int .i64 9] : List Value)[p]'h = .int .i64 (tabk p) := by
  intro p h
  match p, h with
  | 0, _ | 1, _ | 2, _ | 3, _ => rfl
theorem Rd.set_ne {w : World} {B gk o n b i : Nat} {u : Value} {vs : List Value} (h : Rd w B (some ⟨gk, o, none⟩) n vs) (hne : b ≠ gk) : Rd (w.setCell ⟨b, i, none⟩ u) (w.setCell ⟨b, i, none⟩ u).heap.size (some ⟨gk, o, none⟩) n vs := by
  refine Rd.fit (B := B) ⟨h.1, fun hn => ?_⟩
  obtain ⟨b', o', e, hb, hc⟩ := h.2 hn
  injection e with e
  injection e with e1 e2
  subst e1 e2
  refine ⟨gk, o, rfl, hb, fun j hj => ?_⟩
  rw [← hc j hj]
  exact World.cell?_of_block (Below.heap_setCell w ⟨b, i, none⟩ u gk (fun e => hne e.symm))
/-- each of its rows begins where its block does -/
def CA.Z (a : CA) : Prop := (∃ g, a.Ak = some ⟨g, 0, none⟩) ∧ (∃ g, a.Av = some ⟨g, 0, none⟩) ∧ ∃ g, a.Ao = some ⟨g, 0, none⟩
end Go.Proofs.Ytneehnoolhadbaa

