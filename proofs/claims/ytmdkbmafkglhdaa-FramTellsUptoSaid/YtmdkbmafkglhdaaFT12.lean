/- MachKit OnlyKit -/
import Derived.Test.YtmdkbmafkglhdaaFT10
namespace Go.Proofs.Ytmdkbmafkglhdaa
open Go.RowKit
set_option linter.unusedVariables false
def entC (a : CA) (e : En) : Array Value := #[.int .i64 e.s, .int .i64 e.q, .int .i64 e.c.kind, .int .i64 e.c.who, .slice a.Ak e.c.key.length a.ck, .slice a.Av e.c.val.length a.cv, .slice a.Ao e.c.old.length a.co]
def entV (a : CA) (e : En) : Value := .agg (entC a e)
section
variable {W w w' : World} {B : Nat}
end
/-- a block of seven cells: what a walk reads of it -/
theorem seven {w : World} {b : Nat} {t : TypeId} {x0 x1 x2 x3 x4 x5 x6 : Value} (h : Blk w b t #[x0, x1, x2, x3, x4, x5, x6]) :
    w.cell? ⟨b, 0, none⟩ = some x0 ∧ w.cell? ⟨b, 1, none⟩ = some x1 ∧ w.cell? ⟨b, 2, none⟩ = some x2 ∧ w.cell? ⟨b, 3, none⟩ = some x3 ∧ w.cell? ⟨b, 4, none⟩ = some x4 ∧ w.cell? ⟨b, 5, none⟩ = some x5 ∧ w.cell? ⟨b, 6, none⟩ = some x6 :=
  ⟨h.cell 0, h.cell 1, h.cell 2, h.cell 3, h.cell 4, h.cell 5, h.cell 6⟩
theorem Cm.Fits.zero : Cm.Fits ⟨0, 0, [], [], []⟩ := ⟨⟨by simp, by simp⟩, ⟨by simp, by simp⟩, ⟨by simp, by simp⟩⟩
theorem RdC.zero (w : World) (B : Nat) : RdC w B ⟨none, 0, none, 0, none, 0⟩ ⟨0, 0, [], [], []⟩ := ⟨Rd.none_ _ _ _, Rd.none_ _ _ _, Rd.none_ _ _ _⟩
end Go.Proofs.Ytmdkbmafkglhdaa

namespace Go.Proofs.Ytmdkbmafkglhdaa
open Go.RowKit
set_option linter.unusedVariables false
/-- the row that grows was there when W's call began -/
def Old (W : World) (row : Option Nat) : Prop := ∀ k, row = some k → k < W.heap.size
section
variable {W w w' : World} {row : Option Nat}
theorem Old.some {b : Nat} (h : b < W.heap.size) : Old W (some b) := fun k hk => by injection hk with hk; omega
theorem own_old {e : TypeId} {size n : Nat} {v : Value} {xs : List Value} (h : w.ownsRow W.heap.size e size v n xs) (hg : w.grownBy w' row) (ho : Old W row) : w'.ownsRow W.heap.size e size v n xs := by
  refine h.kept hg ?_
  rcases he : v.ownBlock with _ | k
  · exact .inl rfl
  · right
    intro h2
    have h3 := ho k h2.symm
    have := (h.lt k he).1
    omega
/-- the block of a row of the call's own -/
theorem own_row_old {W1 : World} {e : TypeId} {size n : Nat} {v : Value} {xs : List Value} (h : w.ownsRow W1.heap.size e size v n xs) (hs : w.heap.size ≤ W.heap.size) : Old W v.ownBlock := fun k hk => by have := (h.lt k hk).2; omega
end
theorem cellB : CellT Try.prog 22 5 (.int .u8 0) 1 := ⟨Try.underlying22, by kernel_rfl, rfl⟩
theorem bv_one (l : List Nat) : ∀ u ∈ bv l, u.oneCell' = true := by
  intro u hu
  unfold bv at hu
  obtain ⟨x, _, rfl⟩ := List.mem_map.1 hu
  rfl
theorem bv_app (l m : List Nat) : bv (l ++ m) = bv l ++ bv m := by simp [bv]
end Go.Proofs.Ytmdkbmafkglhdaa

