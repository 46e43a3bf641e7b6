/- WindPlays: what the last piece of a round reads. -/
import Derived.Test.YteafbljdlcbckaaPlaysA
import Derived.Deep.RegionHeld
import Derived.Deep.RegionWith
import Derived.Deep.RegionHeld3
import Derived.Deep.DrawnRows
namespace Go.Proofs.Yteafbljdlcbckaa
open Go.RowKit Go.Maps
set_option linter.unusedVariables false
attribute [local go_sem ↓] Go.wp_at_zero Go.wp_at_succ
namespace Py
theorem run_minN {P : Program} (w : World) (ts : Array TypeId) (t : TypeId) (n m : Nat) :
    (Builtin.min_ ts t #[.int .i64 (n : Int), .int .i64 (m : Int)]).run P w = .ok (.int .i64 ((min n m : Nat) : Int)) w := by
  have e : ((min n m : Nat) : Int) = if (m : Int) < (n : Int) then (m : Int) else (n : Int) := by
    split <;> omega
  rw [e]
  simp [Builtin.min_, Builtin.min2]
/-- the cells that the last region reads -/
structure S7 (gy oy : Nat) (vy : Value) (bf fr bl : Nat) (leave : Int) (gt : Nat) (At : Option Addr) (nt ct gz oz i : Nat) (x : Int) (w : World) : Prop where
  h1 : w.cell? ⟨bf, 0, none⟩ = some (.int .i64 (fr : Int))
  h2 : w.cell? ⟨bl, 0, none⟩ = some (.int .i64 leave)
  h3 : w.cell? ⟨gt, 0, none⟩ = some (.slice At nt ct)
  h4 : w.cell? ⟨gz, oz + i, none⟩ = some (.int .i64 x)
  h5 : w.cell? ⟨gy, oy, none⟩ = some vy
theorem S7.below {gy oy : Nat} {vy : Value} {bf fr bl : Nat} {leave : Int} {gt : Nat} {At : Option Addr} {nt ct gz oz i : Nat} {x : Int} {w w' : World} (h : S7 gy oy vy bf fr bl leave gt At nt ct gz oz i x w) (hb : Below w.heap.size w w') : S7 gy oy vy bf fr bl leave gt At nt ct gz oz i x w' :=
  ⟨(hb.cell (World.block_lt_of_cell? w _ h.h1)).trans h.h1, (hb.cell (World.block_lt_of_cell? w _ h.h2)).trans h.h2, (hb.cell (World.block_lt_of_cell? w _ h.h3)).trans h.h3, (hb.cell (World.block_lt_of_cell? w _ h.h4)).trans h.h4, (hb.cell (World.block_lt_of_cell? w _ h.h5)).trans h.h5⟩
theorem _root_.Go.Proofs.Yteafbljdlcbckaa.Rd.below' {w w' : World} {n : Nat} {A : Option Addr} {vs : List Value} (h : Rd w w.heap.size A n vs) (hb : Below w.heap.size w w') : Rd w' w'.heap.size A n vs := (h.below hb).fit
theorem _root_.Go.Proofs.Yteafbljdlcbckaa.Rd.cut {w : World} {B n : Nat} {A : Option Addr} {zs : List Int} (h : Rd w B A n (iv zs)) (k : Nat) (hk : k ≤ n) : Rd w B A k (iv (zs.take k)) := by
  have := h.take hk
  rwa [show (iv zs).take k = iv (zs.take k) by simp [iv]] at this
end Py
end Go.Proofs.Yteafbljdlcbckaa
