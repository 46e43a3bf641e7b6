/- OnlyKit AppKit -/
import Derived.Test.YtneehnoolhadbaaGP18
namespace Go.Proofs.Ytneehnoolhadbaa
open Go.RowKit
set_option linter.unusedVariables false
/-- the row that grows was there when W's call began -/
def Old (W : World) (row : Option Nat) : Prop := ∀ k, row = some k → k < W.heap.size
section
variable {W w w' : World} {row : Option Nat}
/-- the block of a row of the call's own -/
theorem own_row_old {W1 : World} {e : TypeId} {size n : Nat} {v : Value} {xs : List Value} (h : w.ownsRow W1.heap.size e size v n xs) (hs : w.heap.size ≤ W.heap.size) : Old W v.ownBlock := fun k hk => by have := (h.lt k hk).2; omega
end
theorem cellB : CellT Try.prog 25 5 (.int .u8 0) 1 := ⟨Try.underlying25, by kernel_rfl, rfl⟩
end Go.Proofs.Ytneehnoolhadbaa

namespace Go.Proofs.Ytneehnoolhadbaa
open Go.RowKit
set_option linter.unusedVariables false
section
variable {P : Program} {t e : TypeId} {z : Value} {bytes size : Nat} {w : World}
theorem wp_append_at (base : Nat) (hb0 : base ≤ w.heap.size) (hT : CellT P t e z bytes) {o : Oper} {a : Act} {next : Act → World → Prop} {Q : Exit → Act → World → Prop} (s x : Operand)
    (ho : o.op = .call { callee := .builtin .append, args := #[s, x], argTypes := #[t, t] })
    {A : Option Addr} {n c : Nat} {vs : List Value} (hs : a.eval s = .slice A n c) (hown : w.ownsRow base e 1 (.slice A n c) n vs)
    {B : Nat} {A' : Option Addr} {m c' : Nat} {ws : List Value} (hx : a.eval x = .slice A' m c') (hr : Rd w B A' m ws) (h1 : ∀ u ∈ ws, u.oneCell' = true) (hnm : n + m ≤ 1099511627776) (hby : bytes ≤ 64)
    (h : ∀ A2 c2 w2, w2.ownsRow base e 1 (.slice A2 (n + m) c2) (n + m) (vs ++ ws) → w.grownBy w2 (Value.slice A n c).ownBlock → next (a.put o.dst (.slice A2 (n + m) c2)) w2) : o.wp P a w next Q := by
  obtain ⟨i, hi, hz, hsz, hbi⟩ := info_parts hT.info
  obtain ⟨v', w', hrun, h2, h3, h4⟩ := run_append_rd (P := P) w base t o.type e i z bytes hT.under hi hz hsz hbi hT.one _ n vs hown B A' m c' ws hr h1
    (by unfold maxLen; omega) (by have := Nat.mul_le_mul hnm hby; omega) hb0
  obtain ⟨A2, c2, rfl, hr2⟩ := Rd.of_own h2
  have hgo := h A2 c2 w' h2 h3
  unfold Oper.wp execOp
  simp only [ho, resolve, invoke, builtin, Sem.run_bind, Sem.run_pure, Result.andThen_ok, List.map_toArray, List.map_cons, List.map_nil, hs, hx, hrun]
  exact hgo
theorem wpList_append_at (base : Nat) (hb0 : base ≤ w.heap.size) (hT : CellT P t e z bytes) {ops : Array Oper} {rest : List Oper} {o : Oper} {a : Act} {Q : Exit → Act → World → Prop} (s x : Operand)
    (ho : o.op = .call { callee := .builtin .append, args := #[s, x], argTypes := #[t, t] }) (hw : Region.wanted o (yielded ops a.tmps) = true)
    {A : Option Addr} {n c : Nat} {vs : List Value} (hs : a.eval s = .slice A n c) (hown : w.ownsRow base e 1 (.slice A n c) n vs)
    {B : Nat} {A' : Option Addr} {m c' : Nat} {ws : List Value} (hx : a.eval x = .slice A' m c') (hr : Rd w B A' m ws) (h1 : ∀ u ∈ ws, u.oneCell' = true) (hnm : n + m ≤ 1099511627776) (hby : bytes ≤ 64)
    (h : ∀ A2 c2 w2, w2.ownsRow base e 1 (.slice A2 (n + m) c2) (n + m) (vs ++ ws) → w.grownBy w2 (Value.slice A n c).ownBlock → wpList P ops Q rest (a.put o.dst (.slice A2 (n + m) c2)) w2) :
    wpList P ops Q (o :: rest) a w := by
  unfold wpList
  rw [if_pos hw]
  exact .inl (wp_append_at base hb0 hT s x ho hs hown hx hr h1 hnm hby h)
end
end Go.Proofs.Ytneehnoolhadbaa

