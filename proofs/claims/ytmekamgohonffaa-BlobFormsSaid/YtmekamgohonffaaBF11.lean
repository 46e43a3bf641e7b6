/- CrcMath -/
import Init
namespace Go.Proofs.Ytmekamgohonffaa
namespace Crc

/-- one step: the lowest bit out -/
def stp (c : Nat) : Nat := if c % 2 = 1 then (c / 2) ^^^ 3988292384 else c / 2
def stpN : Nat → Nat → Nat
  | 0, c => c
  | n + 1, c => stp (stpN n c)
def nxt (c x : Nat) : Nat := stpN 8 (c ^^^ x)
def run (c : Nat) (l : List Nat) : Nat := l.foldl nxt c
def sum (l : List Nat) : Nat := run 4294967295 l ^^^ 4294967295

theorem xor_lt32 {a b : Nat} (ha : a < 4294967296) (hb : b < 4294967296) : a ^^^ b < 4294967296 := Nat.xor_lt_two_pow (n := 32) ha hb
theorem stp_lt {c : Nat} (h : c < 4294967296) : stp c < 4294967296 := by
  unfold stp; split
  · exact xor_lt32 (by omega) (by omega)
  · omega
theorem stpN_lt (n : Nat) {c : Nat} (h : c < 4294967296) : stpN n c < 4294967296 := by
  induction n with
  | zero => exact h
  | succ n ih => exact stp_lt ih
theorem nxt_lt {c x : Nat} (h : c < 4294967296) (hx : x < 256) : nxt c x < 4294967296 := stpN_lt 8 (xor_lt32 h (by omega))
theorem run_lt {c : Nat} (l : List Nat) (h : c < 4294967296) (hl : ∀ x ∈ l, x < 256) : run c l < 4294967296 := by
  induction l generalizing c with
  | nil => exact h
  | cons x l ih => exact ih (nxt_lt h (hl x (by simp))) (fun y hy => hl y (by simp [hy]))
theorem run_snoc (c : Nat) (l : List Nat) (x : Nat) : run c (l ++ [x]) = nxt (run c l) x := by simp [run]
end Crc
end Go.Proofs.Ytmekamgohonffaa

