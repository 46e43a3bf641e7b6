/- TknSort3 -/
import Derived.Test.YtbgagmpifaakgaaTF19
import Derived.Test.YtbgagmpifaakgaaTF20
import Derived.LoopIn
import Derived.LoopNIn
import Derived.OwnWalkIn
import Derived.TacticsInMore
namespace Go.Proofs.Ytbgagmpifaakgaa
open Go.RowKit
set_option linter.unusedVariables false
attribute [local go_sem] Oper.semAt_some
set_option maxRecDepth 100000 in
theorem len64_any (w : World) (n : Nat) (hn : n < 256) : Calls Try.prog 53 #[.int .u64 n] w fun e w' => (∃ k : Int, e = .returned (.int .i64 k)) ∧ w' = w := by
  have h1 : ¬ (4294967296 : Int) ≤ (n : Int) := by omega
  have h2 : ¬ (65536 : Int) ≤ (n : Int) := by omega
  have h3 : ¬ (256 : Int) ≤ (n : Int) := by omega
  have hw : IntKind.u8.wrap (n : Int) = (n : Int) := IntWalk.u8_in _ (by omega)
  go_enter Try.func53, Try.ntmps53
  go_wp2_with fail
  go_ret
  exact ⟨⟨_, rfl⟩, rfl⟩
theorem len_few (w : World) (n : Nat) (hn : n < 256) : Calls Try.prog 42 #[.int .u64 n] w fun e w' => (∃ k : Int, e = .returned (.int .i64 k)) ∧ w' = w := by
  go_enter Try.func42, Try.ntmps42
  go_wp2_with (go_at_call 53; refine (len64_any _ n hn).mono ?_; rintro e w1 ⟨⟨k, rfl⟩, rfl⟩)
  go_ret
  exact ⟨⟨_, rfl⟩, rfl⟩
/-- few integers in order, in place -/
def SortsI (W w : World) (A : Option Addr) (n c : Nat) (l : List Int) (e : Ending) (w' : World) : Prop := e = .returned (.tuple #[]) ∧ ∃ l', OwnI W w' A n c l' ∧ l'.Perm l ∧ Ord l' ∧ Below W.heap.size W w' ∧ w.grownBy w' (Value.slice A n c).ownBlock
set_option maxRecDepth 100000 in
theorem pdq_few {W w : World} {A : Option Addr} {n c : Nat} {l : List Int} (k : Int) (h : OwnI W w A n c l) (hn : n ≤ 12) (hB : Below W.heap.size W w) :
    Calls Try.prog 41 #[.slice A n c, .int .i64 0, .int .i64 n, .int .i64 k] w (SortsI W w A n c l) := by
  have H := Lib.hid h
  have HB := Lib.hid hB
  have CL := Lib.hid (insSort h (by omega) hB)
  have hw : IntKind.i64.wrap ((n : Int) - 0) = (n : Int) := by rw [IntWalk.i64_in _ (by omega)]; omega
  have hw2 : IntKind.i64.wrap (n : Int) = (n : Int) := IntWalk.i64_in _ (by omega)
  have hle : (n : Int) ≤ 12 := by omega
  clear h hB
  go_enter Try.func41, Try.ntmps41
  go_wp2_with fail
  go_loopw [1, 2] (fun s1 s2 wr => s1 = .int .i64 0 ∧ s2 = .int .i64 n ∧ wr = w) (fun _ _ _ => 0)
  case atStart => exact ⟨rfl, rfl, rfl⟩
  case round =>
    obtain ⟨rfl, rfl, rfl⟩ := hrel
    go_wp2_with (go_at_call 44; refine CL.out.mono ?_; rintro e w1 ⟨rfl, l', h1, h2, h3, h4, h5⟩)
    refine bodyPost_ret (results_none rfl _ _ _) rfl ?_
    exact ⟨rfl, l', h1, h2, h3, h4, h5⟩
end Go.Proofs.Ytbgagmpifaakgaa

