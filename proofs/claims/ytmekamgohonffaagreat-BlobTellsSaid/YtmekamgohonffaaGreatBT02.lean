/- ResKit -/
import Derived.Test.YtmekamgohonffaaGreatBT01
namespace Go.Proofs.YtmekamgohonffaaGreat
open Go.RowKit
set_option linter.unusedVariables false
theorem strL_eq {l m : List Nat} (hl : ∀ x ∈ l, x < 256) (hm : ∀ x ∈ m, x < 256) : ((strB l).toList == (strB m).toList) = decide (l = m) := by
 rw [<- strB_eq hl hm, ba_beq, Bool.eq_iff_iff, beq_iff_eq, decide_eq_true_iff]
 constructor
 · intro h
   rw [ByteArray.toList_eq, ByteArray.toList_eq] at h
   have h1 := Array.toList_inj.1 h
   generalize strB l = a at h1 |-
   generalize strB m = b at h1 |-
   cases a; cases b; simp at h1; rw [h1]
 · intro h; rw [h]
def resV (e : Int) (A : Option Addr) (n c : Nat) (N : Int) : Value := .agg #[.int .i64 e, .slice A n c, .int .i64 N]
def GotR (W w : World) (e : Int) (l : List Nat) (N : Int) (en : Ending) (w' : World) : Prop :=
 ∃ A c, en = .returned (resV e A l.length c N) /\ OwnB W w' A l.length c l /\ Below W.heap.size W w' /\ Below w.heap.size w w'
def GotSR (W w : World) (s : List Nat) (e : Int) (l : List Nat) (N : Int) (en : Ending) (w' : World) : Prop :=
 ∃ A c A' c', en = .returned (.tuple #[.slice A s.length c, resV e A' l.length c' N]) /\ OwnB W w' A s.length c s /\ OwnB W w' A' l.length c' l /\ Below W.heap.size W w' /\ Below w.heap.size w w'
theorem own_nil (W w : World) : OwnB W w none 0 0 [] := ⟨rfl, .inl ⟨rfl, rfl⟩⟩
abbrev zeroR : Array Value := #[.int .i64 0, .slice none 0 0, .int .i64 0]
end Go.Proofs.YtmekamgohonffaaGreat
