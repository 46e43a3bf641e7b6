/- MesgMath -/
import Derived.Test.YtmekamgohonffaaBF25
import Derived.Test.YtmekamgohonffaaBF27
namespace Go.Proofs.Ytmekamgohonffaa
open Go.RowKit
set_option linter.unusedVariables false
/-- 0 to m -/
def wi (m z : Int) : Bool := decide (0 ≤ z) && decide (z ≤ m)
theorem wi_iff {m z : Int} : wi m z = true ↔ 0 ≤ z ∧ z ≤ m := by unfold wi; simp
/-- an entry that may be told -/
def En.ok (e : En) : Bool := wi 1073741824 e.s && (wi 1073741824 e.q && (wi 1073741824 e.c.kind && (wi 1073741824 e.c.who && (decide (e.c.key.length ≤ 32) && (decide (e.c.val.length ≤ 32) && decide (e.c.old.length ≤ 32))))))
def eI (z : Int) : List Nat := Pk.enc (Pk.held z)
-- back
theorem rd1 {z m : Int} {rest : List Nat} (h : wi m z = true) (ht : m ≤ 4611686018427387904) : (Pk.numV (some (eI z ++ rest)) m : Int) = z ∧ Pk.numS (some (eI z ++ rest)) m = some rest :=
  num_of_encI (wi_iff.1 h).1 (wi_iff.1 h).2 ht
theorem En.get_enc {e : En} (h : e.ok = true) (rest : List Nat) : En.get (some (e.enc ++ rest)) = (e, some rest) := by
  unfold En.ok at h
  simp only [Bool.and_eq_true, decide_eq_true_eq] at h
  obtain ⟨h1, h2, h3, h4, h5, h6, h7⟩ := h
  have e0 : e.enc ++ rest = eI e.s ++ (eI e.q ++ (eI e.c.kind ++ (eI e.c.who ++ (Pk.encB e.c.key ++ (Pk.encB e.c.val ++ (Pk.encB e.c.old ++ rest)))))) := by
    unfold En.enc eI; simp only [List.append_assoc]
  have k1 := rd1 (rest := eI e.q ++ (eI e.c.kind ++ (eI e.c.who ++ (Pk.encB e.c.key ++ (Pk.encB e.c.val ++ (Pk.encB e.c.old ++ rest)))))) h1 (by omega)
  have k2 := rd1 (rest := eI e.c.kind ++ (eI e.c.who ++ (Pk.encB e.c.key ++ (Pk.encB e.c.val ++ (Pk.encB e.c.old ++ rest))))) h2 (by omega)
  have k3 := rd1 (rest := eI e.c.who ++ (Pk.encB e.c.key ++ (Pk.encB e.c.val ++ (Pk.encB e.c.old ++ rest)))) h3 (by omega)
  have k4 := rd1 (rest := Pk.encB e.c.key ++ (Pk.encB e.c.val ++ (Pk.encB e.c.old ++ rest))) h4 (by omega)
  have k5 := byt_of_enc (x := e.c.key) (m := 32) (rest := Pk.encB e.c.val ++ (Pk.encB e.c.old ++ rest)) (by omega) (by omega)
  have k6 := byt_of_enc (x := e.c.val) (m := 32) (rest := Pk.encB e.c.old ++ rest) (by omega) (by omega)
  have k7 := byt_of_enc (x := e.c.old) (m := 32) (rest := rest) (by omega) (by omega)
  rw [e0]
  unfold En.get
  simp only []
  rw [k1.1, k1.2, k2.1, k2.2, k3.1, k3.2, k4.1, k4.2, k5.1, k5.2, k6.1, k6.2, k7.1, k7.2]
theorem En.read_enc {e : En} (h : e.ok = true) (rest : List Nat) : En.read (some (e.enc ++ rest)) = e := by
  unfold En.read
  rw [En.get_enc h]
  simp
end Go.Proofs.Ytmekamgohonffaa

