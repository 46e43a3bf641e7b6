/- The contract of the document's own answer for a map: Put. -/
import Derived.Test.YtcmjpjhaaookfaaMapsRef3
import Derived.Deep.CutBlock
import Derived.Deep.DeepCutAuto
namespace Go.Proofs.Ytcmjpjhaaookfaa
open Go.RowKit
set_option linter.unusedVariables false
/-- the cells vs with two more at place i -/
def hole (vs : List Value) (i : Nat) (x y : Value) : List Value := vs.take (i * 2) ++ [x, y] ++ vs.drop (i * 2)
theorem hole_set {vs : List Value} {i : Nat} {x y a b : Value} (h : i * 2 ≤ vs.length) : ((hole vs i x y).set (i * 2) a).set (i * 2 + 1) b = hole vs i a b := by
  unfold hole
  have e : (vs.take (i * 2)).length = i * 2 := by rw [List.length_take]; omega
  rw [List.append_assoc, List.append_assoc, List.set_append_right _ _ (by omega), e, Nat.sub_self, List.set_append_right _ _ (by omega), e, show i * 2 + 1 - i * 2 = 1 by omega]
  rfl
theorem hole_back {vs : List Value} {i : Nat} {a b : Value} (h1 : vs[i * 2]? = some a) (h2 : vs[i * 2 + 1]? = some b) : hole vs (i + 1) a b = hole vs i a b := by
  unfold hole
  have e1 : vs.take ((i + 1) * 2) = vs.take (i * 2) ++ [a, b] := by
    rw [show (i + 1) * 2 = i * 2 + 1 + 1 by omega, List.take_add_one, List.take_add_one, h1, h2]; simp
  have e2 : vs.drop (i * 2) = a :: b :: vs.drop ((i + 1) * 2) := by
    rw [show (i + 1) * 2 = i * 2 + 1 + 1 by omega]
    rw [List.drop_eq_getElem?_toList_append, h1, List.drop_eq_getElem?_toList_append (i := i * 2 + 1), h2]; rfl
  rw [e1, e2]; simp
theorem hole_at {vs : List Value} {i j : Nat} {x y : Value} (h : j < i * 2) (hl : i * 2 ≤ vs.length) : (hole vs i x y)[j]? = vs[j]? := by
  unfold hole
  rw [List.append_assoc, List.getElem?_append_left (by rw [List.length_take]; omega), List.getElem?_take_of_lt h]
theorem hole_end {vs : List Value} {n : Nat} {x y : Value} (h : vs.length = n * 2) : vs ++ [x, y] = hole vs n x y := by
  unfold hole
  rw [← h, List.take_length, List.drop_length]; simp
theorem Owns.set {W w : World} {vs : List Value} {qs : List (List Nat)} {A : Option Addr} {c : Nat} {l : List Nat} (h : Owns W w vs qs) (ho : OwnB W w A l.length c l) (i : Nat) : Owns W w (vs.set i (.slice A l.length c)) (qs.set i l) :=
  ⟨by simp [h.len], fun j l' hl => by
    by_cases hij : i = j
    · subst hij
      have hlt : i < qs.length := by
        rcases Nat.lt_or_ge i qs.length with h' | h'
        · exact h'
        · rw [List.getElem?_eq_none (by simpa using h')] at hl; cases hl
      rw [List.getElem?_set_self hlt] at hl
      injection hl with hl
      subst hl
      exact ⟨A, c, by rw [List.getElem?_set_self (by rw [h.len]; exact hlt)], ho⟩
    · rw [List.getElem?_set_ne hij] at hl ⊢
      exact h.cell j l' hl⟩
theorem flat_setval {ps : List Pr} {i : Nat} {p : Pr} {k v : List Nat} (h : ps[i]? = some p) (hk : p.1 = k) : flat (ps.set i (k, v)) = (flat ps).set (i * 2 + 1) v := by
  induction ps generalizing i with
  | nil => simp at h
  | cons q ps ih =>
    cases i with
    | zero => simp at h; subst h; subst hk; rfl
    | succ i =>
      rw [List.set_cons_succ, flat_cons, flat_cons, ih (by simpa using h), show (i + 1) * 2 + 1 = (i * 2 + 1) + 1 + 1 by omega]; rfl
theorem flat_insert (ps : List Pr) (i : Nat) (k v : List Nat) : flat (ps.take i ++ (k, v) :: ps.drop i) = (flat ps).take (i * 2) ++ [k, v] ++ (flat ps).drop (i * 2) := by
  rw [flat_append, flat_cons, flat_take, flat_drop]; simp
theorem bytesLess_strB {l m : List Nat} (hl : ∀ x ∈ l, x < 256) (hm : ∀ x ∈ m, x < 256) : Go.Op.bytesLess (strB l).toList (strB m).toList = Mp.ltB l m := by
  have e : ∀ l : List Nat, (strB l).toList = l.map UInt8.ofNat := fun l => by
    rw [ByteArray.toList_eq]; unfold strB strOfNums; simp [Function.comp_def]
  rw [e, e]
  induction l generalizing m with
  | nil => cases m <;> rfl
  | cons a l ih =>
    cases m with
    | nil => rfl
    | cons b m =>
      have ha := hl a (by simp)
      have hb := hm b (by simp)
      simp only [List.map_cons, Go.Op.bytesLess, Mp.ltB]
      rw [ih (fun x hx => hl x (by simp [hx])) (fun x hx => hm x (by simp [hx]))]
      have h1 : decide (UInt8.ofNat a < UInt8.ofNat b) = decide (a < b) := by
        rw [decide_eq_decide, UInt8.lt_iff_toNat_lt]; simp; omega
      have h2 : (UInt8.ofNat a == UInt8.ofNat b) = decide (a = b) := by
        rw [Bool.eq_iff_iff, beq_iff_eq, decide_eq_true_iff]
        constructor
        · intro h; have := congrArg UInt8.toNat h; simp at this; omega
        · intro h; rw [h]
      rw [h1, h2]
end Go.Proofs.Ytcmjpjhaaookfaa
