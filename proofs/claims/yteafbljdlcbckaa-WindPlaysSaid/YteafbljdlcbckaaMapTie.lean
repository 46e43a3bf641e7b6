/- A map that tells what a window's slots hold: at the start, behind a Put, behind a Cut. -/
import Derived.Test.YteafbljdlcbckaaMapWhole
import Derived.Test.YteafbljdlcbckaaWindPI
import Derived.Test.YteafbljdlcbckaaWindPY
import Derived.Maps.RangeWalk
namespace Go.Proofs.Yteafbljdlcbckaa
open Go.RowKit Go.Maps
set_option linter.unusedVariables false
namespace Wd
variable {V : Type}
theorem hasB_join (fr : Nat) (ss : List (Option V)) (i : Int) : hasB fr ss i = (decide ((fr : Int) < i) && (ss[(i - fr - 1).toNat]?.join).isSome) := by
  unfold hasB
  by_cases h : (fr : Int) < i
  · simp only [h, decide_true, Bool.true_and]
    by_cases h2 : i ≤ ((fr + ss.length : Nat) : Int)
    · simp only [h2, decide_true, Bool.true_and]
      have hl : (i - fr - 1).toNat < ss.length := by omega
      rw [List.getD_eq_getElem?_getD, List.getElem?_eq_getElem hl]
      simp
    · have h3 : ss[(i - fr - 1).toNat]? = none := List.getElem?_eq_none (by omega)
      simp only [h2, decide_false, Bool.false_and, h3]
      rfl
  · simp [h]
theorem hasB_laid (fr : Nat) (ss : List (Option V)) (k : Nat) (v : V) (i : Int) : hasB fr (laid ss k v) i = (decide (i = ((fr + 1 + k : Nat) : Int)) || hasB fr ss i) := by
  rw [hasB_join, hasB_join, laid_get]
  by_cases h : i = ((fr + 1 + k : Nat) : Int)
  · have h1 : (i - fr - 1).toNat = k := by omega
    have h2 : (fr : Int) < i := by omega
    have h3 : decide ((fr : Int) < i) = true := by simpa using h2
    have h4 : decide (i = ((fr + 1 + k : Nat) : Int)) = true := by simpa using h
    rw [h1, h3, h4]; simp
  · by_cases h2 : (fr : Int) < i
    · have h1 : (i - fr - 1).toNat ≠ k := by omega
      simp only [h1, h, h2, if_false, decide_false, decide_true, Bool.false_or]
    · simp only [h, h2, decide_false, Bool.false_and, Bool.or_false]
theorem hasB_drop (fr : Nat) (ss : List (Option V)) (k : Nat) (i : Int) : hasB (fr + k) (ss.drop k) i = (hasB fr ss i && decide (((fr + k : Nat) : Int) < i)) := by
  rw [hasB_join, hasB_join, List.getElem?_drop]
  by_cases h : ((fr + k : Nat) : Int) < i
  · have h1 : k + (i - ((fr + k : Nat) : Int) - 1).toNat = (i - fr - 1).toNat := by omega
    have h2 : (fr : Int) < i := by omega
    rw [h1]
    simp only [h, h2, decide_true, Bool.true_and, Bool.and_true]
  · simp only [h, decide_false, Bool.false_and, Bool.and_false]
theorem hasB_nil (fr : Nat) (i : Int) : hasB fr ([] : List (Option V)) i = false := by rw [hasB_join]; simp
end Wd
namespace Mw
open WI
theorem Tie.start (fr : Nat) : Tie (.map []) fr [] := ⟨fun i _ => by rw [Wd.hasB_nil]; rfl, fun k v h => by simp at h⟩
theorem Tie.put {D : DataW Unit} {fr : Nat} {ss : List (Option Int)} (h : Tie D fr ss) (hD : Maps.IsMap D) (k : Nat) (v : Int) (hk : fr + k ≤ 2000000000000) :
    Tie (D.put (.int .i64 ((fr + 1 + k : Nat) : Int)) (.lit (.int .i64 v))) fr (Wd.laid ss k v) := by
  have hwf : (Lit.int .i64 ((fr + 1 + k : Nat) : Int)).wf = true := WalkArith.wf_i64 (by omega)
  have hkl : WideAt.IsKeyLit (.int .i64 ((fr + 1 + k : Nat) : Int)) := by simp [WideAt.IsKeyLit]
  constructor
  · intro i hi
    rw [Wd.hasB_laid, ← h.has i hi]
    by_cases e : i = ((fr + 1 + k : Nat) : Int)
    · subst e
      rw [Maps.has_put_same hD hkl]; simp
    · have h4 : decide (i = ((fr + 1 + k : Nat) : Int)) = false := by simpa using e
      rw [Maps.has_put_other (by intro h0; injection h0 with _ h0; exact e h0), h4]; simp
  · intro j u hj
    by_cases e : j = k
    · subst e
      have := Wd.laid_get ss j v j
      rw [hj] at this
      simp at this
      subst this
      rw [Maps.atKey_put_same hD hkl]
    · rw [Maps.atKey_put_other (by intro h0; injection h0 with _ h0; omega)]
      refine h.val j u ?_
      have := Wd.laid_get ss k v j
      rw [hj, if_neg e] at this
      exact Wd.join_some.1 this.symm
theorem Tie.cut {D D' : DataW Unit} {fr : Nat} {ss : List (Option Int)} (h : Tie D fr ss) (k : Nat) (h1 : ∀ i : Int, (Lit.int .i64 i).wf = true → Maps.has D' (.int .i64 i) = (Maps.has D (.int .i64 i) && decide (((fr + k : Nat) : Int) < i)))
    (h2 : ∀ (i : Int) z, ((fr + k : Nat) : Int) < i → D'.atKey (.int .i64 i) z = D.atKey (.int .i64 i) z) : Tie D' (fr + k) (ss.drop k) := by
  constructor
  · intro i hi
    rw [h1 i hi, Wd.hasB_drop, h.has i hi]
  · intro j u hj
    rw [List.getElem?_drop] at hj
    rw [h2 _ _ (by omega)]
    have := h.val (k + j) u hj
    have e : (fr + k + 1 + j : Nat) = (fr + 1 + (k + j) : Nat) := by omega
    rw [e]; exact this
theorem own.turnsI {base : Nat} {w w' : World} {B n : Nat} {D : DataW Unit} (h : own w B n D) (t : WI.Turns base w w') : own w' B n D := by
  obtain ⟨es, clock, hb, r⟩ := h
  exact ⟨es, clock, t.block _ _ hb (.inr rfl), r⟩
theorem own.turnsY {base : Nat} {w w' : World} {B n : Nat} {D : DataW Unit} (h : own w B n D) (t : WY.Turns base w w') : own w' B n D := by
  obtain ⟨es, clock, hb, r⟩ := h
  exact ⟨es, clock, t.block _ _ hb (.inr rfl), r⟩
end Mw
theorem WY.WinR.turnsI {base base' : Nat} {w w' : World} {b fr wh : Nat} {ss : List (Option WY.V)} (h : WY.WinR w base b fr wh ss) (t : WI.Turns base' w w') : WY.WinR w' base b fr wh ss := by
  obtain ⟨A, n, c, h1, h2, h3, h4⟩ := h
  exact ⟨A, n, c, t.blk h1 (by decide) (by decide), t.off h2 (by decide) (by decide), h3, h4⟩
theorem WI.WinR.turnsY {base base' : Nat} {w w' : World} {b fr wh : Nat} {ss : List (Option WI.V)} (h : WI.WinR w base b fr wh ss) (t : WY.Turns base' w w') : WI.WinR w' base b fr wh ss := by
  obtain ⟨A, n, c, h1, h2, h3, h4⟩ := h
  exact ⟨A, n, c, t.blk h1 (by decide) (by decide), t.off h2 (by decide) (by decide), h3, h4⟩
end Go.Proofs.Yteafbljdlcbckaa
