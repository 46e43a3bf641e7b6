/- RegionJ -/
import Derived.Test.YtmekamgohonffaaBF47
namespace Go.Proofs.Ytmekamgohonffaa
open Go.RowKit
set_option linter.unusedVariables false
section
variable {P : Program} {ops : Array Oper} {Q : Exit → Act → World → Prop}
def updJ (d : Option Nat) (U : Nat → Value) (v : Value) : Nat → Value := match d with
  | some d => fun n => if n = d then v else U n
  | none => U
def setJ (L : Nat → Bool) (i : Nat) : Nat → Bool := fun k => if k = i then true else L k
theorem setJ_self (L : Nat → Bool) (i : Nat) : setJ L i i = true := if_pos rfl
theorem setJ_ne {L : Nat → Bool} {i k : Nat} (h : k ≠ i) : setJ L i k = L k := if_neg h
/-- what one operation owes -/
def OpJ (P : Program) (Q : Exit → Act → World → Prop) (frame : (Nat → Value) → Act) (dst : Nat → Option Nat) (deps : Nat → List Nat) (J : (Nat → Bool) → (Nat → Value) → World → Prop) (i : Nat) (o : Oper) : Prop :=
  ∀ (L : Nat → Bool) (U : Nat → Value) (w : World), J L U w → L i = false → (∀ j ∈ deps i, L j = true) → ∀ K : Act → World → Prop, Shut (∀ v w', J (setJ L i) (updJ (dst i) U v) w' → K ((frame U).put (dst i) v) w') → Oper.wp P o (frame U) w K Q
theorem region_J {id : Nat} (frame : (Nat → Value) → Act) (dst : Nat → Option Nat) (deps : Nat → List Nat) (J : (Nat → Bool) → (Nat → Value) → World → Prop) {w : World} {U0 : Nat → Value} (hm : P.follows .mixedOrders = true) (hb : goesBack .any ops = true)
    (hdst : ∀ (i : Nat) (o : Oper), ops[i]? = some o → o.guard = none)
    (hdeps : ∀ i, i < ops.size → ∀ j ∈ deps i, Region.waitsFor .any ops i j = true)
    (hput : ∀ (i : Nat) (o : Oper), ops[i]? = some o → ∀ U v, (frame U).put (dst i) v = frame (updJ (dst i) U v))
    (h0 : J (fun _ => false) U0 w.drew) (hok : ∀ (i : Nat) (o : Oper), ops[i]? = some o → OpJ P Q frame dst deps J i o)
    (hdone : ∀ L U w', (∀ i, i < ops.size → L i = true) → J L U w' → Q .normal (frame U) w') : (Code.region id ops true).wp P Q (frame U0) w := by
  refine wp_region_any hm (wpAny_inv (I := fun listed a w => ∃ U, a = frame U ∧ listed.size = ops.size ∧ J (fun i => listed.getD i false) U w) hb (fun listed a w h => by obtain ⟨_, _, h, _⟩ := h; exact h) ?_ ?_ ops.size _ _ _
    ⟨U0, rfl, by simp, ?_⟩ ?_)
  · rintro listed a w i o ⟨U, rfl, hs, hJ⟩ hi ho K hK
    have hg := hdst i o ho
    have hlt := (Array.getElem?_eq_some_iff.1 ho).1
    rw [if_pos (by simp [Region.wanted, hg])]
    have hni : listed.getD i false = false := by
      obtain ⟨h0, _⟩ := mem_ready.1 hi
      have hl2 : i < listed.size := by omega
      simpa [hl2] using h0
    refine hok i o ho _ U w hJ hni (fun j hj => ready_dep (hdeps i hlt j hj) hi) K (fun v w' hv => hK _ _ ⟨_, hput i o ho U v, by simp [hs], ?_⟩)
    have e : (fun k => (listed.setIfInBounds i true).getD k false) = setJ (fun k => listed.getD k false) i := by
      funext k
      unfold setJ
      by_cases hk : k = i
      · subst hk
        have hl2 : k < listed.size := by omega
        simp [hl2]
      · rw [if_neg hk, getD_set_ne false (fun e => hk e.symm)]
    rw [e]
    exact hv
  · rintro listed a w ⟨U, rfl, hs, hJ⟩ hall
    exact hdone _ U w (fun i hi => hall i hi) hJ
  · have e : (fun i => (Array.replicate ops.size false).getD i false) = fun _ => false := by
      funext i
      by_cases hi : i < ops.size
      · simp [hi]
      · simp [hi]
    rw [e]
    exact h0
  · unfold unl
    exact Nat.le_trans (List.length_filter_le _ _) (by simp)
/-- what one operation owes, whatever the frame -/
def OpJ2 (P : Program) (Q : Exit → Act → World → Prop) (dst : Nat → Option Nat) (deps : Nat → List Nat) (Fr : Act → Prop) (J : (Nat → Bool) → (Nat → Value) → World → Prop) (i : Nat) (o : Oper) : Prop :=
  ∀ (a : Act) (L : Nat → Bool) (U : Nat → Value) (w : World), Fr a → (∀ j ∈ deps i, ∀ d, dst j = some d → a.eval (.tmp d) = U d) → J L U w → L i = false → (∀ j ∈ deps i, L j = true) → ∀ K : Act → World → Prop, Shut (∀ v w', J (setJ L i) (updJ (dst i) U v) w' → K (a.put (dst i) v) w') → Oper.wp P o a w K Q
theorem region_J2 {id : Nat} (frame : (Nat → Value) → Act) (dst : Nat → Option Nat) (deps : Nat → List Nat) (Fr : Act → Prop) (J : (Nat → Bool) → (Nat → Value) → World → Prop) {w : World} {U0 : Nat → Value} (hm : P.follows .mixedOrders = true) (hb : goesBack .any ops = true)
    (hdst : ∀ (i : Nat) (o : Oper), ops[i]? = some o → o.guard = none)
    (hdeps : ∀ i, i < ops.size → ∀ j ∈ deps i, Region.waitsFor .any ops i j = true)
    (hput : ∀ (i : Nat) (o : Oper), ops[i]? = some o → ∀ U v, (frame U).put (dst i) v = frame (updJ (dst i) U v))
    (hev : ∀ j d, dst j = some d → ∀ U, (frame U).eval (.tmp d) = U d) (hfr : ∀ U, Fr (frame U))
    (h0 : J (fun _ => false) U0 w.drew) (hok : ∀ (i : Nat) (o : Oper), ops[i]? = some o → OpJ2 P Q dst deps Fr J i o)
    (hdone : ∀ L U w', (∀ i, i < ops.size → L i = true) → J L U w' → Q .normal (frame U) w') : (Code.region id ops true).wp P Q (frame U0) w :=
  region_J frame dst deps J hm hb hdst hdeps hput h0 (fun i o ho L U w hJ hn hd K hK => hok i o ho (frame U) L U w (hfr U) (fun j hj d hd => hev j d hd U) hJ hn hd K hK) hdone
end
end Go.Proofs.Ytmekamgohonffaa

