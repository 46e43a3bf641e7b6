/- RegionInvB -/
import Derived.Test.YtbgagmpifaakgaaTF41
namespace Go.Proofs.Ytbgagmpifaakgaa
open Go.RowKit
set_option linter.unusedVariables false
/-- nothing that was there is turned -/
def Bw (w w' : World) : Prop := Below w.heap.size w w'
section
variable {P : Program} {md : Region.Mode} {ops : Array Oper} {Q : Exit → Act → World → Prop}
/-- one operation: wanted ('wt') it is done, else its place holds nothing -/
def OpOKB (P : Program) (Q : Exit → Act → World → Prop) (w0 : World) (V : Nat → Value → World → Prop) (dst : Nat → Nat) (deps : Nat → List Nat) (Fr : Act → Prop) (wt : Bool) (i : Nat) (o : Oper) : Prop :=
  ∀ (a : Act) (w : World), Fr a → Below w0.heap.size w0 w → (∀ j ∈ deps i, V j (a.eval (.tmp (dst j))) w) → ∀ K : Act → World → Prop, Shut (∀ v w', Bw w w' → Below w0.heap.size w0 w' → V i v w' → K (a.put o.dst v) w') →
    if wt = true then Oper.wp P o a w K Q else K (a.put o.dst undef) w
theorem region_invB {id : Nat} (frame : (Nat → Value) → Act) (dst : Nat → Nat) (deps : Nat → List Nat) (want : Nat → Bool) (V : Nat → Value → World → Prop) (Fr : Act → Prop) {w0 w : World} {U0 : Nat → Value} (hm : P.follows .mixedOrders = true) (hb : goesBack .any ops = true)
    (hinj : ∀ i j, i < ops.size → j < ops.size → dst i = dst j → i = j) (hdst : ∀ i o, ops[i]? = some o → o.dst = some (dst i)) (hdeps : ∀ i, i < ops.size → ∀ j ∈ deps i, Region.waitsFor .any ops i j = true)
    (hwant : ∀ i o, ops[i]? = some o → ∀ U w, (∀ j ∈ deps i, V j (U (dst j)) w) → Region.wanted o (yielded ops (frame U).tmps) = want i)
    (hput : ∀ i o, ops[i]? = some o → ∀ U v, (frame U).put (some (dst i)) v = frame (fun n => if n = dst i then v else U n)) (hev : ∀ i o, ops[i]? = some o → ∀ U, (frame U).eval (.tmp (dst i)) = U (dst i)) (hfr : ∀ U, Fr (frame U))
    (hst : ∀ i v w w', V i v w → Bw w w' → V i v w') (hB : Below w0.heap.size w0 w) (hok : ∀ i o, ops[i]? = some o → OpOKB P Q w0 V dst deps Fr (want i) i o)
    (hdone : ∀ U w', Below w0.heap.size w0 w' → (∀ i, i < ops.size → V i (U (dst i)) w') → Q .normal (frame U) w') : (Code.region id ops true).wp P Q (frame U0) w := by
  refine wp_region_any hm (wpAny_inv (I := fun listed a w => ∃ U, a = frame U ∧ Below w0.heap.size w0 w ∧ listed.size = ops.size ∧ ∀ i, i < ops.size → listed.getD i false = true → V i (U (dst i)) w) hb (fun listed a w h => by obtain ⟨_, _, _, h, _⟩ := h; exact h) ?_ ?_ ops.size _ _ _
    ⟨U0, rfl, hB.drew, by simp, fun i hi h => by simp [hi] at h⟩ ?_)
  · rintro listed a w i o ⟨U, rfl, hBw, hs, hV⟩ hi ho K hK
    have hd := hdst i o ho
    have hlt := (Array.getElem?_eq_some_iff.1 ho).1
    have hdep : ∀ j ∈ deps i, V j (U (dst j)) w := fun j hj => by
      have h1 := ready_dep (hdeps i hlt j hj) hi
      have hjl : j < ops.size := by
        rcases Nat.lt_or_ge j listed.size with h' | h'
        · omega
        · simp [Array.getElem?_eq_none h'] at h1
      exact hV j hjl h1
    have hjs : ∀ j ∈ deps i, j < ops.size := fun j hj => by
      have h1 := ready_dep (hdeps i hlt j hj) hi
      rcases Nat.lt_or_ge j listed.size with h' | h'
      · omega
      · simp [Array.getElem?_eq_none h'] at h1
    rw [hwant i o ho U w hdep]
    refine hok i o ho (frame U) w (hfr U) hBw (fun j hj => ?_) K (fun v w' he hB' hv => hK _ _ ⟨fun n => if n = dst i then v else U n, ?_, hB', by simp [hs], fun j hj hl => ?_⟩)
    · have hjl := hjs j hj
      rw [hev j ops[j] (Array.getElem?_eq_getElem hjl)]
      exact hdep j hj
    · rw [hd]; exact hput i o ho U v
    · by_cases hji : j = i
      · subst hji; show V j (if dst j = dst j then v else U (dst j)) w'; rw [if_pos rfl]; exact hv
      · have hne : dst j ≠ dst i := fun e => hji (hinj j i hj hlt e)
        simp only [if_neg hne]
        rw [getD_set_ne false (Ne.symm hji)] at hl
        exact hst j _ _ _ (hV j hj hl) he
  · rintro listed a w ⟨U, rfl, hBw, hs, hV⟩ hall
    exact hdone U w hBw (fun i hi => hV i hi (hall i hi))
  · unfold unl
    exact Nat.le_trans (List.length_filter_le _ _) (by simp)
end
end Go.Proofs.Ytbgagmpifaakgaa

