/- RegionInvB -/
import Derived.Test.YtlfkgpllleogoaaDP30
namespace Go.Proofs.Ytlfkgpllleogoaa
open Go.RowKit
set_option linter.unusedVariables false
/-- nothing that was there is turned -/
def Bw (w w' : World) : Prop := Below w.heap.size w w'
section
variable {P : Program} {md : Region.Mode} {ops : Array Oper} {Q : Exit → Act → World → Prop}
/-- one operation: wanted ('wt') it is done, else its place holds nothing -/
def OpOKB (P : Program) (Q : Exit → Act → World → Prop) (w0 : World) (V : Nat → Value → World → Prop) (dst : Nat → Nat) (deps : Nat → List Nat) (Fr : Act → Prop) (wt : Bool) (i : Nat) (o : Oper) : Prop :=
  ∀ (a : Act) (w : World), Fr a → Below w0.heap.size w0 w → (∀ j ∈ deps i, V j (a.eval (.tmp (dst j))) w) → ∀ K : Act → World → Prop, Shut (∀ v w', Bw w w' → Below w0.heap.size w0 w' → V i v w' → K (a.put o.dst v) w') →
    if wt = true then Oper.wp P o a w K Q else K (a.put o.dst undef) w
theorem region_invB {id : Nat} (frame : (Nat → Value) → Act) (dst : Nat → Nat) (deps : Nat → List Nat) (want : Nat → Bool) (V : Nat → Value → World → Prop) (Fr : Act → Prop) {w0 w : World} {U0 : Nat → Value} (hm : P.follows .mixedOrders = true) (hb : goesBack .any ops = true)
    (hinj : ∀ i j, i < ops.size → j < ops.size → dst i = dst j → i = j) (hdst : ∀ i o, ops[i]? = some o → o.dst = some (dst i)) (hdeps : ∀ i, i < ops.size → ∀ j ∈ deps i, Region.waitsFor .any ops i j = true)
    (hwant : ∀ i o, ops[i]? = some o → ∀ U w, (∀ j ∈ deps i, V j (U (dst j)) w) → Region.wanted o (yielded ops (frame U).tmps) = want i)
    (hput : ∀ i o, ops[i]? = some o → ∀ U v, (frame U).put (some (dst i)) v = frame (fun n => if n = dst i then v else U n)) (hev : ∀ i o, ops[i]? = some o → ∀ U, (frame U).eval (.tmp (dst i)) = U (dst i)) (hfr : ∀ U, Fr (frame U))
    (hst : ∀ i v w w', V i v w → Bw w w' → V i v w') (hB : Below w0.heap.size w0 w) (hok : ∀ i o, ops[i]? = some o → OpOKB P Q w0 V dst deps Fr (want i) i o)
    (hdone : ∀ U w', Below w0.heap.size w0 w' → (∀ i, i < ops.size → V i (U (dst i)) w') → Q .normal (frame U) w') : (Code.region id ops true).wp P Q (frame U0) w := by
  refine wp_region_any hm (wpAny_inv (I := fun listed a w => ∃ U, a = frame U ∧ Below w0.heap.size w0 w ∧ listed.size = ops.size ∧ ∀ i, i < ops.size → listed.getD i false = true → V i (U (dst i)) w) hb (fun listed a w h => by obtain ⟨_, _, _, h, _⟩ := h; exact h) ?_ ?_ ops.size _ _ _
    ⟨U0, rfl, hB.drew, by simp, fun i hi h => by simp [hi] at h⟩ ?_)
  · rintro listed a w i o ⟨U, rfl, hBw, hs, hV⟩ hi ho K hK
    have hd := hdst i o ho
    have hlt := (Array.getElem?_eq_some_iff.1 ho).1
    have hdep : ∀ j ∈ deps i, V j (U (dst j)) w := fun j hj => by
      have h1 := ready_dep (hdeps i hlt j hj) hi
      have hjl : j < ops.size := by
        rcases Nat.lt_or_ge j listed.size with h' | h'
        · omega
        · simp [Array.getElem?_eq_none h'] at h1
      exact hV j hjl h1
    have hjs : ∀ j ∈ deps i, j < ops.size := fun j hj => by
      have h1 := ready_dep (hdeps i hlt j hj) hi
      rcases Nat.lt_or_ge j listed.size with h' | h'
      · omega
      · simp [Array.getElem?_eq_none h'] at h1
    rw [hwant i o ho U w hdep]
    refine hok i o ho (frame U) w (hfr U) hBw (fun j hj => ?_) K (fun v w' he hB' hv => hK _ _ ⟨fun n => if n = dst i then v else U n, ?_, hB', by simp [hs], fun j hj hl => ?_⟩)
    · have hjl := hjs j hj
      rw [hev j ops[j] (Array.getElem?_eq_getElem hjl)]
      exact hdep j hj
    · rw [hd]; exact hput i o ho U v
    · by_cases hji : j = i
      · subst hji; show V j (if dst j = dst j then v else U (dst j)) w'; rw [if_pos rfl]; exact hv
      · have hne : dst j ≠ dst i := fun e => hji (hinj j i hj hlt e)
        simp only [if_neg hne]
        rw [getD_set_ne false (Ne.symm hji)] at hl
        exact hst j _ _ _ (hV j hj hl) he
  · rintro listed a w ⟨U, rfl, hBw, hs, hV⟩ hall
    exact hdone U w hBw (fun i hi => hV i hi (hall i hi))
  · unfold unl
    exact Nat.le_trans (List.length_filter_le _ _) (by simp)
/-- the same, where the last operation waits for all others and may write what they read -/
theorem region_invL {id L : Nat} (frame : (Nat → Value) → Act) (dst : Nat → Nat) (deps : Nat → List Nat) (want : Nat → Bool) (V : Nat → Value → World → Prop) (Fr : Act → Prop) {w0 w : World} {U0 : Nat → Value} (hL : L + 1 = ops.size) (hm : P.follows .mixedOrders = true) (hb : goesBack .any ops = true)
    (hinj : ∀ i j, i < L → j < L → dst i = dst j → i = j) (hdst : ∀ i o, i < L → ops[i]? = some o → o.dst = some (dst i)) (hdeps : ∀ i, i < L → ∀ j ∈ deps i, j < L ∧ Region.waitsFor .any ops i j = true) (hall : ∀ j, j < L → Region.waitsFor .any ops L j = true)
    (hwant : ∀ i o, i < L → ops[i]? = some o → ∀ U w, (∀ j ∈ deps i, V j (U (dst j)) w) → Region.wanted o (yielded ops (frame U).tmps) = want i)
    (hput : ∀ i o, i < L → ops[i]? = some o → ∀ U v, (frame U).put (some (dst i)) v = frame (fun n => if n = dst i then v else U n)) (hev : ∀ i o, i < L → ops[i]? = some o → ∀ U, (frame U).eval (.tmp (dst i)) = U (dst i)) (hfr : ∀ U, Fr (frame U))
    (hst : ∀ i v w w', V i v w → Bw w w' → V i v w') (hB : Below w0.heap.size w0 w) (hok : ∀ i o, i < L → ops[i]? = some o → OpOKB P Q w0 V dst deps Fr (want i) i o)
    (hlast : ∀ o, ops[L]? = some o → ∀ U w', Below w0.heap.size w0 w' → (∀ i, i < L → V i (U (dst i)) w') → ∀ K : Act → World → Prop, Shut (∀ a' w'', Q .normal a' w'' → K a' w'') →
      if Region.wanted o (yielded ops (frame U).tmps) = true then Oper.wp P o (frame U) w' K Q else K ((frame U).put o.dst undef) w') : (Code.region id ops true).wp P Q (frame U0) w := by
  refine wp_region_any hm (wpAny_inv (I := fun listed a w => listed.size = ops.size ∧ ((listed.getD L false = false ∧ ∃ U, a = frame U ∧ Below w0.heap.size w0 w ∧ ∀ i, i < L → listed.getD i false = true → V i (U (dst i)) w) ∨ ((∀ i, i < ops.size → listed.getD i false = true) ∧ Q .normal a w))) hb (fun listed a w h => h.1) ?_ ?_ ops.size _ _ _
    ⟨by simp, .inl ⟨by simp [show L < ops.size by omega], U0, rfl, hB.drew, fun i hi h => by simp [show i < ops.size by omega] at h⟩⟩ ?_)
  · rintro listed a w i o ⟨hs, hc⟩ hi ho K hK
    have hlt := (Array.getElem?_eq_some_iff.1 ho).1
    have hnot : listed.getD i false = false := by
      have h0 := (mem_ready.1 hi).1
      have hl : i < listed.size := by omega
      simp only [Array.getD, hl, dif_pos] at h0 ⊢
      exact h0
    rcases hc with ⟨hLn, U, rfl, hBw, hV⟩ | ⟨hal, _⟩
    · by_cases hiL : i = L
      · subst hiL
        have hlisted : ∀ j, j < i → listed.getD j false = true := fun j hj => ready_dep (hall j hj) hi
        refine hlast o ho U w hBw (fun j hj => hV j hj (hlisted j hj)) K (fun a' w'' hq => hK _ _ ⟨by simp [hs], .inr ⟨fun j hj => ?_, hq⟩⟩)
        by_cases hji : j = i
        · subst hji
          have hl : j < listed.size := by omega
          simp [hl]
        · rw [getD_set_ne false (Ne.symm hji)]
          exact hlisted j (by omega)
      · have hiL' : i < L := by omega
        have hd := hdst i o hiL' ho
        have hdep : ∀ j ∈ deps i, V j (U (dst j)) w := fun j hj => hV j (hdeps i hiL' j hj).1 (ready_dep (hdeps i hiL' j hj).2 hi)
        rw [hwant i o hiL' ho U w hdep]
        refine hok i o hiL' ho (frame U) w (hfr U) hBw (fun j hj => ?_) K (fun v w' he hB' hv => hK _ _ ⟨by simp [hs], .inl ⟨?_, fun n => if n = dst i then v else U n, ?_, hB', fun j hj hl => ?_⟩⟩)
        · have hjl := (hdeps i hiL' j hj).1
          rw [hev j ops[j] hjl (Array.getElem?_eq_getElem (by omega))]
          exact hdep j hj
        · rw [getD_set_ne false hiL]
          exact hLn
        · rw [hd]; exact hput i o hiL' ho U v
        · by_cases hji : j = i
          · subst hji; show V j (if dst j = dst j then v else U (dst j)) w'; rw [if_pos rfl]; exact hv
          · have hne : dst j ≠ dst i := fun e => hji (hinj j i hj hiL' e)
            simp only [if_neg hne]
            rw [getD_set_ne false (Ne.symm hji)] at hl
            exact hst j _ _ _ (hV j hj hl) he
    · exact absurd (hal i hlt) (by rw [hnot]; decide)
  · rintro listed a w ⟨hs, hc⟩ hallL
    rcases hc with ⟨hLn, _⟩ | ⟨_, hq⟩
    · rw [hallL L (by omega)] at hLn; cases hLn
    · exact hq
  · unfold unl
    exact Nat.le_trans (List.length_filter_le _ _) (by simp)
end
end Go.Proofs.Ytlfkgpllleogoaa

