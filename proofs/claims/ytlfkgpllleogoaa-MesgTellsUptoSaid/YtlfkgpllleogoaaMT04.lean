/- QKit IntKit EqualKit RegionInvB -/
import Derived.Test.YtlfkgpllleogoaaMT01
import Derived.Test.YtlfkgpllleogoaaMT03
import Derived.Deep.Matrix
namespace Go.Proofs.Ytlfkgpllleogoaa
open Go.RowKit
set_option linter.unusedVariables false

/-- the slices vs read as the rows qs, in blocks below B -/
structure Cells (w : World) (B : Nat) (vs : List Value) (qs : List (List Nat)) : Prop where
  len : vs.length = qs.length
  cell : ∀ (i : Nat) (l : List Nat), qs[i]? = some l → ∃ A c, vs[i]? = some (.slice A l.length c) ∧ Rd w B A l.length (bv l)
section
variable {w w' : World} {B B' n : Nat} {A : Option Addr} {vs : List Value} {qs : List (List Nat)}
end
end Go.Proofs.Ytlfkgpllleogoaa

namespace Go.Proofs.Ytlfkgpllleogoaa
open Go.RowKit
set_option linter.unusedVariables false
theorem cellI : CellT Try.prog 23 3 (.int .i64 0) 8 := ⟨Try.underlying23, by kernel_rfl, rfl⟩
/-- the call that began in W made a row that is the integers l -/
abbrev OwnI (W w : World) (A : Option Addr) (n c : Nat) (l : List Int) : Prop := w.ownsRow W.heap.size 3 1 (.slice A n c) n (iv l)
theorem ownI_len {W w : World} {A : Option Addr} {n c : Nat} {l : List Int} (h : OwnI W w A n c l) : l.length = n := by
  have := h.1; rw [iv_length] at this; omega
theorem ownI_nil (W w : World) : OwnI W w none 0 0 [] := ⟨rfl, .inl ⟨rfl, rfl⟩⟩
theorem Rd.oneAt (w : World) (v : Value) (t : TypeId) {g : Nat} (hg : w.heap.size = g) : Rd (w.alloc (.cells #[v] t)) (g + 1) (some ⟨g, 0, none⟩) 1 [v] := by
  subst hg; exact Rd.oneV w v t
theorem own_of {W w w' : World} {e : TypeId} {size n : Nat} {v : Value} {xs : List Value} (hs : W.heap.size ≤ w.heap.size) (h : w'.ownsRow w.heap.size e size v n xs) : w'.ownsRow W.heap.size e size v n xs := by
  obtain ⟨h1, h2⟩ := h
  refine ⟨h1, ?_⟩
  rcases h2 with h2 | ⟨g, cap, cur, hv, hg, r⟩
  · exact .inl h2
  · exact .inr ⟨g, cap, cur, hv, Nat.le_trans hs hg, r⟩
end Go.Proofs.Ytlfkgpllleogoaa

namespace Go.Proofs.Ytlfkgpllleogoaa
open Go.RowKit
set_option linter.unusedVariables false
/-- two rows of bytes alike -/
theorem equal_any (w : World) (A A' : Option Addr) (n c n' c' B B' : Nat) (l l' : List Nat) (hl : ∀ x ∈ l, x < 256) (hl' : ∀ x ∈ l', x < 256) (h : Rd w B A n (bv l)) (h' : Rd w B' A' n' (bv l')) :
    Calls Try.prog 40 #[.slice A n c, .slice A' n' c'] w fun e w' => e = .returned (.bool (decide (l = l'))) ∧ w' = w := by
  have k1 := str_of (c := c) h
  have k2 := str_of (c := c') h'
  have k3 := strL_eq hl hl'
  clear h h'
  go_enter Try.func40, Try.ntmps40
  go_wp2
  go_ret
  exact ⟨by first | exact ret_bool k3 | rfl | (rw [← k3]; rfl), rfl⟩
end Go.Proofs.Ytlfkgpllleogoaa

namespace Go.Proofs.Ytlfkgpllleogoaa
open Go.RowKit
set_option linter.unusedVariables false
/-- nothing that was there is turned -/
def Bw (w w' : World) : Prop := Below w.heap.size w w'
section
variable {P : Program} {md : Region.Mode} {ops : Array Oper} {Q : Exit → Act → World → Prop}
/-- one operation: wanted ('wt') it is done, else its place holds nothing -/
def OpOKB (P : Program) (Q : Exit → Act → World → Prop) (w0 : World) (V : Nat → Value → World → Prop) (dst : Nat → Nat) (deps : Nat → List Nat) (Fr : Act → Prop) (wt : Bool) (i : Nat) (o : Oper) : Prop :=
  ∀ (a : Act) (w : World), Fr a → Below w0.heap.size w0 w → (∀ j ∈ deps i, V j (a.eval (.tmp (dst j))) w) → ∀ K : Act → World → Prop, Shut (∀ v w', Bw w w' → Below w0.heap.size w0 w' → V i v w' → K (a.put o.dst v) w') →
    if wt = true then Oper.wp P o a w K Q else K (a.put o.dst undef) w
/-- the same, where the last operation waits for all others and may write what they read -/
theorem region_invL {id L : Nat} (frame : (Nat → Value) → Act) (dst : Nat → Nat) (deps : Nat → List Nat) (want : Nat → Bool) (V : Nat → Value → World → Prop) (Fr : Act → Prop) {w0 w : World} {U0 : Nat → Value} (hL : L + 1 = ops.size) (hm : P.follows .mixedOrders = true) (hb : goesBack .any ops = true)
    (hinj : ∀ i j, i < L → j < L → dst i = dst j → i = j) (hdst : ∀ i o, i < L → ops[i]? = some o → o.dst = some (dst i)) (hdeps : ∀ i, i < L → ∀ j ∈ deps i, j < L ∧ Region.waitsFor .any ops i j = true) (hall : ∀ j, j < L → Region.waitsFor .any ops L j = true)
    (hwant : ∀ i o, i < L → ops[i]? = some o → ∀ U w, (∀ j ∈ deps i, V j (U (dst j)) w) → Region.wanted o (yielded ops (frame U).tmps) = want i)
    (hput : ∀ i o, i < L → ops[i]? = some o → ∀ U v, (frame U).put (some (dst i)) v = frame (fun n => if n = dst i then v else U n)) (hev : ∀ i o, i < L → ops[i]? = some o → ∀ U, (frame U).eval (.tmp (dst i)) = U (dst i)) (hfr : ∀ U, Fr (frame U))
    (hst : ∀ i v w w', V i v w → Bw w w' → V i v w') (hB : Below w0.heap.size w0 w) (hok : ∀ i o, i < L → ops[i]? = some o → OpOKB P Q w0 V dst deps Fr (want i) i o)
    (hlast : ∀ o, ops[L]? = some o → ∀ U w', Below w0.heap.size w0 w' → (∀ i, i < L → V i (U (dst i)) w') → ∀ K : Act → World → Prop, Shut (∀ a' w'', Q .normal a' w'' → K a' w'') →
      if Region.wanted o (yielded ops (frame U).tmps) = true then Oper.wp P o (frame U) w' K Q else K ((frame U).put o.dst undef) w') : (Code.region id ops true).wp P Q (frame U0) w := by
  refine wp_region_any hm (wpAny_inv (I := fun listed a w => listed.size = ops.size ∧ ((listed.getD L false = false ∧ ∃ U, a = frame U ∧ Below w0.heap.size w0 w ∧ ∀ i, i < L → listed.getD i false = true → V i (U (dst i)) w) ∨ ((∀ i, i < ops.size → listed.getD i false = true) ∧ Q .normal a w))) hb (fun listed a w h => h.1) ?_ ?_ ops.size _ _ _
    ⟨by simp, .inl ⟨by simp [show L < ops.size by omega], U0, rfl, hB.drew, fun i hi h => by simp [show i < ops.size by omega] at h⟩⟩ ?_)
  · rintro listed a w i o ⟨hs, hc⟩ hi ho K hK
    have hlt := (Array.getElem?_eq_some_iff.1 ho).1
    have hnot : listed.getD i false = false := by
      have h0 := (mem_ready.1 hi).1
      have hl : i < listed.size := by omega
      simp only [Array.getD, hl, dif_pos] at h0 ⊢
      exact h0
    rcases hc with ⟨hLn, U, rfl, hBw, hV⟩ | ⟨hal, _⟩
    · by_cases hiL : i = L
      · subst hiL
        have hlisted : ∀ j, j < i → listed.getD j false = true := fun j hj => ready_dep (hall j hj) hi
        refine hlast o ho U w hBw (fun j hj => hV j hj (hlisted j hj)) K (fun a' w'' hq => hK _ _ ⟨by simp [hs], .inr ⟨fun j hj => ?_, hq⟩⟩)
        by_cases hji : j = i
        · subst hji
          have hl : j < listed.size := by omega
          simp [hl]
        · rw [getD_set_ne false (Ne.symm hji)]
          exact hlisted j (by omega)
      · have hiL' : i < L := by omega
        have hd := hdst i o hiL' ho
        have hdep : ∀ j ∈ deps i, V j (U (dst j)) w := fun j hj => hV j (hdeps i hiL' j hj).1 (ready_dep (hdeps i hiL' j hj).2 hi)
        rw [hwant i o hiL' ho U w hdep]
        refine hok i o hiL' ho (frame U) w (hfr U) hBw (fun j hj => ?_) K (fun v w' he hB' hv => hK _ _ ⟨by simp [hs], .inl ⟨?_, fun n => if n = dst i then v else U n, ?_, hB', fun j hj hl => ?_⟩⟩)
        · have hjl := (hdeps i hiL' j hj).1
          rw [hev j ops[j] hjl (Array.getElem?_eq_getElem (by omega))]
          exact hdep j hj
        · rw [getD_set_ne false hiL]
          exact hLn
        · rw [hd]; exact hput i o hiL' ho U v
        · by_cases hji : j = i
          · subst hji; show V j (if dst j = dst j then v else U (dst j)) w'; rw [if_pos rfl]; exact hv
          · have hne : dst j ≠ dst i := fun e => hji (hinj j i hj hiL' e)
            simp only [if_neg hne]
            rw [getD_set_ne false (Ne.symm hji)] at hl
            exact hst j _ _ _ (hV j hj hl) he
    · exact absurd (hal i hlt) (by rw [hnot]; decide)
  · rintro listed a w ⟨hs, hc⟩ hallL
    rcases hc with ⟨hLn, _⟩ | ⟨_, hq⟩
    · rw [hallL L (by omega)] at hLn; cases hLn
    · exact hq
  · unfold unl
    exact Nat.le_trans (List.length_filter_le _ _) (by simp)
end
end Go.Proofs.Ytlfkgpllleogoaa

