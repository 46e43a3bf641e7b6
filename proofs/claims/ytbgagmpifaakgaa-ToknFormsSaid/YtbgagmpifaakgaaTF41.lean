/- RegionInv -/
import Derived.Below
import Derived.Deep.RegionHeld
import Derived.Lib.Hide
import Derived.StillTail
namespace Go.Proofs.Ytbgagmpifaakgaa
open Go.RowKit
set_option linter.unusedVariables false
section
variable {P : Program} {md : Region.Mode} {ops : Array Oper} {Q : Exit → Act → World → Prop}
theorem filter_lt {l : List Nat} {p p' : Nat → Bool} {i : Nat} (hi : i ∈ l) (h1 : p i = true) (h2 : p' i = false) (h : ∀ x, p' x = true → p x = true) : (l.filter p').length < (l.filter p).length := by
  have le : ∀ l : List Nat, (l.filter p').length ≤ (l.filter p).length := by
    intro l
    induction l with
    | nil => simp
    | cons x l ih =>
      by_cases hx : p' x = true
      · rw [List.filter_cons_of_pos hx, List.filter_cons_of_pos (h x hx)]; simp; omega
      · rw [List.filter_cons_of_neg hx]
        by_cases hy : p x = true
        · rw [List.filter_cons_of_pos hy]; simp; omega
        · rw [List.filter_cons_of_neg hy]; exact ih
  induction l with
  | nil => cases hi
  | cons x l ih =>
    rcases List.mem_cons.1 hi with rfl | hi
    · rw [List.filter_cons_of_pos h1, List.filter_cons_of_neg (by rw [h2]; simp)]
      have := le l
      simp; omega
    · have := ih hi
      by_cases hx : p' x = true
      · rw [List.filter_cons_of_pos hx, List.filter_cons_of_pos (h x hx)]; simp; omega
      · rw [List.filter_cons_of_neg hx]
        by_cases hy : p x = true
        · rw [List.filter_cons_of_pos hy]; simp; omega
        · rw [List.filter_cons_of_neg hy]; exact this
/-- how many are not listed yet -/
def unl (n : Nat) (listed : Array Bool) : Nat := ((List.range n).filter fun i => !listed.getD i true).length
theorem unl_set {n i : Nat} {listed : Array Bool} (hi : i < n) (hs : listed.size = n) (h : listed.getD i true = false) : unl n (listed.setIfInBounds i true) < unl n listed := by
  refine filter_lt (i := i) (List.mem_range.2 hi) (by simp only [h]; rfl) ?_ (fun x hx => ?_)
  · simp [hs, hi]
  · by_cases e : i = x
    · subst e; simp only [h]; rfl
    · rwa [getD_set_ne true e] at hx
theorem all_listed {n : Nat} {listed : Array Bool} (hs : listed.size = n) (h : unl n listed = 0) : ∀ i, i < n → listed.getD i false = true := fun i hi => by
  have h1 := List.eq_nil_of_length_eq_zero h
  have h2 : i ∉ (List.range n).filter fun i => !listed.getD i true := by rw [h1]; simp
  rw [List.mem_filter] at h2
  have h3 : listed.getD i true = true := by
    cases hh : listed.getD i true
    · exact absurd ⟨List.mem_range.2 hi, by rw [hh]; rfl⟩ h2
    · rfl
  have hlt : i < listed.size := by omega
  simpa [hlt] using h3
/-- each edge that binds goes back -/
def goesBack (md : Region.Mode) (ops : Array Oper) : Bool := (List.range ops.size).all fun i => ((ops[i]?).map (·.after.all fun e => !Region.binds md e || decide (e.on < i))).getD true
theorem ready_nil {listed : Array Bool} (hb : goesBack md ops = true) (hs : listed.size = ops.size) (hr : Region.ready md ops listed = []) : ∀ i, i < ops.size → listed.getD i false = true := by
  intro i
  induction i using Nat.strongRecOn with
  | ind i ih =>
    intro hi
    cases hh : listed.getD i false with
    | true => rfl
    | false =>
      have hlt : i < listed.size := by omega
      have h0 : listed.getD i true = false := by simpa [hlt] using hh
      have : i ∈ Region.ready md ops listed := by
        refine mem_ready.2 ⟨h0, ops[i], Array.getElem?_eq_getElem hi, fun e he hbd => ?_⟩
        have h1 := List.all_eq_true.1 hb i (List.mem_range.2 hi)
        rw [Array.getElem?_eq_getElem hi] at h1
        simp only [Option.map_some, Option.getD_some, Array.all_eq_true_iff_forall_mem, Bool.or_eq_true, Bool.not_eq_true', decide_eq_true_eq] at h1
        have h2 := (h1 e he).resolve_left (by rw [hbd]; simp)
        exact ih e.on h2 (by omega)
      rw [hr] at this
      cases this
theorem wpAny_inv {I : Array Bool → Act → World → Prop} (hb : goesBack md ops = true) (hsz : ∀ listed a w, I listed a w → listed.size = ops.size)
    (hstep : ∀ listed a w i o, I listed a w → i ∈ Region.ready md ops listed → ops[i]? = some o → ∀ K : Act → World → Prop, (∀ a' w', I (listed.setIfInBounds i true) a' w' → K a' w') →
      if Region.wanted o (yielded ops a.tmps) = true then Oper.wp P o a w K Q else K (a.put o.dst undef) w)
    (hdone : ∀ listed a w, I listed a w → (∀ i, i < ops.size → listed.getD i false = true) → Q .normal a w) :
    ∀ (fuel : Nat) (listed : Array Bool) (a : Act) (w : World), I listed a w → unl ops.size listed ≤ fuel → wpAny P md ops Q fuel listed a w := by
  intro fuel
  induction fuel with
  | zero =>
    intro listed a w h hu
    have hall := all_listed (hsz _ _ _ h) (by omega)
    refine ⟨?_, hdone _ _ _ h hall⟩
    cases hr : Region.ready md ops listed with
    | nil => rfl
    | cons i l =>
      have hi : i ∈ Region.ready md ops listed := by rw [hr]; simp
      obtain ⟨h0, o, ho, _⟩ := mem_ready.1 hi
      have hlt := (Array.getElem?_eq_some_iff.1 ho).1
      have h1 := hall i hlt
      have hlt2 : i < listed.size := by have := hsz _ _ _ h; omega
      simp [hlt2] at h0 h1
      rw [h0] at h1; cases h1
  | succ fuel ih =>
    intro listed a w h hu
    refine ⟨fun hr => hdone _ _ _ h (ready_nil hb (hsz _ _ _ h) hr), fun i hi => ?_⟩
    obtain ⟨h0, o, ho, _⟩ := mem_ready.1 hi
    have hlt := (Array.getElem?_eq_some_iff.1 ho).1
    refine wpOp_step ho (fun K' hK => hstep listed a w i o h hi ho K' (fun a' w' h' => hK a' w' (ih _ a' w' h' ?_)))
    have := unl_set hlt (hsz _ _ _ h) h0
    omega
theorem ready_dep {listed : Array Bool} {i j : Nat} (hw : Region.waitsFor md ops i j = true) (hi : i ∈ Region.ready md ops listed) : listed.getD j false = true := by
  obtain ⟨oj, hoj, x, hx, hb, hon⟩ := Region.waitsFor_spec hw
  obtain ⟨_, oj', hoj', hall⟩ := mem_ready.1 hi
  rw [hoj] at hoj'
  injection hoj' with hoj'
  subst hoj'
  have h1 := hall x hx hb
  rwa [hon] at h1
/-- from each of a list to each by its place -/
def AllFrom (p : Nat → Oper → Prop) : Nat → List Oper → Prop
  | _, [] => True
  | k, o :: l => p k o ∧ AllFrom p (k + 1) l
theorem AllFrom.nil {p : Nat → Oper → Prop} {k : Nat} : AllFrom p k [] := trivial
theorem AllFrom.cons {p : Nat → Oper → Prop} {k : Nat} {o : Oper} {l : List Oper} (h : p k o) (hl : AllFrom p (k + 1) l) : AllFrom p k (o :: l) := ⟨h, hl⟩
theorem AllFrom.get {p : Nat → Oper → Prop} : ∀ {l : List Oper} {k : Nat}, AllFrom p k l → ∀ i o, l[i]? = some o → p (k + i) o := by
  intro l
  induction l with
  | nil => intro k _ i o h; simp at h
  | cons x l ih =>
    intro k h i o ho
    cases i with
    | zero => simp at ho; subst ho; exact h.1
    | succ i => rw [List.getElem?_cons_succ] at ho; rw [show k + (i + 1) = (k + 1) + i by omega]; exact ih h.2 i o ho
theorem all_ops {p : Nat → Oper → Prop} {l : List Oper} (h : AllFrom p 0 l) : ∀ i o, l.toArray[i]? = some o → p i o := fun i o ho => by
  have := h.get i o (by simpa using ho)
  rwa [Nat.zero_add] at this
end
end Go.Proofs.Ytbgagmpifaakgaa

