/- IntKit RegionInv -/
import Derived.Test.YtaknfmionkkdjaaGreatFO07
import Derived.Below
import Derived.Deep.RegionHeld
import Derived.Lib.Hide
import Derived.StillTail
namespace Go.Proofs.YtaknfmionkkdjaaGreat
open Go.RowKit
set_option linter.unusedVariables false
theorem cellI : CellT Tryz.prog 22 3 (.int .i64 0) 8 := ⟨Tryz.underlying22, by kernel_rfl, rfl⟩
theorem iv_take (l : List Int) (k : Nat) : iv (l.take k) = (iv l).take k := by simp [iv]
theorem iv_drop (l : List Int) (k : Nat) : iv (l.drop k) = (iv l).drop k := by simp [iv]
theorem iv_get {l : List Int} {k : Nat} {z : Int} (h : l[k]? = some z) : (iv l)[k]? = some (.int .i64 z) := by simp [iv, h]
/-- the call that began in W made a row that is the integers l -/
abbrev OwnI (W w : World) (A : Option Addr) (n c : Nat) (l : List Int) : Prop := w.ownsRow W.heap.size 3 1 (.slice A n c) n (iv l)
theorem ownI_len {W w : World} {A : Option Addr} {n c : Nat} {l : List Int} (h : OwnI W w A n c l) : l.length = n := by
  have := h.1; rw [iv_length] at this; omega
theorem ownI_nil (W w : World) : OwnI W w none 0 0 [] := ⟨rfl, .inl ⟨rfl, rfl⟩⟩
theorem ownI_empty {W w : World} (hB : Below W.heap.size W w) : OwnI W (w.alloc (.cells #[] 3)) (some ⟨w.heap.size, 0, none⟩) 0 0 [] :=
  World.ownsRow_made w #[] 0 hB.size (by decide) rfl
theorem ownI_at {W w : World} (hB : Below W.heap.size W w) {g : Nat} (hg : w.heap.size = g) : OwnI W (w.alloc (.cells #[] 3)) (some ⟨g, 0, none⟩) 0 0 [] := by
  subst hg; exact ownI_empty hB
theorem own_of {W w w' : World} {e : TypeId} {size n : Nat} {v : Value} {xs : List Value} (hs : W.heap.size ≤ w.heap.size) (h : w'.ownsRow w.heap.size e size v n xs) : w'.ownsRow W.heap.size e size v n xs := by
  obtain ⟨h1, h2⟩ := h
  refine ⟨h1, ?_⟩
  rcases h2 with h2 | ⟨g, cap, cur, hv, hg, r⟩
  · exact .inl h2
  · exact .inr ⟨g, cap, cur, hv, Nat.le_trans hs hg, r⟩
/-- integers and a result of no bytes, both W's own -/
def GotIR (W w : World) (l : List Int) (e : Int) (N : Int) (en : Ending) (w' : World) : Prop :=
  ∃ A c A' c', en = .returned (.tuple #[.slice A l.length c, resV e A' 0 c' N]) ∧ OwnI W w' A l.length c l ∧ OwnB W w' A' 0 c' [] ∧ Below W.heap.size W w' ∧ Below w.heap.size w w'
theorem GotIR.of {W w w' : World} {l : List Int} {e N : Int} {en : Ending} (hB : Below W.heap.size W w) (h : GotIR w w l e N en w') : GotIR W w l e N en w' := by
  obtain ⟨A, c, A', c', h1, h2, h3, h4, h5⟩ := h
  exact ⟨A, c, A', c', h1, own_of hB.size h2, own_of hB.size h3, hB.trans (h4.mono hB.size), h5⟩
/-- where x stands first; -1: nowhere -/
def placeI (s : List Int) (x : Int) : Int := if x ∈ s then (s.idxOf x : Int) else -1
theorem place_first {s : List Int} {x : Int} {k : Nat} (hk : s[k]? = some x) (hn : ∀ j, j < k → s[j]? ≠ some x) : placeI s x = (k : Int) := by
  have hm : x ∈ s := List.mem_of_getElem? hk
  unfold placeI
  rw [if_pos hm]
  congr 1
  induction s generalizing k with
  | nil => simp at hk
  | cons y t ih =>
    cases k with
    | zero => simp at hk; subst hk; simp
    | succ k =>
      have hy : y ≠ x := by have := hn 0 (by omega); simpa using this
      rw [List.idxOf_cons]
      have hb : (y == x) = false := by simpa using hy
      rw [hb]
      simp at hk
      have := ih hk (fun j hj => by have := hn (j + 1) (by omega); simpa using this) (by simpa [hy.symm] using hm)
      simp [this]
theorem place_none {s : List Int} {x : Int} (hn : ∀ j, j < s.length → s[j]? ≠ some x) : placeI s x = -1 := by
  unfold placeI
  rw [if_neg]
  intro h
  obtain ⟨i, hi, e⟩ := List.getElem_of_mem h
  exact hn i hi (by rw [List.getElem?_eq_getElem hi, e])
theorem place_lt {s : List Int} {x : Int} (h : x ∈ s) : ∃ k : Nat, placeI s x = (k : Int) ∧ k < s.length ∧ s.erase x = s.take k ++ s.drop (k + 1) := by
  refine ⟨s.idxOf x, by unfold placeI; rw [if_pos h], List.idxOf_lt_length_of_mem h, ?_⟩
  rw [List.erase_eq_eraseIdx_of_idxOf rfl, List.eraseIdx_eq_take_drop_succ]
theorem place_no {s : List Int} {x : Int} (h : x ∉ s) : placeI s x = -1 := by unfold placeI; rw [if_neg h]
/-- what Take leaves, and answers -/
def takeS (s : List Int) (x : Int) : List Int := if x ∈ s then s else if 5 ≤ s.length then s else s ++ [x]
def takeE (s : List Int) (x : Int) : Int := if x ∈ s then 6 else if 5 ≤ s.length then 3 else 0
def takeN (s : List Int) (x : Int) : Int := if x ∈ s then 0 else if 5 ≤ s.length then 0 else (s.length : Int)
/-- what Free leaves, and answers -/
def freeE (s : List Int) (x : Int) : Int := if x ∈ s then 0 else 5
def freeN (s : List Int) (x : Int) : Int := if x ∈ s then (s.erase x).head?.getD (-1) else 0
/-- what Owner answers -/
def ownerE (s : List Int) : Int := if s.length = 0 then 5 else 0
def ownerN (s : List Int) : Int := s.head?.getD 0
end Go.Proofs.YtaknfmionkkdjaaGreat

namespace Go.Proofs.YtaknfmionkkdjaaGreat
open Go.RowKit
set_option linter.unusedVariables false
section
variable {P : Program} {md : Region.Mode} {ops : Array Oper} {Q : Exit → Act → World → Prop}
theorem filter_lt {l : List Nat} {p p' : Nat → Bool} {i : Nat} (hi : i ∈ l) (h1 : p i = true) (h2 : p' i = false) (h : ∀ x, p' x = true → p x = true) : (l.filter p').length < (l.filter p).length := by
  have le : ∀ l : List Nat, (l.filter p').length ≤ (l.filter p).length := by
    intro l
    induction l with
    | nil => simp
    | cons x l ih =>
      by_cases hx : p' x = true
      · rw [List.filter_cons_of_pos hx, List.filter_cons_of_pos (h x hx)]; simp; omega
      · rw [List.filter_cons_of_neg hx]
        by_cases hy : p x = true
        · rw [List.filter_cons_of_pos hy]; simp; omega
        · rw [List.filter_cons_of_neg hy]; exact ih
  induction l with
  | nil => cases hi
  | cons x l ih =>
    rcases List.mem_cons.1 hi with rfl | hi
    · rw [List.filter_cons_of_pos h1, List.filter_cons_of_neg (by rw [h2]; simp)]
      have := le l
      simp; omega
    · have := ih hi
      by_cases hx : p' x = true
      · rw [List.filter_cons_of_pos hx, List.filter_cons_of_pos (h x hx)]; simp; omega
      · rw [List.filter_cons_of_neg hx]
        by_cases hy : p x = true
        · rw [List.filter_cons_of_pos hy]; simp; omega
        · rw [List.filter_cons_of_neg hy]; exact this
/-- how many are not listed yet -/
def unl (n : Nat) (listed : Array Bool) : Nat := ((List.range n).filter fun i => !listed.getD i true).length
theorem unl_set {n i : Nat} {listed : Array Bool} (hi : i < n) (hs : listed.size = n) (h : listed.getD i true = false) : unl n (listed.setIfInBounds i true) < unl n listed := by
  refine filter_lt (i := i) (List.mem_range.2 hi) (by simp only [h]; rfl) ?_ (fun x hx => ?_)
  · simp [hs, hi]
  · by_cases e : i = x
    · subst e; simp only [h]; rfl
    · rwa [getD_set_ne true e] at hx
theorem all_listed {n : Nat} {listed : Array Bool} (hs : listed.size = n) (h : unl n listed = 0) : ∀ i, i < n → listed.getD i false = true := fun i hi => by
  have h1 := List.eq_nil_of_length_eq_zero h
  have h2 : i ∉ (List.range n).filter fun i => !listed.getD i true := by rw [h1]; simp
  rw [List.mem_filter] at h2
  have h3 : listed.getD i true = true := by
    cases hh : listed.getD i true
    · exact absurd ⟨List.mem_range.2 hi, by rw [hh]; rfl⟩ h2
    · rfl
  have hlt : i < listed.size := by omega
  simpa [hlt] using h3
/-- each edge that binds goes back -/
def goesBack (md : Region.Mode) (ops : Array Oper) : Bool := (List.range ops.size).all fun i => ((ops[i]?).map (·.after.all fun e => !Region.binds md e || decide (e.on < i))).getD true
theorem ready_nil {listed : Array Bool} (hb : goesBack md ops = true) (hs : listed.size = ops.size) (hr : Region.ready md ops listed = []) : ∀ i, i < ops.size → listed.getD i false = true := by
  intro i
  induction i using Nat.strongRecOn with
  | ind i ih =>
    intro hi
    cases hh : listed.getD i false with
    | true => rfl
    | false =>
      have hlt : i < listed.size := by omega
      have h0 : listed.getD i true = false := by simpa [hlt] using hh
      have : i ∈ Region.ready md ops listed := by
        refine mem_ready.2 ⟨h0, ops[i], Array.getElem?_eq_getElem hi, fun e he hbd => ?_⟩
        have h1 := List.all_eq_true.1 hb i (List.mem_range.2 hi)
        rw [Array.getElem?_eq_getElem hi] at h1
        simp only [Option.map_some, Option.getD_some, Array.all_eq_true_iff_forall_mem, Bool.or_eq_true, Bool.not_eq_true', decide_eq_true_eq] at h1
        have h2 := (h1 e he).resolve_left (by rw [hbd]; simp)
        exact ih e.on h2 (by omega)
      rw [hr] at this
      cases this
theorem wpAny_inv {I : Array Bool → Act → World → Prop} (hb : goesBack md ops = true) (hsz : ∀ listed a w, I listed a w → listed.size = ops.size)
    (hstep : ∀ listed a w i o, I listed a w → i ∈ Region.ready md ops listed → ops[i]? = some o → ∀ K : Act → World → Prop, (∀ a' w', I (listed.setIfInBounds i true) a' w' → K a' w') →
      if Region.wanted o (yielded ops a.tmps) = true then Oper.wp P o a w K Q else K (a.put o.dst undef) w)
    (hdone : ∀ listed a w, I listed a w → (∀ i, i < ops.size → listed.getD i false = true) → Q .normal a w) :
    ∀ (fuel : Nat) (listed : Array Bool) (a : Act) (w : World), I listed a w → unl ops.size listed ≤ fuel → wpAny P md ops Q fuel listed a w := by
  intro fuel
  induction fuel with
  | zero =>
    intro listed a w h hu
    have hall := all_listed (hsz _ _ _ h) (by omega)
    refine ⟨?_, hdone _ _ _ h hall⟩
    cases hr : Region.ready md ops listed with
    | nil => rfl
    | cons i l =>
      have hi : i ∈ Region.ready md ops listed := by rw [hr]; simp
      obtain ⟨h0, o, ho, _⟩ := mem_ready.1 hi
      have hlt := (Array.getElem?_eq_some_iff.1 ho).1
      have h1 := hall i hlt
      have hlt2 : i < listed.size := by have := hsz _ _ _ h; omega
      simp [hlt2] at h0 h1
      rw [h0] at h1; cases h1
  | succ fuel ih =>
    intro listed a w h hu
    refine ⟨fun hr => hdone _ _ _ h (ready_nil hb (hsz _ _ _ h) hr), fun i hi => ?_⟩
    obtain ⟨h0, o, ho, _⟩ := mem_ready.1 hi
    have hlt := (Array.getElem?_eq_some_iff.1 ho).1
    refine wpOp_step ho (fun K' hK => hstep listed a w i o h hi ho K' (fun a' w' h' => hK a' w' (ih _ a' w' h' ?_)))
    have := unl_set hlt (hsz _ _ _ h) h0
    omega
theorem ready_dep {listed : Array Bool} {i j : Nat} (hw : Region.waitsFor md ops i j = true) (hi : i ∈ Region.ready md ops listed) : listed.getD j false = true := by
  obtain ⟨oj, hoj, x, hx, hb, hon⟩ := Region.waitsFor_spec hw
  obtain ⟨_, oj', hoj', hall⟩ := mem_ready.1 hi
  rw [hoj] at hoj'
  injection hoj' with hoj'
  subst hoj'
  have h1 := hall x hx hb
  rwa [hon] at h1
/-- from each of a list to each by its place -/
def AllFrom (p : Nat → Oper → Prop) : Nat → List Oper → Prop
  | _, [] => True
  | k, o :: l => p k o ∧ AllFrom p (k + 1) l
theorem AllFrom.nil {p : Nat → Oper → Prop} {k : Nat} : AllFrom p k [] := trivial
theorem AllFrom.cons {p : Nat → Oper → Prop} {k : Nat} {o : Oper} {l : List Oper} (h : p k o) (hl : AllFrom p (k + 1) l) : AllFrom p k (o :: l) := ⟨h, hl⟩
theorem AllFrom.get {p : Nat → Oper → Prop} : ∀ {l : List Oper} {k : Nat}, AllFrom p k l → ∀ i o, l[i]? = some o → p (k + i) o := by
  intro l
  induction l with
  | nil => intro k _ i o h; simp at h
  | cons x l ih =>
    intro k h i o ho
    cases i with
    | zero => simp at ho; subst ho; exact h.1
    | succ i => rw [List.getElem?_cons_succ] at ho; rw [show k + (i + 1) = (k + 1) + i by omega]; exact ih h.2 i o ho
theorem all_ops {p : Nat → Oper → Prop} {l : List Oper} (h : AllFrom p 0 l) : ∀ i o, l.toArray[i]? = some o → p i o := fun i o ho => by
  have := h.get i o (by simpa using ho)
  rwa [Nat.zero_add] at this
end
end Go.Proofs.YtaknfmionkkdjaaGreat

