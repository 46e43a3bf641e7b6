/- PackMath RegionT RegionInv RegionInvG -/
import Derived.Deep.RegionHeld
import Derived.StillTail
import Derived.Below
import Derived.Lib.Hide
namespace Go.Proofs.Ytlfkgpllleogoaa
namespace Pk
/-- the greatest number -/
def top : Nat := 4611686018427387904
/-- the nearest number that may be -/
def held (n : Int) : Nat := min n.toNat top
theorem held_le (n : Int) : held n ≤ top := Nat.min_le_right _ _
theorem held_of {n : Nat} (h : n ≤ top) : held (n : Int) = n := by unfold held; omega
/-- groups of seven bits, the lowest first; at most f more -/
def encF : Nat → Nat → List Nat
  | 0, n => [n]
  | f + 1, n => if n < 128 then [n] else (n % 128 + 128) :: encF f (n / 128)
def enc (n : Nat) : List Nat := encF 8 n
theorem encF_more : ∀ (f n : Nat), n < 128 ^ (f + 1) → encF f n = encF (f + 1) n := by
  intro f
  induction f with
  | zero => intro n h; have h' : n < 128 := by simpa using h
            simp [encF, h']
  | succ f ih =>
    intro n h
    show (if n < 128 then [n] else (n % 128 + 128) :: encF f (n / 128)) = (if n < 128 then [n] else (n % 128 + 128) :: encF (f + 1) (n / 128))
    rw [ih (n / 128) (by rw [Nat.pow_succ] at h; exact Nat.div_lt_of_lt_mul (by omega))]
theorem enc_small {n : Nat} (h : n < 128) : enc n = [n] := by simp [enc, encF, h]
theorem enc_big {n : Nat} (h : 128 ≤ n) (ht : n ≤ top) : enc n = (n % 128 + 128) :: enc (n / 128) := by
  have e : encF 7 (n / 128) = encF 8 (n / 128) := encF_more 7 _ (by unfold top at ht; omega)
  unfold enc
  rw [← e]
  show (if n < 128 then [n] else (n % 128 + 128) :: encF 7 (n / 128)) = _
  rw [if_neg (by omega)]
theorem encF_length : ∀ (f n : Nat), 1 ≤ (encF f n).length ∧ (encF f n).length ≤ f + 1 := by
  intro f
  induction f with
  | zero => intro n; simp [encF]
  | succ f ih =>
    intro n
    have := ih (n / 128)
    unfold encF
    split
    · simp
    · simp only [List.length_cons]; omega
theorem enc_length (n : Nat) : 1 ≤ (enc n).length ∧ (enc n).length ≤ 9 := encF_length 8 n
theorem enc_lt {n : Nat} (h : n ≤ top) : ∀ x ∈ enc n, x < 256 := by
  have key : ∀ (f n : Nat), n < 128 ^ (f + 1) → ∀ x ∈ encF f n, x < 256 := by
    intro f
    induction f with
    | zero => intro n h x hx; simp [encF] at hx; subst hx; simp at h; omega
    | succ f ih =>
      intro n h x hx
      unfold encF at hx
      split at hx
      · simp at hx; omega
      · rcases List.mem_cons.1 hx with rfl | hx
        · omega
        · exact ih (n / 128) (by rw [Nat.pow_succ] at h; exact Nat.div_lt_of_lt_mul (by omega)) x hx
  exact key 8 n (by unfold top at h; omega)
/-- the number at the head, and how many bytes it takes: 0 where none is there in its one form; i bytes are read, and say acc -/
def dec : Nat → Nat → List Nat → Nat × Nat
  | _, _, [] => (0, 0)
  | i, acc, x :: l =>
    if 9 ≤ i then (0, 0)
    else if 128 ≤ x then dec (i + 1) (acc + x % 128 * 128 ^ i) l
    else if x = 0 ∧ 0 < i then (0, 0)
    else (acc + x * 128 ^ i, i + 1)
def first (l : List Nat) : Nat × Nat := dec 0 0 l
theorem dec_enc : ∀ (f i n acc : Nat) (rest : List Nat), n < 128 ^ (f + 1) → i + f ≤ 8 → (0 < i → 0 < n) → dec i acc (encF f n ++ rest) = (acc + n * 128 ^ i, i + (encF f n).length) := by
  intro f
  induction f with
  | zero =>
    intro i n acc rest h hi h0
    have h' : n < 128 := by simpa using h
    show dec i acc (n :: rest) = _
    simp only [dec]
    rw [if_neg (by omega), if_neg (by omega), if_neg (by omega)]; rfl
  | succ f ih =>
    intro i n acc rest h hi h0
    by_cases hs : n < 128
    · have e : encF (f + 1) n = [n] := by unfold encF; rw [if_pos hs]
      rw [e]
      show dec i acc (n :: rest) = _
      simp only [dec]
      rw [if_neg (by omega), if_neg (by omega), if_neg (by omega)]; rfl
    · have e : encF (f + 1) n = (n % 128 + 128) :: encF f (n / 128) := by
        show (if n < 128 then [n] else (n % 128 + 128) :: encF f (n / 128)) = _
        rw [if_neg hs]
      rw [e]
      show dec i acc ((n % 128 + 128) :: (encF f (n / 128) ++ rest)) = _
      simp only [dec]
      rw [if_neg (by omega), if_pos (by omega), ih (i + 1) (n / 128) _ rest (by rw [Nat.pow_succ] at h; exact Nat.div_lt_of_lt_mul (by omega)) (by omega) (by omega)]
      simp only [List.length_cons, Prod.mk.injEq]
      constructor
      · have e1 : (n % 128 + 128) % 128 = n % 128 := by omega
        have e2 : n % 128 * 128 ^ i + n / 128 * 128 ^ (i + 1) = n * 128 ^ i := by
          have h1 : n / 128 * 128 ^ (i + 1) = n / 128 * 128 * 128 ^ i := by rw [Nat.pow_succ]; rw [Nat.mul_comm (128 ^ i) 128, ← Nat.mul_assoc]
          rw [h1, ← Nat.add_mul]
          congr 1
          omega
        rw [e1]; omega
      · omega
theorem first_enc {n : Nat} (h : n ≤ top) (rest : List Nat) : first (enc n ++ rest) = (n, (enc n).length) := by
  have := dec_enc 8 0 n 0 rest (by unfold top at h; omega) (by omega) (by omega)
  simpa [first, enc] using this
theorem dec_size : ∀ (l : List Nat) (i acc : Nat), (dec i acc l).2 = 0 ∨ (i < (dec i acc l).2 ∧ (dec i acc l).2 ≤ i + l.length ∧ (dec i acc l).2 ≤ 9) := by
  intro l
  induction l with
  | nil => intro i acc; left; rfl
  | cons x l ih =>
    intro i acc
    simp only [dec]
    split
    · left; rfl
    · split
      · have := ih (i + 1) (acc + x % 128 * 128 ^ i)
        simp only [List.length_cons]
        omega
      · split
        · left; rfl
        · right
          simp only [List.length_cons]
          omega
theorem first_size (l : List Nat) : (first l).2 ≤ l.length ∧ (first l).2 ≤ 9 := by
  have := dec_size l 0 0
  unfold first
  omega
theorem dec_lt : ∀ (l : List Nat) (i acc : Nat), acc < 128 ^ i → i ≤ 9 → (dec i acc l).1 < 128 ^ 9 := by
  intro l
  induction l with
  | nil => intro i acc _ _; simp [dec]
  | cons x l ih =>
    intro i acc h hi
    simp only [dec]
    split
    · simp
    · rename_i h9
      have hp : 128 ^ (i + 1) ≤ 128 ^ 9 := Nat.pow_le_pow_right (by omega) (by omega)
      have hs : 128 ^ (i + 1) = 128 * 128 ^ i := by rw [Nat.pow_succ, Nat.mul_comm]
      split
      · refine ih _ _ ?_ (by omega)
        have : x % 128 * 128 ^ i ≤ 127 * 128 ^ i := Nat.mul_le_mul_right _ (by omega)
        omega
      · split
        · simp
        · have : x * 128 ^ i ≤ 127 * 128 ^ i := Nat.mul_le_mul_right _ (by omega)
          show acc + x * 128 ^ i < _
          omega
theorem first_lt (l : List Nat) : (first l).1 < 9223372036854775808 := by
  have := dec_lt l 0 0 (by simp) (by omega)
  simpa [first] using this

/-- one number read out of l, of at most m -/
def rNum (l : List Nat) (m : Nat) : Option (Nat × List Nat) := if (first l).2 = 0 ∨ m < (first l).1 then none else some ((first l).1, l.drop (first l).2)
/-- a reader that read nothing that is none: what is left; one that did: none -/
abbrev St := Option (List Nat)
def numN (s : St) (m : Int) : Option (Nat × List Nat) := s.bind fun l => rNum l (held m)
def numV (s : St) (m : Int) : Nat := ((numN s m).map (·.1)).getD 0
def numS (s : St) (m : Int) : St := (numN s m).map (·.2)
def bytN (s : St) (m : Int) : Option (List Nat × List Nat) := (numN s m).bind fun p => if p.2.length < p.1 then none else some (p.2.take p.1, p.2.drop p.1)
def bytV (s : St) (m : Int) : List Nat := ((bytN s m).map (·.1)).getD []
def bytS (s : St) (m : Int) : St := (bytN s m).map (·.2)
theorem byt_of {s : St} {m : Int} (h : ¬ ((numS s m).getD []).length < numV s m) : bytV s m = ((numS s m).getD []).take (numV s m) ∧ bytS s m = (numS s m).map (List.drop (numV s m)) := by
  unfold bytV bytS bytN
  unfold numS numV at *
  cases hn : numN s m with
  | none => exact ⟨rfl, rfl⟩
  | some p =>
    rw [hn] at h
    have h' : ¬ p.2.length < p.1 := h
    simp [h']
theorem byt_no {s : St} {m : Int} (h : ((numS s m).getD []).length < numV s m) : bytV s m = [] ∧ bytS s m = none := by
  unfold bytV bytS bytN
  unfold numS numV at *
  cases hn : numN s m with
  | none => exact ⟨rfl, rfl⟩
  | some p =>
    rw [hn] at h
    have h' : p.2.length < p.1 := h
    simp [h']
theorem rNum_enc {n : Nat} (h : n ≤ top) (rest : List Nat) (m : Nat) (hm : n ≤ m) : rNum (enc n ++ rest) m = some (n, rest) := by
  unfold rNum
  rw [first_enc h]
  have := enc_length n
  simp only
  rw [if_neg (by omega), List.drop_left']
  rfl
/-- the bytes of some bytes: their length, and they -/
def encB (x : List Nat) : List Nat := enc x.length ++ x
theorem encB_lt {x : List Nat} (h : ∀ y ∈ x, y < 256) (hl : x.length ≤ top) : ∀ y ∈ encB x, y < 256 := by
  intro y hy
  rcases List.mem_append.1 hy with hy | hy
  · exact enc_lt hl y hy
  · exact h y hy
theorem numN_enc {n : Nat} (h : n ≤ top) (rest : List Nat) (m : Int) (hm : n ≤ held m) : numN (some (enc n ++ rest)) m = some (n, rest) := rNum_enc h rest _ hm
theorem bytN_enc (x rest : List Nat) (m : Int) (h : x.length ≤ top) (hm : x.length ≤ held m) : bytN (some (encB x ++ rest)) m = some (x, rest) := by
  unfold bytN encB
  rw [List.append_assoc, numN_enc h _ _ hm]
  simp only [Option.bind_some]
  rw [if_neg (by simp), List.take_left', List.drop_left'] <;> rfl
theorem numV_is {s : St} {m : Int} {n : Nat} {l : List Nat} (h : numN s m = some (n, l)) : numV s m = n ∧ numS s m = some l := by
  unfold numV numS; rw [h]; exact ⟨rfl, rfl⟩
theorem numV_no {s : St} {m : Int} (h : numN s m = none) : numV s m = 0 ∧ numS s m = none := by
  unfold numV numS; rw [h]; exact ⟨rfl, rfl⟩
theorem bytV_is {s : St} {m : Int} {x l : List Nat} (h : bytN s m = some (x, l)) : bytV s m = x ∧ bytS s m = some l := by
  unfold bytV bytS; rw [h]; exact ⟨rfl, rfl⟩
/-- numbers, one behind the other -/
def encs : List Int → List Nat
  | [] => []
  | z :: zs => enc (held z) ++ encs zs
theorem encs_snoc (zs : List Int) (z : Int) : encs (zs ++ [z]) = encs zs ++ enc (held z) := by
  induction zs with
  | nil => simp [encs]
  | cons y zs ih => simp [encs, ih]
theorem encs_length (zs : List Int) : (encs zs).length ≤ 9 * zs.length := by
  induction zs with
  | nil => simp [encs]
  | cons y zs ih =>
    have := enc_length (held y)
    simp only [encs, List.length_append, List.length_cons]
    omega
theorem encs_lt (zs : List Int) : ∀ x ∈ encs zs, x < 256 := by
  induction zs with
  | nil => intro x hx; cases hx
  | cons y zs ih =>
    intro x hx
    rcases List.mem_append.1 hx with hx | hx
    · exact enc_lt (held_le y) x hx
    · exact ih x hx
end Pk
end Go.Proofs.Ytlfkgpllleogoaa

namespace Go.Proofs.Ytlfkgpllleogoaa
set_option linter.unusedVariables false
section
variable {P : Program} {md : Region.Mode} {ops : Array Oper} {Q : Exit → Act → World → Prop} {S : World → Prop} {n : Nat}
/-- S holds behind each operation but n -/
def AnyT (P : Program) (md : Region.Mode) (ops : Array Oper) (Q : Exit → Act → World → Prop) (S : World → Prop) (n : Nat) : Nat → Array Bool → Act → World → Prop
  | 0, listed, a, w => Region.ready md ops listed = [] ∧ Q .normal a w
  | fuel + 1, listed, a, w => (Region.ready md ops listed = [] → Q .normal a w) ∧
      ∀ i ∈ Region.ready md ops listed, wpOp P ops Q i (fun a' w' => (i = n ∨ S w') ∧ AnyT P md ops Q S n fuel (listed.setIfInBounds i true) a' w') a w
theorem AnyT.any : ∀ (fuel : Nat) (listed : Array Bool) (a : Act) (w : World), AnyT P md ops Q S n fuel listed a w → wpAny P md ops Q fuel listed a w := by
  intro fuel
  induction fuel with
  | zero => exact fun _ _ _ h => h
  | succ fuel ih => exact fun listed a w h => ⟨h.1, fun i hi => wpOp_mono (fun a' w' h' => ih _ _ _ h'.2) (h.2 i hi)⟩
theorem region_T {id : Nat} {a : Act} {w : World} (hm : P.follows .mixedOrders = true) (h : AnyT P .any ops Q S n ops.size (Array.replicate ops.size false) a w.drew) : (Code.region id ops true).wp P Q a w :=
  wp_region_any hm (AnyT.any _ _ _ _ h)
/-- no order lets n come ahead of what it waits for -/
theorem not_last {i j : Nat} {listed : Array Bool} (hw : Region.waitsFor md ops n i = true) (hi : i ∈ Region.ready md ops listed) (hj : j ∈ Region.ready md ops listed) : j ≠ n := by
  intro e
  subst e
  obtain ⟨oj, hoj, x, hx, hb, hon⟩ := Region.waitsFor_spec hw
  obtain ⟨_, oj', hoj', hall⟩ := mem_ready.1 hj
  rw [hoj] at hoj'
  injection hoj' with hoj'
  subst hoj'
  have h1 := hall x hx hb
  have h0 := (mem_ready.1 hi).1
  rw [hon] at h1
  rcases Nat.lt_or_ge i listed.size with h' | h'
  · simp [h'] at h0 h1; rw [h0] at h1; cases h1
  · simp [Array.getElem?_eq_none h'] at h1
/-- what yields v wherever S holds may come first, if n waits for it -/
theorem AnyT.first {i : Nat} {oi : Oper} {v : Value} (hi : ops[i]? = some oi) (hsel : Region.noSelect ops = true) (hw : Region.waitsFor md ops n i = true) (hQ : ∀ c a w, Q (.panic c) (a.put oi.dst v) w → Q (.panic c) a w) :
    ∀ (fuel : Nat) (listed : Array Bool) (a : Act) (w : World),
      (∀ j oj, ops[j]? = some oj → j ≠ i → listed.getD j true = false → (∀ e ∈ oj.after, Region.binds md e = true → e.on ≠ i) → oi.apart ops oj = true) →
      i ∈ Region.ready md ops listed → YieldsIf P ops S oi v a → S w → AnyT P md ops Q S n fuel (listed.setIfInBounds i true) (a.put oi.dst v) w → AnyT P md ops Q S n (fuel + 1) listed a w := by
  have sel := Region.noSelect_spec hsel
  intro fuel
  induction fuel with
  | zero =>
    intro listed a w _ hr hy hS H
    refine ⟨fun h => absurd hr (by rw [h]; simp), fun j hj => ?_⟩
    by_cases hji : j = i
    · rw [hji]; exact hy.wpOp hi hS ⟨.inr hS, by rw [← hji] at H ⊢; exact H⟩
    · exact absurd (ready_mono hj hji) (by rw [H.1]; simp)
  | succ fuel ih =>
    intro listed a w hfree hr hy hS H
    refine ⟨fun h => absurd hr (by rw [h]; simp), fun j hj => ?_⟩
    by_cases hji : j = i
    · rw [hji]; exact hy.wpOp hi hS ⟨.inr hS, by rw [← hji] at H ⊢; exact H⟩
    · have hjn := not_last hw hr hj
      obtain ⟨hun, oj, hoj, hall⟩ := mem_ready.1 hj
      have hnot : ∀ e ∈ oj.after, Region.binds md e = true → e.on ≠ i := fun e he hb heq => by
        have h1 := hall e he hb
        have h0 := (mem_ready.1 hr).1
        rw [heq] at h1
        rcases Nat.lt_or_ge i listed.size with h' | h'
        · simp [h'] at h0 h1; rw [h0] at h1; cases h1
        · simp [Array.getElem?_eq_none h'] at h1
      refine wpOp_mono (fun a' w' h3 => ?_) (wpOp_putIf hoj (hfree j oj hoj hji hun hnot) (fun cs b => sel i oi cs b hi) (fun cs b => sel j oj cs b hoj) hQ hy (H.2 j (ready_mono hj hji)))
      obtain ⟨hy', hs', hrest⟩ := h3
      have hS' : S w' := hs'.resolve_left hjn
      refine ⟨.inr hS', ih (listed.setIfInBounds j true) a' w' (fun k ok hk hki hu hno => hfree k ok hk hki ?_ hno) (ready_mono hr (Ne.symm hji)) hy' hS' (by rw [Array.setIfInBounds_comm _ _ hji]; exact hrest)⟩
      by_cases hjk : j = k
      · rw [← hjk]; exact hun
      · rwa [getD_set_ne true hjk] at hu
/-- the moves of a walk -/
theorem AnyT.take {i : Nat} {oi : Oper} {v : Value} {fuel : Nat} {listed : Array Bool} {a : Act} {w : World} (hi : ops[i]? = some oi) (hs : Region.noSelect ops = true) (hw : Region.waitsFor md ops n i = true)
    (hf : Region.free md ops listed i = true) (hr : (Region.ready md ops listed).contains i = true) (hQ : ∀ c a w, Q (.panic c) (a.put oi.dst v) w → Q (.panic c) a w) (hy : YieldsIf P ops S oi v a) (hS : S w)
    (h : AnyT P md ops Q S n fuel (listed.setIfInBounds i true) (a.put oi.dst v) w) : AnyT P md ops Q S n (fuel + 1) listed a w :=
  AnyT.first hi hs hw hQ fuel listed a w (Region.free_spec hi hf) (by simpa using hr) hy hS h
/-- those that may come up -/
def AllT (P : Program) (md : Region.Mode) (ops : Array Oper) (Q : Exit → Act → World → Prop) (S : World → Prop) (n fuel : Nat) (listed : Array Bool) (a : Act) (w : World) (rs : List Nat) : Prop :=
  ∀ i ∈ rs, wpOp P ops Q i (fun a' w' => (i = n ∨ S w') ∧ AnyT P md ops Q S n fuel (listed.setIfInBounds i true) a' w') a w
theorem AllT.nil {fuel : Nat} {listed : Array Bool} {a : Act} {w : World} : AllT P md ops Q S n fuel listed a w [] := fun _ h => by cases h
theorem AllT.cons {fuel : Nat} {listed : Array Bool} {a : Act} {w : World} {i : Nat} {o : Oper} {rs : List Nat} (ho : ops[i]? = some o)
    (h : ∀ K' : Act → World → Prop, Shut (∀ a w, (i = n ∨ S w) → ((i = n ∨ S w) → AnyT P md ops Q S n fuel (listed.setIfInBounds i true) a w) → K' a w) → if Region.wanted o (yielded ops a.tmps) = true then Oper.wp P o a w K' Q else K' (a.put o.dst undef) w)
    (hs : AllT P md ops Q S n fuel listed a w rs) : AllT P md ops Q S n fuel listed a w (i :: rs) := fun j hj => by
  rcases List.mem_cons.1 hj with e | hj
  · rw [e]; exact wpOp_step ho (fun K' hK => h K' (fun a w hS hW => hK a w ⟨hS, hW hS⟩))
  · exact hs j hj
theorem AnyT.ready {rs : List Nat} {fuel : Nat} {listed : Array Bool} {a : Act} {w : World} (hr : Region.ready md ops listed = rs) (hne : rs ≠ []) (h : AllT P md ops Q S n fuel listed a w rs) : AnyT P md ops Q S n (fuel + 1) listed a w :=
  ⟨fun h0 => absurd (hr.symm.trans h0) hne, by rw [hr]; exact h⟩
theorem AnyT.done {listed : Array Bool} {a : Act} {w : World} (hr : Region.ready md ops listed = []) (h : Q .normal a w) : ∀ fuel, AnyT P md ops Q S n fuel listed a w
  | 0 => ⟨hr, h⟩
  | _ + 1 => ⟨fun _ => h, by rw [hr]; simp⟩
end
end Go.Proofs.Ytlfkgpllleogoaa

namespace Go.Proofs.Ytlfkgpllleogoaa
open Go.RowKit
set_option linter.unusedVariables false
section
variable {P : Program} {md : Region.Mode} {ops : Array Oper} {Q : Exit → Act → World → Prop}
theorem filter_lt {l : List Nat} {p p' : Nat → Bool} {i : Nat} (hi : i ∈ l) (h1 : p i = true) (h2 : p' i = false) (h : ∀ x, p' x = true → p x = true) : (l.filter p').length < (l.filter p).length := by
  have le : ∀ l : List Nat, (l.filter p').length ≤ (l.filter p).length := by
    intro l
    induction l with
    | nil => simp
    | cons x l ih =>
      by_cases hx : p' x = true
      · rw [List.filter_cons_of_pos hx, List.filter_cons_of_pos (h x hx)]; simp; omega
      · rw [List.filter_cons_of_neg hx]
        by_cases hy : p x = true
        · rw [List.filter_cons_of_pos hy]; simp; omega
        · rw [List.filter_cons_of_neg hy]; exact ih
  induction l with
  | nil => cases hi
  | cons x l ih =>
    rcases List.mem_cons.1 hi with rfl | hi
    · rw [List.filter_cons_of_pos h1, List.filter_cons_of_neg (by rw [h2]; simp)]
      have := le l
      simp; omega
    · have := ih hi
      by_cases hx : p' x = true
      · rw [List.filter_cons_of_pos hx, List.filter_cons_of_pos (h x hx)]; simp; omega
      · rw [List.filter_cons_of_neg hx]
        by_cases hy : p x = true
        · rw [List.filter_cons_of_pos hy]; simp; omega
        · rw [List.filter_cons_of_neg hy]; exact this
/-- how many are not listed yet -/
def unl (n : Nat) (listed : Array Bool) : Nat := ((List.range n).filter fun i => !listed.getD i true).length
theorem unl_set {n i : Nat} {listed : Array Bool} (hi : i < n) (hs : listed.size = n) (h : listed.getD i true = false) : unl n (listed.setIfInBounds i true) < unl n listed := by
  refine filter_lt (i := i) (List.mem_range.2 hi) (by simp only [h]; rfl) ?_ (fun x hx => ?_)
  · simp [hs, hi]
  · by_cases e : i = x
    · subst e; simp only [h]; rfl
    · rwa [getD_set_ne true e] at hx
theorem all_listed {n : Nat} {listed : Array Bool} (hs : listed.size = n) (h : unl n listed = 0) : ∀ i, i < n → listed.getD i false = true := fun i hi => by
  have h1 := List.eq_nil_of_length_eq_zero h
  have h2 : i ∉ (List.range n).filter fun i => !listed.getD i true := by rw [h1]; simp
  rw [List.mem_filter] at h2
  have h3 : listed.getD i true = true := by
    cases hh : listed.getD i true
    · exact absurd ⟨List.mem_range.2 hi, by rw [hh]; rfl⟩ h2
    · rfl
  have hlt : i < listed.size := by omega
  simpa [hlt] using h3
/-- each edge that binds goes back -/
def goesBack (md : Region.Mode) (ops : Array Oper) : Bool := (List.range ops.size).all fun i => ((ops[i]?).map (·.after.all fun e => !Region.binds md e || decide (e.on < i))).getD true
theorem ready_nil {listed : Array Bool} (hb : goesBack md ops = true) (hs : listed.size = ops.size) (hr : Region.ready md ops listed = []) : ∀ i, i < ops.size → listed.getD i false = true := by
  intro i
  induction i using Nat.strongRecOn with
  | ind i ih =>
    intro hi
    cases hh : listed.getD i false with
    | true => rfl
    | false =>
      have hlt : i < listed.size := by omega
      have h0 : listed.getD i true = false := by simpa [hlt] using hh
      have : i ∈ Region.ready md ops listed := by
        refine mem_ready.2 ⟨h0, ops[i], Array.getElem?_eq_getElem hi, fun e he hbd => ?_⟩
        have h1 := List.all_eq_true.1 hb i (List.mem_range.2 hi)
        rw [Array.getElem?_eq_getElem hi] at h1
        simp only [Option.map_some, Option.getD_some, Array.all_eq_true_iff_forall_mem, Bool.or_eq_true, Bool.not_eq_true', decide_eq_true_eq] at h1
        have h2 := (h1 e he).resolve_left (by rw [hbd]; simp)
        exact ih e.on h2 (by omega)
      rw [hr] at this
      cases this
theorem wpAny_inv {I : Array Bool → Act → World → Prop} (hb : goesBack md ops = true) (hsz : ∀ listed a w, I listed a w → listed.size = ops.size)
    (hstep : ∀ listed a w i o, I listed a w → i ∈ Region.ready md ops listed → ops[i]? = some o → ∀ K : Act → World → Prop, (∀ a' w', I (listed.setIfInBounds i true) a' w' → K a' w') →
      if Region.wanted o (yielded ops a.tmps) = true then Oper.wp P o a w K Q else K (a.put o.dst undef) w)
    (hdone : ∀ listed a w, I listed a w → (∀ i, i < ops.size → listed.getD i false = true) → Q .normal a w) :
    ∀ (fuel : Nat) (listed : Array Bool) (a : Act) (w : World), I listed a w → unl ops.size listed ≤ fuel → wpAny P md ops Q fuel listed a w := by
  intro fuel
  induction fuel with
  | zero =>
    intro listed a w h hu
    have hall := all_listed (hsz _ _ _ h) (by omega)
    refine ⟨?_, hdone _ _ _ h hall⟩
    cases hr : Region.ready md ops listed with
    | nil => rfl
    | cons i l =>
      have hi : i ∈ Region.ready md ops listed := by rw [hr]; simp
      obtain ⟨h0, o, ho, _⟩ := mem_ready.1 hi
      have hlt := (Array.getElem?_eq_some_iff.1 ho).1
      have h1 := hall i hlt
      have hlt2 : i < listed.size := by have := hsz _ _ _ h; omega
      simp [hlt2] at h0 h1
      rw [h0] at h1; cases h1
  | succ fuel ih =>
    intro listed a w h hu
    refine ⟨fun hr => hdone _ _ _ h (ready_nil hb (hsz _ _ _ h) hr), fun i hi => ?_⟩
    obtain ⟨h0, o, ho, _⟩ := mem_ready.1 hi
    have hlt := (Array.getElem?_eq_some_iff.1 ho).1
    refine wpOp_step ho (fun K' hK => hstep listed a w i o h hi ho K' (fun a' w' h' => hK a' w' (ih _ a' w' h' ?_)))
    have := unl_set hlt (hsz _ _ _ h) h0
    omega
/-- a world that is more than another -/
def Ext (w w' : World) : Prop := w.heap.size ≤ w'.heap.size ∧ ∀ p : Addr, p.block < w.heap.size → w'.cell? p = w.cell? p
theorem Ext.refl (w : World) : Ext w w := ⟨Nat.le_refl _, fun _ _ => rfl⟩
theorem Ext.of_below {w w' : World} (h : Below w.heap.size w w') : Ext w w' := ⟨h.size, fun _ hp => h.cell hp⟩
theorem ready_dep {listed : Array Bool} {i j : Nat} (hw : Region.waitsFor md ops i j = true) (hi : i ∈ Region.ready md ops listed) : listed.getD j false = true := by
  obtain ⟨oj, hoj, x, hx, hb, hon⟩ := Region.waitsFor_spec hw
  obtain ⟨_, oj', hoj', hall⟩ := mem_ready.1 hi
  rw [hoj] at hoj'
  injection hoj' with hoj'
  subst hoj'
  have h1 := hall x hx hb
  rwa [hon] at h1
/-- from each of a list to each by its place -/
def AllFrom (p : Nat → Oper → Prop) : Nat → List Oper → Prop
  | _, [] => True
  | k, o :: l => p k o ∧ AllFrom p (k + 1) l
theorem AllFrom.nil {p : Nat → Oper → Prop} {k : Nat} : AllFrom p k [] := trivial
theorem AllFrom.cons {p : Nat → Oper → Prop} {k : Nat} {o : Oper} {l : List Oper} (h : p k o) (hl : AllFrom p (k + 1) l) : AllFrom p k (o :: l) := ⟨h, hl⟩
theorem AllFrom.get {p : Nat → Oper → Prop} : ∀ {l : List Oper} {k : Nat}, AllFrom p k l → ∀ i o, l[i]? = some o → p (k + i) o := by
  intro l
  induction l with
  | nil => intro k _ i o h; simp at h
  | cons x l ih =>
    intro k h i o ho
    cases i with
    | zero => simp at ho; subst ho; exact h.1
    | succ i => rw [List.getElem?_cons_succ] at ho; rw [show k + (i + 1) = (k + 1) + i by omega]; exact ih h.2 i o ho
theorem all_ops {p : Nat → Oper → Prop} {l : List Oper} (h : AllFrom p 0 l) : ∀ i o, l.toArray[i]? = some o → p i o := fun i o ho => by
  have := h.get i o (by simpa using ho)
  rwa [Nat.zero_add] at this
end
end Go.Proofs.Ytlfkgpllleogoaa

namespace Go.Proofs.Ytlfkgpllleogoaa
open Go.RowKit
set_option linter.unusedVariables false
section
variable {P : Program} {md : Region.Mode} {ops : Array Oper} {Q : Exit → Act → World → Prop}
/-- one operation: wanted ('wt') it is done, else its place holds nothing -/
def OpOKG (P : Program) (Q : Exit → Act → World → Prop) (w0 : World) (V : Nat → Value → World → Prop) (dst : Nat → Nat) (deps : Nat → List Nat) (Fr : Act → Prop) (wt : Bool) (i : Nat) (o : Oper) : Prop :=
  ∀ (a : Act) (w : World), Fr a → Below w0.heap.size w0 w → (∀ j ∈ deps i, V j (a.eval (.tmp (dst j))) w) → ∀ K : Act → World → Prop, Shut (∀ v w', Ext w w' → Below w0.heap.size w0 w' → V i v w' → K (a.put o.dst v) w') →
    if wt = true then Oper.wp P o a w K Q else K (a.put o.dst undef) w
theorem region_invG {id : Nat} (frame : (Nat → Value) → Act) (dst : Nat → Nat) (deps : Nat → List Nat) (want : Nat → Bool) (V : Nat → Value → World → Prop) (Fr : Act → Prop) {w0 w : World} {U0 : Nat → Value} (hm : P.follows .mixedOrders = true) (hb : goesBack .any ops = true)
    (hinj : ∀ i j, i < ops.size → j < ops.size → dst i = dst j → i = j) (hdst : ∀ i o, ops[i]? = some o → o.dst = some (dst i)) (hdeps : ∀ i, i < ops.size → ∀ j ∈ deps i, Region.waitsFor .any ops i j = true)
    (hwant : ∀ i o, ops[i]? = some o → ∀ U w, (∀ j ∈ deps i, V j (U (dst j)) w) → Region.wanted o (yielded ops (frame U).tmps) = want i)
    (hput : ∀ i o, ops[i]? = some o → ∀ U v, (frame U).put (some (dst i)) v = frame (fun n => if n = dst i then v else U n)) (hev : ∀ i o, ops[i]? = some o → ∀ U, (frame U).eval (.tmp (dst i)) = U (dst i)) (hfr : ∀ U, Fr (frame U))
    (hst : ∀ i v w w', V i v w → Ext w w' → V i v w') (hB : Below w0.heap.size w0 w) (hok : ∀ i o, ops[i]? = some o → OpOKG P Q w0 V dst deps Fr (want i) i o)
    (hdone : ∀ U w', Below w0.heap.size w0 w' → (∀ i, i < ops.size → V i (U (dst i)) w') → Q .normal (frame U) w') : (Code.region id ops true).wp P Q (frame U0) w := by
  refine wp_region_any hm (wpAny_inv (I := fun listed a w => ∃ U, a = frame U ∧ Below w0.heap.size w0 w ∧ listed.size = ops.size ∧ ∀ i, i < ops.size → listed.getD i false = true → V i (U (dst i)) w) hb (fun listed a w h => by obtain ⟨_, _, _, h, _⟩ := h; exact h) ?_ ?_ ops.size _ _ _
    ⟨U0, rfl, hB.drew, by simp, fun i hi h => by simp [hi] at h⟩ ?_)
  · rintro listed a w i o ⟨U, rfl, hBw, hs, hV⟩ hi ho K hK
    have hd := hdst i o ho
    have hlt := (Array.getElem?_eq_some_iff.1 ho).1
    have hdep : ∀ j ∈ deps i, V j (U (dst j)) w := fun j hj => by
      have h1 := ready_dep (hdeps i hlt j hj) hi
      have hjl : j < ops.size := by
        rcases Nat.lt_or_ge j listed.size with h' | h'
        · omega
        · simp [Array.getElem?_eq_none h'] at h1
      exact hV j hjl h1
    have hjs : ∀ j ∈ deps i, j < ops.size := fun j hj => by
      have h1 := ready_dep (hdeps i hlt j hj) hi
      rcases Nat.lt_or_ge j listed.size with h' | h'
      · omega
      · simp [Array.getElem?_eq_none h'] at h1
    rw [hwant i o ho U w hdep]
    refine hok i o ho (frame U) w (hfr U) hBw (fun j hj => ?_) K (fun v w' he hB' hv => hK _ _ ⟨fun n => if n = dst i then v else U n, ?_, hB', by simp [hs], fun j hj hl => ?_⟩)
    · have hjl := hjs j hj
      rw [hev j ops[j] (Array.getElem?_eq_getElem hjl)]
      exact hdep j hj
    · rw [hd]; exact hput i o ho U v
    · by_cases hji : j = i
      · subst hji; show V j (if dst j = dst j then v else U (dst j)) w'; rw [if_pos rfl]; exact hv
      · have hne : dst j ≠ dst i := fun e => hji (hinj j i hj hlt e)
        simp only [if_neg hne]
        rw [getD_set_ne false (Ne.symm hji)] at hl
        exact hst j _ _ _ (hV j hj hl) he
  · rintro listed a w ⟨U, rfl, hBw, hs, hV⟩ hall
    exact hdone U w hBw (fun i hi => hV i hi (hall i hi))
  · unfold unl
    exact Nat.le_trans (List.length_filter_le _ _) (by simp)
end
end Go.Proofs.Ytlfkgpllleogoaa

