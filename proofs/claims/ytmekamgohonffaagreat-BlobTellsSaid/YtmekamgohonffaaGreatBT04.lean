/- RegsMath MapsMath -/
namespace Go.Proofs.YtmekamgohonffaaGreat
def casS (s old v : List Nat) : List Nat := if 16 < v.length then s else if s = old then v else s
def casE (s old v : List Nat) : Int := if 16 < v.length then 1 else if s = old then 0 else 2
def casV (s old v : List Nat) : List Nat := if 16 < v.length then [] else if s = old then [] else s
theorem casS_lt {s v : List Nat} (old : List Nat) (hs : ∀ x ∈ s, x < 256) (hv : ∀ x ∈ v, x < 256) : ∀ x ∈ casS s old v, x < 256 := by
 unfold casS; split
 · exact hs
 · split
   · exact hv
   · exact hs
theorem casV_lt {s : List Nat} (v old : List Nat) (hs : ∀ x ∈ s, x < 256) : ∀ x ∈ casV s old v, x < 256 := by
 unfold casV; split
 · intro x hx; cases hx
 · split
   · intro x hx; cases hx
   · exact hs
namespace Mp
def idx {α : Type} [DecidableEq α] (s : List α) (x : α) : Nat := s.idxOf x
def place {α : Type} [DecidableEq α] (s : List α) (x : α) : Int := if x ∈ s then (idx s x : Int) else -1
section
variable {α : Type} [DecidableEq α]
theorem place_first {s : List α} {x : α} {k : Nat} (hk : s[k]? = some x) (hn : ∀ j, j < k -> s[j]? ≠ some x) : place s x = (k : Int) := by
 have hm : x ∈ s := List.mem_of_getElem? hk
 unfold place
 rw [if_pos hm]
 congr 1
 unfold idx
 induction s generalizing k with
 | nil => simp at hk
 | cons y t ih =>
   cases k with
   | zero => simp at hk; subst hk; simp
   | succ k =>
     have hy : y ≠ x := by have := hn 0 (by omega); simpa using this
     rw [List.idxOf_cons]
     have hb : (y == x) = false := by simpa using hy
     rw [hb]
     simp at hk
     have := ih hk (fun j hj => by have := hn (j + 1) (by omega); simpa using this) (by simpa [hy.symm] using hm)
     simp [this]
theorem place_none {s : List α} {x : α} (hn : ∀ j, j < s.length -> s[j]? ≠ some x) : place s x = -1 := by
 unfold place
 rw [if_neg]
 intro h
 obtain ⟨i, hi, e⟩ := List.getElem_of_mem h
 exact hn i hi (by rw [List.getElem?_eq_getElem hi, e])
theorem place_lt {s : List α} {x : α} (h : x ∈ s) : ∃ k : Nat, place s x = (k : Int) /\ s[k]? = some x /\ idx s x = k := by
 refine ⟨s.idxOf x, by unfold place; rw [if_pos h]; rfl, ?_, rfl⟩
 have := List.idxOf_lt_length_of_mem h
 rw [List.getElem?_eq_getElem this, List.getElem_idxOf]
theorem place_no {s : List α} {x : α} (h : x ∉ s) : place s x = -1 := by unfold place; rw [if_neg h]
end
def ltB : List Nat -> List Nat -> Bool
 | _, [] => false
 | [], _ :: _ => true
 | a :: x, b :: y => decide (a < b) || (decide (a = b) && ltB x y)
theorem ltB_irrefl (x : List Nat) : ltB x x = false := by
 induction x with
 | nil => rfl
 | cons a x ih => simp [ltB, ih]
theorem ltB_trans {x y z : List Nat} (h1 : ltB x y = true) (h2 : ltB y z = true) : ltB x z = true := by
 induction x generalizing y z with
 | nil =>
   cases z with
   | nil => cases y <;> simp [ltB] at h2
   | cons c z => rfl
 | cons a x ih =>
   cases y with
   | nil => simp [ltB] at h1
   | cons b y =>
     cases z with
     | nil => simp [ltB] at h2
     | cons c z =>
       simp only [ltB, Bool.or_eq_true, decide_eq_true_eq, Bool.and_eq_true] at h1 h2 |-
       rcases h1 with h1 | ⟨rfl, h1⟩ <;> rcases h2 with h2 | ⟨rfl, h2⟩
       · exact .inl (by omega)
       · exact .inl h1
       · exact .inl h2
       · exact .inr ⟨rfl, ih h1 h2⟩
theorem ltB_total {x y : List Nat} (h1 : ltB x y = false) (h2 : ltB y x = false) : x = y := by
 induction x generalizing y with
 | nil =>
   cases y with
   | nil => rfl
   | cons b y => simp [ltB] at h1
 | cons a x ih =>
   cases y with
   | nil => simp [ltB] at h2
   | cons b y =>
     simp only [ltB, Bool.or_eq_false_iff, decide_eq_false_iff_not, Bool.and_eq_false_imp, decide_eq_true_eq] at h1 h2
     have e : a = b := by omega
     subst e
     rw [ih (h1.2 rfl) (h2.2 rfl)]
abbrev Pr := List Nat × List Nat
def Rises (ps : List Pr) : Prop := ps.Pairwise fun p q => ltB p.1 q.1 = true
def keys (ps : List Pr) : List (List Nat) := ps.map (·.1)
def cut (ps : List Pr) (k : List Nat) : Nat := (ps.takeWhile fun p => ltB p.1 k).length
theorem cut_le (ps : List Pr) (k : List Nat) : cut ps k <= ps.length := (List.takeWhile_sublist _).length_le
theorem cut_is {ps : List Pr} {k : List Nat} {c : Nat} (hc : c <= ps.length) (h1 : ∀ (j : Nat) (p : Pr), j < c -> ps[j]? = some p -> ltB p.1 k = true) (h2 : ∀ p : Pr, ps[c]? = some p -> ltB p.1 k = false) : cut ps k = c := by
 unfold cut
 induction ps generalizing c with
 | nil => simp at hc; subst hc; rfl
 | cons q ps ih =>
   cases c with
   | zero =>
     have := h2 q rfl
     simp [this]
   | succ c =>
     have := h1 0 q (by omega) rfl
     simp only [List.takeWhile_cons, this, if_true, List.length_cons]
     rw [ih (by simpa using hc) (fun j p hj hp => h1 (j + 1) p (by omega) (by simpa using hp)) (fun p hp => h2 p (by simpa using hp))]
def putS (ps : List Pr) (k v : List Nat) : List Pr :=
 if 8 < k.length \/ 16 < v.length then ps else if k ∈ keys ps then ps.set (idx (keys ps) k) (k, v) else if 8 <= ps.length then ps else ps.take (cut ps k) ++ (k, v) :: ps.drop (cut ps k)
def putE (ps : List Pr) (k v : List Nat) : Int :=
 if 8 < k.length \/ 16 < v.length then 1 else if k ∈ keys ps then 0 else if 8 <= ps.length then 3 else 0
def putV (ps : List Pr) (k v : List Nat) : List Nat :=
 if 8 < k.length \/ 16 < v.length then [] else if k ∈ keys ps then (ps[idx (keys ps) k]?.map (·.2)).getD [] else []
def putN (ps : List Pr) (k v : List Nat) : Int :=
 if 8 < k.length \/ 16 < v.length then 0 else if k ∈ keys ps then (ps.length : Int) else if 8 <= ps.length then 0 else ((ps.length + 1 : Nat) : Int)
def getE (ps : List Pr) (k : List Nat) : Int := if k ∈ keys ps then 0 else 5
def getV (ps : List Pr) (k : List Nat) : List Nat := if k ∈ keys ps then (ps[idx (keys ps) k]?.map (·.2)).getD [] else []
def delS (ps : List Pr) (k : List Nat) : List Pr := if k ∈ keys ps then ps.eraseIdx (idx (keys ps) k) else ps
end Mp
end Go.Proofs.YtmekamgohonffaaGreat
