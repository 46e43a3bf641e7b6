/- MapsMath MapsInv -/
namespace Go.Proofs.YtaknfmionkkdjaaGreat
namespace Mp
/-- where x stands first; -1: nowhere -/
def idx {α : Type} [DecidableEq α] (s : List α) (x : α) : Nat := s.idxOf x
def place {α : Type} [DecidableEq α] (s : List α) (x : α) : Int := if x ∈ s then (idx s x : Int) else -1
section
variable {α : Type} [DecidableEq α]
theorem place_first {s : List α} {x : α} {k : Nat} (hk : s[k]? = some x) (hn : ∀ j, j < k → s[j]? ≠ some x) : place s x = (k : Int) := by
  have hm : x ∈ s := List.mem_of_getElem? hk
  unfold place
  rw [if_pos hm]
  congr 1
  unfold idx
  induction s generalizing k with
  | nil => simp at hk
  | cons y t ih =>
    cases k with
    | zero => simp at hk; subst hk; simp
    | succ k =>
      have hy : y ≠ x := by have := hn 0 (by omega); simpa using this
      rw [List.idxOf_cons]
      have hb : (y == x) = false := by simpa using hy
      rw [hb]
      simp at hk
      have := ih hk (fun j hj => by have := hn (j + 1) (by omega); simpa using this) (by simpa [hy.symm] using hm)
      simp [this]
theorem place_none {s : List α} {x : α} (hn : ∀ j, j < s.length → s[j]? ≠ some x) : place s x = -1 := by
  unfold place
  rw [if_neg]
  intro h
  obtain ⟨i, hi, e⟩ := List.getElem_of_mem h
  exact hn i hi (by rw [List.getElem?_eq_getElem hi, e])
theorem place_lt {s : List α} {x : α} (h : x ∈ s) : ∃ k : Nat, place s x = (k : Int) ∧ s[k]? = some x ∧ idx s x = k := by
  refine ⟨s.idxOf x, by unfold place; rw [if_pos h]; rfl, ?_, rfl⟩
  have := List.idxOf_lt_length_of_mem h
  rw [List.getElem?_eq_getElem this, List.getElem_idxOf]
theorem place_no {s : List α} {x : α} (h : x ∉ s) : place s x = -1 := by unfold place; rw [if_neg h]
end
/-- the order of bytes -/
def ltB : List Nat → List Nat → Bool
  | _, [] => false
  | [], _ :: _ => true
  | a :: x, b :: y => decide (a < b) || (decide (a = b) && ltB x y)
theorem ltB_irrefl (x : List Nat) : ltB x x = false := by
  induction x with
  | nil => rfl
  | cons a x ih => simp [ltB, ih]
theorem ltB_trans {x y z : List Nat} (h1 : ltB x y = true) (h2 : ltB y z = true) : ltB x z = true := by
  induction x generalizing y z with
  | nil =>
    cases z with
    | nil => cases y <;> simp [ltB] at h2
    | cons c z => rfl
  | cons a x ih =>
    cases y with
    | nil => simp [ltB] at h1
    | cons b y =>
      cases z with
      | nil => simp [ltB] at h2
      | cons c z =>
        simp only [ltB, Bool.or_eq_true, decide_eq_true_eq, Bool.and_eq_true] at h1 h2 ⊢
        rcases h1 with h1 | ⟨rfl, h1⟩ <;> rcases h2 with h2 | ⟨rfl, h2⟩
        · exact .inl (by omega)
        · exact .inl h1
        · exact .inl h2
        · exact .inr ⟨rfl, ih h1 h2⟩
theorem ltB_total {x y : List Nat} (h1 : ltB x y = false) (h2 : ltB y x = false) : x = y := by
  induction x generalizing y with
  | nil =>
    cases y with
    | nil => rfl
    | cons b y => simp [ltB] at h1
  | cons a x ih =>
    cases y with
    | nil => simp [ltB] at h2
    | cons b y =>
      simp only [ltB, Bool.or_eq_false_iff, decide_eq_false_iff_not, Bool.and_eq_false_imp, decide_eq_true_eq] at h1 h2
      have e : a = b := by omega
      subst e
      rw [ih (h1.2 rfl) (h2.2 rfl)]
abbrev Pr := List Nat × List Nat
/-- a map: keys rise -/
def Rises (ps : List Pr) : Prop := ps.Pairwise fun p q => ltB p.1 q.1 = true
def keys (ps : List Pr) : List (List Nat) := ps.map (·.1)
/-- how many keys are below k -/
def cut (ps : List Pr) (k : List Nat) : Nat := (ps.takeWhile fun p => ltB p.1 k).length
theorem cut_le (ps : List Pr) (k : List Nat) : cut ps k ≤ ps.length := (List.takeWhile_sublist _).length_le
/-- a cut is known by what stands on its two sides -/
theorem cut_is {ps : List Pr} {k : List Nat} {c : Nat} (hc : c ≤ ps.length) (h1 : ∀ (j : Nat) (p : Pr), j < c → ps[j]? = some p → ltB p.1 k = true) (h2 : ∀ p : Pr, ps[c]? = some p → ltB p.1 k = false) : cut ps k = c := by
  unfold cut
  induction ps generalizing c with
  | nil => simp at hc; subst hc; rfl
  | cons q ps ih =>
    cases c with
    | zero =>
      have := h2 q rfl
      simp [this]
    | succ c =>
      have := h1 0 q (by omega) rfl
      simp only [List.takeWhile_cons, this, if_true, List.length_cons]
      rw [ih (by simpa using hc) (fun j p hj hp => h1 (j + 1) p (by omega) (by simpa using hp)) (fun p hp => h2 p (by simpa using hp))]
/-- what Put leaves, and answers -/
def putS (ps : List Pr) (k v : List Nat) : List Pr :=
  if 8 < k.length ∨ 16 < v.length then ps else if k ∈ keys ps then ps.set (idx (keys ps) k) (k, v) else if 8 ≤ ps.length then ps else ps.take (cut ps k) ++ (k, v) :: ps.drop (cut ps k)
def putE (ps : List Pr) (k v : List Nat) : Int :=
  if 8 < k.length ∨ 16 < v.length then 1 else if k ∈ keys ps then 0 else if 8 ≤ ps.length then 3 else 0
def putV (ps : List Pr) (k v : List Nat) : List Nat :=
  if 8 < k.length ∨ 16 < v.length then [] else if k ∈ keys ps then (ps[idx (keys ps) k]?.map (·.2)).getD [] else []
def putN (ps : List Pr) (k v : List Nat) : Int :=
  if 8 < k.length ∨ 16 < v.length then 0 else if k ∈ keys ps then (ps.length : Int) else if 8 ≤ ps.length then 0 else ((ps.length + 1 : Nat) : Int)
/-- what Get answers -/
def getE (ps : List Pr) (k : List Nat) : Int := if k ∈ keys ps then 0 else 5
def getV (ps : List Pr) (k : List Nat) : List Nat := if k ∈ keys ps then (ps[idx (keys ps) k]?.map (·.2)).getD [] else []
/-- what Del leaves -/
def delS (ps : List Pr) (k : List Nat) : List Pr := if k ∈ keys ps then ps.eraseIdx (idx (keys ps) k) else ps
end Mp
end Go.Proofs.YtaknfmionkkdjaaGreat

namespace Go.Proofs.YtaknfmionkkdjaaGreat
namespace Mp
theorem rises_keys {ps : List Pr} : Rises ps ↔ (keys ps).Pairwise fun a b => ltB a b = true := by
  unfold Rises keys; rw [List.pairwise_map]
theorem cut_sides {ps : List Pr} {k : List Nat} (hr : Rises ps) (hk : k ∉ keys ps) : (∀ p ∈ ps.take (cut ps k), ltB p.1 k = true) ∧ ∀ p ∈ ps.drop (cut ps k), ltB k p.1 = true := by
  unfold cut
  induction ps with
  | nil => simp
  | cons q ps ih =>
    have hr' := List.pairwise_cons.1 hr
    have hk' : k ≠ q.1 ∧ k ∉ keys ps := by simpa [keys] using hk
    cases hq : ltB q.1 k with
    | true =>
      have ih' := ih hr'.2 hk'.2
      simp only [List.takeWhile_cons, hq, if_true, List.length_cons, List.take_succ_cons, List.drop_succ_cons]
      refine ⟨fun p hp => ?_, ih'.2⟩
      rcases List.mem_cons.1 hp with rfl | hp
      · exact hq
      · exact ih'.1 p hp
    | false =>
      simp only [List.takeWhile_cons, hq, Bool.false_eq_true, if_false, List.length_nil, List.take_zero, List.drop_zero]
      have hqk : ltB k q.1 = true := by
        cases h : ltB k q.1 with
        | true => rfl
        | false => exact absurd (ltB_total h hq) hk'.1
      refine ⟨by simp, fun p hp => ?_⟩
      rcases List.mem_cons.1 hp with rfl | hp
      · exact hqk
      · exact ltB_trans hqk (hr'.1 p hp)
/-- what a map keeps -/
structure Inv (ps : List Pr) : Prop where
  rise : Rises ps
  few : ps.length ≤ 8
  len : ∀ p ∈ ps, p.1.length ≤ 8 ∧ p.2.length ≤ 16
  byt : ∀ p ∈ ps, (∀ x ∈ p.1, x < 256) ∧ ∀ x ∈ p.2, x < 256
theorem Inv.nil : Inv [] := ⟨List.Pairwise.nil, by simp, by simp, by simp⟩
theorem keys_set {ps : List Pr} {i : Nat} {k v : List Nat} (h : (keys ps)[i]? = some k) : keys (ps.set i (k, v)) = keys ps := by
  unfold keys at h ⊢
  rw [List.map_set]
  apply List.ext_getElem?
  intro j
  by_cases hij : i = j
  · subst hij
    have hlt : i < (ps.map (·.1)).length := by
      rcases Nat.lt_or_ge i (ps.map (·.1)).length with h' | h'
      · exact h'
      · rw [List.getElem?_eq_none h'] at h; cases h
    rw [List.getElem?_set_self hlt, h]
  · rw [List.getElem?_set_ne hij]
theorem Inv.put {ps : List Pr} {k v : List Nat} (h : Inv ps) (hk : ∀ x ∈ k, x < 256) (hv : ∀ x ∈ v, x < 256) : Inv (putS ps k v) := by
  unfold putS
  by_cases hlong : 8 < k.length ∨ 16 < v.length
  · rw [if_pos hlong]; exact h
  · rw [if_neg hlong]
    by_cases hin : k ∈ keys ps
    · rw [if_pos hin]
      obtain ⟨i, _, hi, hix⟩ := place_lt hin
      rw [hix]
      refine ⟨?_, by simp; exact h.few, fun p hp => ?_, fun p hp => ?_⟩
      · rw [rises_keys, keys_set hi, ← rises_keys]; exact h.rise
      · rcases List.mem_or_eq_of_mem_set hp with hp | rfl
        · exact h.len p hp
        · exact ⟨by simp; omega, by simp; omega⟩
      · rcases List.mem_or_eq_of_mem_set hp with hp | rfl
        · exact h.byt p hp
        · exact ⟨hk, hv⟩
    · rw [if_neg hin]
      by_cases hf : 8 ≤ ps.length
      · rw [if_pos hf]; exact h
      · rw [if_neg hf]
        obtain ⟨s1, s2⟩ := cut_sides h.rise hin
        have hc := cut_le ps k
        have hm : ∀ p, p ∈ ps.take (cut ps k) ++ (k, v) :: ps.drop (cut ps k) → p ∈ ps ∨ p = (k, v) := fun p hp => by
          rcases List.mem_append.1 hp with hp | hp
          · exact .inl (List.mem_of_mem_take hp)
          · rcases List.mem_cons.1 hp with hp | hp
            · exact .inr hp
            · exact .inl (List.mem_of_mem_drop hp)
        refine ⟨?_, by simp; omega, fun p hp => ?_, fun p hp => ?_⟩
        · unfold Rises
          rw [List.pairwise_append]
          refine ⟨h.rise.sublist (List.take_sublist _ _), ?_, fun p hp q hq => ?_⟩
          · rw [List.pairwise_cons]
            exact ⟨fun q hq => s2 q hq, h.rise.sublist (List.drop_sublist _ _)⟩
          · rcases List.mem_cons.1 hq with rfl | hq
            · exact s1 p hp
            · exact ltB_trans (s1 p hp) (s2 q hq)
        · rcases hm p hp with hp | rfl
          · exact h.len p hp
          · exact ⟨by simp; omega, by simp; omega⟩
        · rcases hm p hp with hp | rfl
          · exact h.byt p hp
          · exact ⟨hk, hv⟩
theorem Inv.del {ps : List Pr} {k : List Nat} (h : Inv ps) : Inv (delS ps k) := by
  unfold delS
  split
  · have hs := List.eraseIdx_sublist ps (idx (keys ps) k)
    exact ⟨h.rise.sublist hs, Nat.le_trans hs.length_le h.few, fun p hp => h.len p (hs.subset hp), fun p hp => h.byt p (hs.subset hp)⟩
  · exact h
theorem getV_mem {ps : List Pr} {k : List Nat} : getV ps k = [] ∨ ∃ p ∈ ps, getV ps k = p.2 := by
  unfold getV
  split
  · cases h : ps[idx (keys ps) k]? with
    | none => exact .inl rfl
    | some p => exact .inr ⟨p, List.mem_of_getElem? h, rfl⟩
  · exact .inl rfl
theorem putV_mem {ps : List Pr} {k v : List Nat} : putV ps k v = [] ∨ ∃ p ∈ ps, putV ps k v = p.2 := by
  unfold putV
  split
  · exact .inl rfl
  · split
    · cases h : ps[idx (keys ps) k]? with
      | none => exact .inl rfl
      | some p => exact .inr ⟨p, List.mem_of_getElem? h, rfl⟩
    · exact .inl rfl
end Mp
end Go.Proofs.YtaknfmionkkdjaaGreat

