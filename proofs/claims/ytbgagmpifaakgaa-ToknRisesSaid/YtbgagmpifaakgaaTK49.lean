/- TknRisMath -/
import Derived.Test.YtbgagmpifaakgaaTK14
namespace Go.Proofs.Ytbgagmpifaakgaa
set_option linter.unusedVariables false
namespace Tk
theorem foldl_min_le : ∀ (l : List Int) (x : Int), l.foldl min x ≤ x ∧ ∀ y ∈ l, l.foldl min x ≤ y
  | [], x => ⟨Int.le_refl _, fun y h => by cases h⟩
  | a :: l, x => by
    obtain ⟨h1, h2⟩ := foldl_min_le l (min x a)
    refine ⟨by show l.foldl min (min x a) ≤ x; omega, fun y hy => ?_⟩
    show l.foldl min (min x a) ≤ y
    rcases List.mem_cons.1 hy with rfl | hy
    · omega
    · exact h2 y hy
theorem le_foldl_min : ∀ (l : List Int) (x b : Int), b ≤ x → (∀ y ∈ l, b ≤ y) → b ≤ l.foldl min x
  | [], x, b, h, _ => h
  | a :: l, x, b, h, hl => le_foldl_min l (min x a) b (by have := hl a (by simp); omega) (fun y hy => hl y (by simp [hy]))
theorem safe_le {l : List Int} {y : Int} (h : y ∈ l) : safe l ≤ y := by
  cases l with
  | nil => cases h
  | cons x l =>
    obtain ⟨h1, h2⟩ := foldl_min_le l x
    rcases List.mem_cons.1 h with rfl | h
    · exact h1
    · exact h2 y h
theorem le_safe {l : List Int} {b : Int} (h0 : l ≠ []) (h : ∀ y ∈ l, b ≤ y) : b ≤ safe l := by
  cases l with
  | nil => exact absurd rfl h0
  | cons x l => exact le_foldl_min l x b (h x (by simp)) (fun y hy => h y (by simp [hy]))
/-- the least of the first k, begun with the first -/
def least (l : List Int) (k : Nat) : Int := (l.take k).foldl min (l.getD 0 0)
theorem least_zero (l : List Int) : least l 0 = l.getD 0 0 := by simp [least]
theorem least_succ {l : List Int} {k : Nat} {z : Int} (h : l[k]? = some z) : least l (k + 1) = min (least l k) z := foldl_min_take l _ k z h
theorem least_all {l : List Int} {k : Nat} (h0 : l ≠ []) (hk : l.length ≤ k) : least l k = safe l := by
  cases l with
  | nil => exact absurd rfl h0
  | cons x l =>
    unfold least
    rw [List.take_of_length_le hk]
    show l.foldl min (min x x) = l.foldl min x
    rw [show min x x = x by omega]
/-- a token under way -/
structure Ris (N : Nat) (LEN : Int) (i : Nat) (M : Mg) (H : List Int) : Prop where
  data : M.data = []
  ent : M.ent = En.zero
  hav : M.hav = H
  len : H.length = N
  hop : M.hop = 1 + (i : Int)
  s0 : LEN ≤ M.seq
  s1 : M.seq ≤ LEN + 4 * (i : Int)
  lo : ∀ x ∈ H, LEN ≤ x
  hi : ∀ x ∈ H, x ≤ M.seq
  n8 : M.nee.length ≤ 8
  nh : ∀ x ∈ M.nee, x ≤ M.seq
theorem Ris.start (N : Nat) (LEN : Int) (hN : 1 ≤ N) (hN7 : N ≤ 7) : Ris N LEN 0 (first 8 N LEN) (List.replicate N LEN) := by
  have hh : (held (N : Int) 1 7).toNat = N := by unfold held; omega
  refine ⟨rfl, rfl, ?_, by simp, by show (1 : Int) = _; omega, Int.le_refl _, by show LEN ≤ _; omega, fun x hx => ?_, fun x hx => ?_, by show ([] : List Int).length ≤ 8; simp, fun x hx => by cases hx⟩
  · show List.replicate (held (N : Int) 1 7).toNat LEN = _; rw [hh]
  · rw [List.mem_replicate] at hx; rw [hx.2]; exact Int.le_refl _
  · rw [List.mem_replicate] at hx; rw [hx.2]; exact Int.le_refl _
theorem mem_set_of {l : List Int} {p : Nat} {h y : Int} (hy : y ∈ l.set p h) : y = h ∨ y ∈ l := by
  rcases List.mem_or_eq_of_mem_set hy with h1 | h1
  · exact .inr h1
  · exact .inl h1
/-- a round -/
theorem Ris.step {N : Nat} {LEN : Int} {i p : Nat} {M : Mg} {H : List Int} {x d f me nx : Int} {mis : List Int} (h : Ris N LEN i M H) (hN : 1 ≤ N) (hx : H[p]? = some x) (hd : 0 ≤ d) (hf : 0 ≤ f)
    {rm S h' : Int} (hrm : room M.seq (safe H) = rm) (hS : M.seq + min f rm = S) (hh : min (x + d) S = h') (hm : ∀ y ∈ mis, y ≤ S) :
    Ris N LEN (i + 1) (pass M me p nx h' f [] mis) (H.set p h') ∧ (pass M me p nx h' f [] mis).hop = M.hop + 1 ∧ (pass M me p nx h' f [] mis).seq = S ∧ safe H ≤ safe (H.set p h') ∧ (S ≤ safe (H.set p h') + 16 ∨ S ≤ M.seq) ∧
      ∀ y ∈ (pass M me p nx h' f [] mis).nee, safe (H.set p h') < y ∧ y ≤ S := by
  have hp : p < H.length := (List.getElem?_eq_some_iff.1 hx).1
  have hxm : x ∈ H := List.mem_of_getElem? hx
  have hrm4 : 0 ≤ rm ∧ rm ≤ 4 := by rw [← hrm]; unfold room; split <;> omega
  have hsq : (pass M me p nx h' f [] mis).seq = S := by
    show M.seq + held f 0 (room M.seq (safe M.hav)) = S
    rw [h.hav, hrm, ← hS]
    unfold held; congr 1; omega
  have hhv : Tk.hav M.hav (p : Int) h' = H.set p h' := by
    rw [h.hav]; unfold Tk.hav; rw [if_pos ⟨by omega, by omega⟩]; rfl
  have hxs := h.hi x hxm
  have hne : H.set p h' ≠ [] := by intro e; have := congrArg List.length e; simp at this; rw [this] at hp; simp at hp
  have hmono : safe H ≤ safe (H.set p h') := by
    refine le_safe hne (fun y hy => ?_)
    rcases mem_set_of hy with rfl | hy
    · have := safe_le hxm; omega
    · exact safe_le hy
  have hnee : ∀ y ∈ (pass M me p nx h' f [] mis).nee, safe (H.set p h') < y ∧ y ≤ S := fun y hy => by
    have hy : y ∈ need (out M.nee []) mis (safe (Tk.hav M.hav (p : Int) h')) := hy
    rw [hhv] at hy
    obtain ⟨h1, h2⟩ := need_mem hy
    refine ⟨h2, ?_⟩
    rcases h1 with h1 | h1
    · have := h.nh y (List.mem_filter.1 h1).1; omega
    · exact hm y h1
  refine ⟨⟨h.data, h.ent, hhv, by rw [List.length_set]; exact h.len, by show M.hop + 1 = _; rw [h.hop]; omega, by rw [hsq]; have := h.s0; omega, by rw [hsq]; have := h.s1; omega, fun y hy => ?_, fun y hy => ?_, ?_, fun y hy => ?_⟩, rfl, hsq, hmono, ?_, hnee⟩
  · rcases mem_set_of hy with rfl | hy
    · have := h.lo x hxm; have := h.s0; omega
    · exact h.lo y hy
  · rw [hsq]
    rcases mem_set_of hy with rfl | hy
    · omega
    · have := h.hi y hy; omega
  · exact need_len _ _ _
  · rw [hsq]; exact (hnee y hy).2
  · rcases Int.lt_or_le 0 rm with h0 | h0
    · left
      have e : room M.seq (safe H) = rm := hrm
      unfold room at e
      split at e <;> omega
    · right; omega
end Tk
end Go.Proofs.Ytbgagmpifaakgaa

