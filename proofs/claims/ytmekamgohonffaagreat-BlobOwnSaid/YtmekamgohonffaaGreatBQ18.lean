/- CrcBurst SumMath -/
import Derived.Test.YtmekamgohonffaaGreatBQ06
namespace Go.Proofs.YtmekamgohonffaaGreat
namespace Crc
theorem lay_get (l m : List Nat) (h : l.length = m.length) (j : Nat) (hj : j < l.length) : (lay l m)[j]? = some (l.getD j 0 ^^^ m.getD j 0) := by
  induction l generalizing m j with
  | nil => simp at hj
  | cons x l ih => cases m with
    | nil => simp at h
    | cons y m => cases j with
      | zero => simp [lay]
      | succ j => simpa [lay] using ih m (by simpa using h) j (by simpa using hj)
theorem lay_map (l m : List Nat) (d : Nat → Nat) (h : l.length = m.length) (hd : ∀ j, j < l.length → l.getD j 0 = m.getD j 0 ^^^ d j) : lay l m = (List.range l.length).map d := by
  apply List.ext_getElem?
  intro j
  rcases Nat.lt_or_ge j l.length with hj | hj
  · rw [lay_get l m h j hj, List.getElem?_map, List.getElem?_range hj, hd j hj, Nat.xor_comm (m.getD j 0), Nat.xor_assoc, Nat.xor_self, Nat.xor_zero]
    rfl
  · rw [List.getElem?_eq_none (by rw [lay_length l m h]; exact hj), List.getElem?_eq_none (by simpa using hj)]
theorem zeros_of (n : Nat) (d : Nat → Nat) (h : ∀ j, j < n → d j = 0) : (List.range n).map d = List.replicate n 0 := by
  rw [List.eq_replicate_iff]
  exact ⟨by simp, fun b hb => by obtain ⟨j, hj, rfl⟩ := List.mem_map.1 hb; exact h j (List.mem_range.1 hj)⟩
theorem split_map (a b : Nat) (d : Nat → Nat) : (List.range (a + b)).map d = (List.range a).map d ++ (List.range b).map fun i => d (a + i) := by
  rw [List.range_add, List.map_append, List.map_map]; rfl
theorem run_map_lt (n : Nat) (d : Nat → Nat) (h8 : ∀ j, d j < 256) {c : Nat} (hc : c < 4294967296) : run c ((List.range n).map d) < 4294967296 :=
  run_lt _ hc (fun x hx => by obtain ⟨j, _, rfl⟩ := List.mem_map.1 hx; exact h8 j)
/-- four turns, and no more -/
theorem run_four (m : Nat) (d : Nat → Nat) (h8 : ∀ j, d j < 256) (h0 : ∀ j, 4 ≤ j → d j = 0) : run 0 ((List.range m).map d) = 0 ↔ ∀ i, i < 4 → i < m → d i = 0 := by
  have key : ∀ E : Nat → Nat, (∀ j, E j < 256) → (∀ j, 4 ≤ j → E j = 0) → ∀ m, run 0 ((List.range (4 + m)).map E) = 0 ↔ E 0 = 0 ∧ E 1 = 0 ∧ E 2 = 0 ∧ E 3 = 0 := by
    intro E e8 e0 m
    rw [split_map, run_app, zeros_of m _ (fun j _ => e0 _ (by omega)), run_zeros m (run_map_lt 4 E e8 (by omega))]
    constructor
    · intro h; exact four (e8 _) (e8 _) (e8 _) (e8 _) h
    · rintro ⟨a, b, c, e⟩
      rw [zeros_of 4 E (by intro j hj; have : j = 0 ∨ j = 1 ∨ j = 2 ∨ j = 3 := by omega
                           rcases this with rfl | rfl | rfl | rfl <;> assumption)]
      decide
  have hE := key (fun i => if i < m then d i else 0) (fun j => by split; exact h8 j; omega) (fun j hj => by split; exact h0 j hj; rfl) m
  have e : (List.range (4 + m)).map (fun i => if i < m then d i else 0) = (List.range m).map d ++ List.replicate 4 0 := by
    rw [Nat.add_comm, split_map]
    congr 1
    · apply List.map_congr_left
      intro i hi
      rw [if_pos (List.mem_range.1 hi)]
    · exact zeros_of 4 _ (fun j _ => by rw [if_neg (by omega)])
  rw [e, run_app, run_zeros 4 (run_map_lt m d h8 (by omega))] at hE
  rw [hE]
  constructor
  · rintro ⟨a, b, c, f⟩ i hi him
    have : i = 0 ∨ i = 1 ∨ i = 2 ∨ i = 3 := by omega
    rcases this with rfl | rfl | rfl | rfl
    · simpa [him] using a
    · simpa [him] using b
    · simpa [him] using c
    · simpa [him] using f
  · intro h
    refine ⟨?_, ?_, ?_, ?_⟩ <;> (split; exact h _ (by omega) ‹_›; rfl)
theorem burst (l y : List Nat) (hlen : y.length = l.length) (q : Nat) (hq : q ≤ l.length) (d : Nat → Nat) (hd : ∀ j, j < l.length → y.getD j 0 = l.getD j 0 ^^^ d j)
    (h0 : ∀ j, j < q ∨ q + 4 ≤ j → d j = 0) (h8 : ∀ j, d j < 256) : sum y = sum l ↔ ∀ i, i < 4 → q + i < l.length → d (q + i) = 0 := by
  have e1 : run 0 (lay y l) = run 4294967295 y ^^^ run 4294967295 l := by
    rw [← run_lay _ _ _ _ hlen, Nat.xor_self]
  rw [sum_eq, ← xor_eq_zero, ← e1, lay_map y l d hlen (by rw [hlen]; exact hd), hlen]
  obtain ⟨m, hm⟩ : ∃ m, l.length = q + m := ⟨l.length - q, by omega⟩
  rw [hm, split_map, run_app, zeros_of q d (fun j hj => h0 j (.inl hj)), (run_zeros q (c := 0) (by omega)).2 rfl, run_four m _ (fun j => h8 _) (fun j hj => h0 _ (.inr (by omega)))]
  exact ⟨fun h i hi hm' => h i hi (by omega), fun h i hi hm' => h i hi (by omega)⟩

/-- one bit -/
theorem one_bit (l : List Nat) (q : Nat) (hq : q < l.length) (b : Nat) (hb : b < 256) (h0 : b ≠ 0) : sum (l.set q (l.getD q 0 ^^^ b)) ≠ sum l := by
  intro h
  have := (burst l (l.set q (l.getD q 0 ^^^ b)) (by simp) q (by omega) (fun j => if j = q then b else 0) (fun j hj => by
    rw [List.getD_eq_getElem?_getD, List.getElem?_set]
    by_cases hjq : q = j
    · subst hjq; rw [if_pos rfl, if_pos hq, if_pos rfl]; simp
    · rw [if_neg hjq, if_neg (by omega), Nat.xor_zero, List.getD_eq_getElem?_getD])
    (fun j hj => if_neg (by omega)) (fun j => by split; exact hb; omega)).1 h 0 (by omega) (by omega)
  simp at this
  exact h0 this
end Crc
end Go.Proofs.YtmekamgohonffaaGreat

namespace Go.Proofs.YtmekamgohonffaaGreat
namespace Fr
def four (c : Nat) : List Nat := [c % 256, c / 256 % 256, c / 65536 % 256, c / 16777216 % 256]
theorem four_len (c : Nat) : (four c).length = 4 := rfl
theorem four_lt (c : Nat) : ∀ x ∈ four c, x < 256 := by
  intro x hx
  simp only [four, List.mem_cons, List.not_mem_nil, or_false] at hx
  omega
theorem four_inj {c d : Nat} (hc : c < 4294967296) (hd : d < 4294967296) (h : four c = four d) : c = d := by
  simp only [four, List.cons.injEq, and_true] at h
  omega
end Fr
end Go.Proofs.YtmekamgohonffaaGreat

