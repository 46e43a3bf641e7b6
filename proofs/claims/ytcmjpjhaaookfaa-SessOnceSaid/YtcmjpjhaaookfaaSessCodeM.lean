/- What the code's two searches and its sweep find. Plain. -/
import Derived.Test.YtcmjpjhaaookfaaSessC00
namespace Go.Proofs.Ytcmjpjhaaookfaa
set_option linter.unusedVariables false
namespace Tb
theorem here_of {ls : List Ls} {s : Int} {k : Nat} {l : Ls} (h : ∀ (j : Nat) (m : Ls), j < k → ls[j]? = some m → m.s ≠ s) (hl : ls[k]? = some l) (hs : l.s = s) : Tb.here ls s = some l := by
  unfold Tb.here
  have hk : k < ls.length := (List.getElem?_eq_some_iff.1 hl).1
  conv => lhs; rw [← List.take_append_drop k ls]
  rw [List.find?_append, Tb.find_none (l := ls.take k) (fun m hm => by
    obtain ⟨j, hj, e⟩ := List.getElem_of_mem hm
    have hj2 : j < k := by rw [List.length_take] at hj; omega
    have := h j m hj2 (by rw [← e, List.getElem_take, List.getElem?_eq_getElem])
    simpa using this)]
  have hd : ls.drop k = l :: ls.drop (k + 1) := by rw [List.drop_eq_getElem?_toList_append, hl]; rfl
  rw [hd]
  simp [hs]
theorem here_no {ls : List Ls} {s : Int} (h : ∀ (j : Nat) (m : Ls), ls[j]? = some m → m.s ≠ s) : Tb.here ls s = none := by
  unfold Tb.here
  refine Tb.find_none fun m hm => ?_
  obtain ⟨j, hj, e⟩ := List.getElem_of_mem hm
  have := h j m (by rw [← e]; exact List.getElem?_eq_getElem hj)
  simpa using this
/-- all but those of session s -/
def less (ls : List Ls) (s : Int) : List Ls := ls.filter fun m => decide (m.s ≠ s)
theorem less_rises {ls : List Ls} {s : Int} (h : Rises ls) : Rises (less ls s) := h.filter _
theorem less_mem {ls : List Ls} {s : Int} {m : Ls} (h : m ∈ less ls s) : m ∈ ls ∧ m.s ≠ s := by
  have := List.mem_filter.1 h
  exact ⟨this.1, by simpa using this.2⟩
theorem less_len (ls : List Ls) (s : Int) : (less ls s).length ≤ ls.length := List.length_filter_le _ _
theorem less_take {ls : List Ls} {s : Int} {k : Nat} {l : Ls} (hl : ls[k]? = some l) : less (ls.take (k + 1)) s = if l.s = s then less (ls.take k) s else less (ls.take k) s ++ [l] := by
  unfold less
  rw [List.take_add_one, hl, List.filter_append]
  split
  · rename_i h; simp [h]
  · rename_i h; simp [h]
theorem less_at {ls : List Ls} {s : Int} {i : Nat} (hi : i ≤ (less ls s).length) (h : ∀ (j : Nat) (m : Ls), j < i → (less ls s)[j]? = some m → ¬ s < m.s) (hx : ∀ m, (less ls s)[i]? = some m → s < m.s) : At (less ls s) s i :=
  ⟨hi, fun j m hj hm => by
    have h1 := h j m hj hm
    have h2 := (less_mem (List.mem_of_getElem? hm)).2
    omega, fun m hm => by have := hx m hm; omega⟩
theorem put_less {ls : List Ls} {l : Ls} {i : Nat} (hr : Rises ls) (h : At (less ls l.s) l.s i) : put ls l = (less ls l.s).take i ++ l :: (less ls l.s).drop i := by
  rw [← h.put_none (l := l) (less_rises hr) (fun m hm => (less_mem (List.mem_of_getElem? hm)).2)]
  unfold put less
  rw [List.filter_filter, List.filter_filter]
  congr 1
  · refine List.filter_congr fun m _ => ?_
    by_cases h1 : m.s < l.s
    · simp [h1]; omega
    · simp [h1]
  · congr 1
    refine List.filter_congr fun m _ => ?_
    by_cases h1 : l.s < m.s
    · simp [h1]; omega
    · simp [h1]
end Tb
end Go.Proofs.Ytcmjpjhaaookfaa
