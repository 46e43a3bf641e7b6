/- BookEs -/
import Derived.Test.YtaknfmionkkdjaaGreatFO27
import Derived.Test.YtaknfmionkkdjaaGreatFO51
namespace Go.Proofs.YtaknfmionkkdjaaGreat
open Go.RowKit
set_option linter.unusedVariables false
namespace Bk
/-- entries of numbers -/
def eo (zs : List Int) (n : Nat) : List En := (List.range n).map (fun (q : Nat) => entOf (zs.getD q 0) q)
theorem eo_length (zs : List Int) (n : Nat) : (eo zs n).length = n := by simp [eo]
theorem eo_succ (zs : List Int) (n : Nat) : eo zs (n + 1) = eo zs n ++ [entOf (zs.getD n 0) n] := by simp [eo, List.range_succ]
theorem eo_at (zs : List Int) {n j : Nat} (h : j < n) : (eo zs n)[j]? = some (entOf (zs.getD j 0) j) := by simp [eo, h]
/-- a book of which c entries were applied, those of the numbers -/
structure OneI (zs : List Int) (n : Nat) (k : Bk) (c : Nat) : Prop where
  pos : k.pos = (c : Int)
  le : c ≤ n
  f : ∀ i e, k.f i = some e → 1 ≤ i ∧ i ≤ (n : Int) ∧ e = entOf (zs.getD (i - 1).toNat 0) (i - 1).toNat
  m : k.m = (playL ((eo zs n).take c) 0 Mc.zero).1
theorem OneI.new (zs : List Int) (n : Nat) : OneI zs n Bk.new 0 := ⟨rfl, Nat.zero_le _, (fun i e h => by cases h), rfl⟩
theorem OneI.wh {zs : List Int} {n : Nat} {k : Bk} {c : Nat} (h : OneI zs n k c) (hk : k.Ok) : k.wh ≤ (n : Int) := by
  by_cases h1 : k.pos < k.wh
  · obtain ⟨e, he⟩ := Option.isSome_iff_exists.1 (hk.w.all k.wh h1 (Int.le_refl _))
    exact (h.f _ _ he).2.1
  · have := h.pos; have := h.le; omega
theorem OneI.add {zs : List Int} {n : Nat} {k : Bk} {c j : Nat} (h : OneI zs n k c) (hj : j < n) : OneI zs n (k.add ((j : Int) + 1) (entOf (zs.getD j 0) j)) c := by
  unfold Bk.add
  split
  · refine ⟨h.pos, h.le, fun i e he => ?_, h.m⟩
    have he' : Bk.upd k.f ((j : Int) + 1) (entOf (zs.getD j 0) j) i = some e := he
    unfold Bk.upd at he'
    by_cases hi : i = (j : Int) + 1
    · rw [if_pos hi] at he'
      injection he' with he'
      subst hi
      refine ⟨by omega, by omega, ?_⟩
      rw [← he', show ((j : Int) + 1 - 1).toNat = j by omega]
    · rw [if_neg hi] at he'
      exact h.f i e he'
  · exact h
theorem OneI.rest {zs : List Int} {n : Nat} {k : Bk} {c : Nat} (h : OneI zs n k c) (hk : k.Ok) (q : Nat) (hq : k.pos + q ≤ k.wh) : Bk.rest k.f q k.pos = ((eo zs n).drop c).take q := by
  apply List.ext_getElem?
  intro j
  by_cases hj : j < q
  · rw [Bk.rest_at k.f _ _ _ hj, List.getElem?_take_of_lt hj, List.getElem?_drop]
    have hs := hk.w.all (k.pos + 1 + j) (by omega) (by omega)
    obtain ⟨e, he⟩ := Option.isSome_iff_exists.1 hs
    obtain ⟨h1, h2, h3⟩ := h.f _ _ he
    have hp := h.pos
    rw [he, eo_at zs (by omega : c + j < n), h3, show (k.pos + 1 + (j : Int) - 1).toNat = c + j by omega]
    rfl
  · rw [List.getElem?_eq_none (by rw [Bk.rest_len]; omega), List.getElem?_eq_none (by rw [List.length_take]; omega)]
theorem OneI.apply {zs : List Int} {n : Nat} {k : Bk} {c : Nat} (h : OneI zs n k c) (hk : k.Ok) (t : Int) :
    OneI zs n (k.apply t) (c + k.cnt t) ∧ (playL ((eo zs n).take (c + k.cnt t)) 0 Mc.zero).2 = (playL ((eo zs n).take c) 0 Mc.zero).2 ++ k.dones t := by
  have hc : k.pos + (k.cnt t : Int) ≤ k.wh := by
    have := hk.w.le
    unfold Bk.cnt Bk.top
    omega
  have hr := h.rest hk (k.cnt t) hc
  have hw := h.wh hk
  have hp := h.pos
  have hl : ((eo zs n).take c).length = c := by rw [List.length_take, eo_length]; have := h.le; omega
  have hta : (eo zs n).take (c + k.cnt t) = (eo zs n).take c ++ ((eo zs n).drop c).take (k.cnt t) := by rw [List.take_add]
  have hpl := playL_append ((eo zs n).take c) (((eo zs n).drop c).take (k.cnt t)) 0 Mc.zero
  rw [hl, ← hr, ← h.m, show (0 : Int) + (c : Int) = k.pos by omega, ← Bk.play_L] at hpl
  rw [hr] at hpl
  rw [← hta] at hpl
  refine ⟨⟨?_, ?_, fun i e he => ?_, ?_⟩, ?_⟩
  · show k.pos + (k.cnt t : Int) = _; omega
  · omega
  · have he' : Bk.cut k.f (k.pos + (k.cnt t : Int)) i = some e := he
    unfold Bk.cut at he'
    split at he'
    · cases he'
    · exact h.f i e he'
  · rw [hpl]; rfl
  · rw [hpl]; rfl
end Bk
end Go.Proofs.YtaknfmionkkdjaaGreat

