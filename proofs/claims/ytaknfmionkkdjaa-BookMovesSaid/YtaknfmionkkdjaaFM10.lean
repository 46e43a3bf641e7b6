/- MapsRef3 MapsRef4 MapsC0 -/
import Derived.Test.YtaknfmionkkdjaaFM02
import Derived.Test.YtaknfmionkkdjaaFM07
import Derived.Test.YtaknfmionkkdjaaFM08
import Derived.Test.YtaknfmionkkdjaaFM09
import Derived.Deep.CutBlock
import Derived.Deep.DeepCutAuto
import Derived.Laws.DeepStrings4
namespace Go.Proofs.Ytaknfmionkkdjaa
open Go.RowKit
set_option linter.unusedVariables false
theorem Owns.take {W w : World} {vs : List Value} {qs : List (List Nat)} (h : Owns W w vs qs) (k : Nat) : Owns W w (vs.take k) (qs.take k) :=
  ⟨by simp [h.len], fun i l hl => by
    have hi : i < k := by
      rcases Nat.lt_or_ge i k with h' | h'
      · exact h'
      · rw [List.getElem?_eq_none (by simp; omega)] at hl; cases hl
    rw [List.getElem?_take_of_lt hi] at hl ⊢
    exact h.cell i l hl⟩
theorem Owns.drop {W w : World} {vs : List Value} {qs : List (List Nat)} (h : Owns W w vs qs) (k : Nat) : Owns W w (vs.drop k) (qs.drop k) :=
  ⟨by simp [h.len], fun i l hl => by rw [List.getElem?_drop] at hl ⊢; exact h.cell _ l hl⟩
theorem Owns.append {W w : World} {vs vs' : List Value} {qs qs' : List (List Nat)} (h : Owns W w vs qs) (h' : Owns W w vs' qs') : Owns W w (vs ++ vs') (qs ++ qs') :=
  ⟨by simp [h.len, h'.len], fun i l hl => by
    rcases Nat.lt_or_ge i qs.length with hi | hi
    · rw [List.getElem?_append_left hi] at hl
      rw [List.getElem?_append_left (by rw [h.len]; exact hi)]
      exact h.cell i l hl
    · rw [List.getElem?_append_right hi] at hl
      rw [List.getElem?_append_right (by rw [h.len]; exact hi), h.len]
      exact h'.cell _ l hl⟩
theorem own_drew {w : World} {base n size : Nat} {e : TypeId} {v : Value} {vs : List Value} (h : w.ownsRow base e size v n vs) : w.drew.ownsRow base e size v n vs := h
end Go.Proofs.Ytaknfmionkkdjaa

namespace Go.Proofs.Ytaknfmionkkdjaa
open Go.RowKit
set_option linter.unusedVariables false
theorem Owns.set {W w : World} {vs : List Value} {qs : List (List Nat)} {A : Option Addr} {c : Nat} {l : List Nat} (h : Owns W w vs qs) (ho : OwnB W w A l.length c l) (i : Nat) : Owns W w (vs.set i (.slice A l.length c)) (qs.set i l) :=
  ⟨by simp [h.len], fun j l' hl => by
    by_cases hij : i = j
    · subst hij
      have hlt : i < qs.length := by
        rcases Nat.lt_or_ge i qs.length with h' | h'
        · exact h'
        · rw [List.getElem?_eq_none (by simpa using h')] at hl; cases hl
      rw [List.getElem?_set_self hlt] at hl
      injection hl with hl
      subst hl
      exact ⟨A, c, by rw [List.getElem?_set_self (by rw [h.len]; exact hlt)], ho⟩
    · rw [List.getElem?_set_ne hij] at hl ⊢
      exact h.cell j l' hl⟩
theorem flat_insert (ps : List Pr) (i : Nat) (k v : List Nat) : flat (ps.take i ++ (k, v) :: ps.drop i) = (flat ps).take (i * 2) ++ [k, v] ++ (flat ps).drop (i * 2) := by
  rw [flat_append, flat_cons, flat_take, flat_drop]; simp
end Go.Proofs.Ytaknfmionkkdjaa

namespace Go.Proofs.Ytaknfmionkkdjaa
open Go.RowKit
set_option linter.unusedVariables false
def PutC7 : Prop := ∀ {W w : World} {ps : List Pr} {k v : List Nat} {A A' A'' : Option Addr} {n c n' c' n'' c'' B B' B'' : Nat}, n ≤ c → Mp.Inv ps → (∀ x ∈ k, x < 256) → (∀ x ∈ v, x < 256) → n' ≤ 100000 → n'' ≤ 100000 →
    RdP w B A n ps → Rd w B' A' n' (bv k) → Rd w B'' A'' n'' (bv v) → Below W.heap.size W w →
    Calls Try.prog 72 #[.slice A n c, .slice A' n' c', .slice A'' n'' c''] w (GotPR W w (Mp.putS ps k v) (Mp.putE ps k v) (Mp.putV ps k v) (Mp.putN ps k v))
def GetC7 : Prop := ∀ {W w : World} {ps : List Pr} {k : List Nat} {A A' : Option Addr} {n c n' c' B B' : Nat}, n ≤ c → Mp.Inv ps → (∀ x ∈ k, x < 256) → n' ≤ 100000 →
    RdP w B A n ps → Rd w B' A' n' (bv k) → Below W.heap.size W w →
    Calls Try.prog 73 #[.slice A n c, .slice A' n' c'] w (GotR W w (Mp.getE ps k) (Mp.getV ps k) 0)
def DelC7 : Prop := ∀ {W w : World} {ps : List Pr} {k : List Nat} {A A' : Option Addr} {n c n' c' B B' : Nat}, n ≤ c → Mp.Inv ps → (∀ x ∈ k, x < 256) → n' ≤ 100000 →
    RdP w B A n ps → Rd w B' A' n' (bv k) → Below W.heap.size W w →
    Calls Try.prog 74 #[.slice A n c, .slice A' n' c'] w (GotPR W w (Mp.delS ps k) (Mp.getE ps k) (Mp.getV ps k) 0)
theorem inv_lim {ps : List Pr} (h : Mp.Inv ps) : LimP ps := fun p hp => by
  have := h.len p hp
  unfold Lim
  exact ⟨by omega, by omega⟩
theorem sb_len (s : ByteArray) : (sb s).length = s.size := by unfold sb; rw [List.length_map, Array.length_toList]; rfl
end Go.Proofs.Ytaknfmionkkdjaa

