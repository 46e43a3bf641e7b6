/- PairKit SameRows -/
import Derived.Test.YtmekamgohonffaaBF02
import Derived.Test.YtmekamgohonffaaBF03
import Derived.Test.YtmekamgohonffaaBF04
import Derived.BigQuiet
import Derived.Deep.DeepCutAuto
import Derived.Deep.DrawnRows
import Derived.Deep.QuietTactic
import Derived.Deep.RegionHeld3
import Derived.Deep.RegionWith
import Derived.WalkSmall
namespace Go.Proofs.Ytmekamgohonffaa
open Go.RowKit
set_option linter.unusedVariables false
abbrev Pr := List Nat × List Nat
/-- pairs as rows, one behind the other -/
def flat (ps : List Pr) : List (List Nat) := ps.flatMap fun p => [p.1, p.2]
theorem flat_cons (p : Pr) (ps : List Pr) : flat (p :: ps) = p.1 :: p.2 :: flat ps := rfl
theorem flat_append (ps qs : List Pr) : flat (ps ++ qs) = flat ps ++ flat qs := by simp [flat]
theorem flat_length (ps : List Pr) : (flat ps).length = ps.length * 2 := by
  induction ps with
  | nil => rfl
  | cons p ps ih => rw [flat_cons]; simp [ih]; omega
theorem flat_key (ps : List Pr) (i : Nat) : (flat ps)[i * 2]? = ps[i]?.map (·.1) := by
  induction ps generalizing i with
  | nil => simp [flat]
  | cons p ps ih =>
    cases i with
    | zero => rfl
    | succ i => rw [flat_cons, show (i + 1) * 2 = i * 2 + 1 + 1 by omega]; simp [ih]
theorem flat_val (ps : List Pr) (i : Nat) : (flat ps)[i * 2 + 1]? = ps[i]?.map (·.2) := by
  induction ps generalizing i with
  | nil => simp [flat]
  | cons p ps ih =>
    cases i with
    | zero => rfl
    | succ i => rw [flat_cons, show (i + 1) * 2 + 1 = (i * 2 + 1) + 1 + 1 by omega]; simp [ih]
/-- a row of pairs -/
def RdP (w : World) (B : Nat) (A : Option Addr) (n : Nat) (ps : List Pr) : Prop := ∃ vs, Rd w B A (n * 2) vs ∧ Cells w B vs (flat ps)
section
variable {w w' : World} {B B' n : Nat} {A : Option Addr} {ps : List Pr}
theorem RdP.below (h : RdP w B A n ps) (hb : Below B w w') : RdP w' B A n ps := by obtain ⟨vs, h1, h2⟩ := h; exact ⟨vs, h1.below hb, h2.below hb⟩
theorem RdP.fit (h : RdP w B A n ps) : RdP w w.heap.size A n ps := by obtain ⟨vs, h1, h2⟩ := h; exact ⟨vs, h1.fit, h2.fit⟩
theorem RdP.length (h : RdP w B A n ps) : ps.length = n := by
  obtain ⟨vs, h1, h2⟩ := h
  have := h2.len
  rw [h1.1, flat_length] at this
  omega
/-- one pair of it -/
theorem RdP.at {k : Nat} (h : RdP w B A n ps) (hk : k < n) : ∃ b o p A1 c1 A2 c2, A = some ⟨b, o, none⟩ ∧ ps[k]? = some p ∧ w.cell? ⟨b, o + k * 2, none⟩ = some (.slice A1 p.1.length c1) ∧ w.cell? ⟨b, o + k * 2 + 1, none⟩ = some (.slice A2 p.2.length c2) ∧
    Rd w B A1 p.1.length (bv p.1) ∧ Rd w B A2 p.2.length (bv p.2) := by
  have hlen := h.length
  obtain ⟨vs, h1, h2⟩ := h
  obtain ⟨b, o, e, _, hc⟩ := h1.2 (by omega)
  obtain ⟨p, hp⟩ : ∃ p, ps[k]? = some p := ⟨_, List.getElem?_eq_getElem (by omega)⟩
  obtain ⟨A1, c1, e1, r1⟩ := h2.cell (k * 2) p.1 (by rw [flat_key, hp]; rfl)
  obtain ⟨A2, c2, e2, r2⟩ := h2.cell (k * 2 + 1) p.2 (by rw [flat_val, hp]; rfl)
  exact ⟨b, o, p, A1, c1, A2, c2, e, hp, by rw [hc _ (by omega), e1], by rw [Nat.add_assoc, hc _ (by omega), e2], r1, r2⟩
end
theorem cellP : CellS Try.prog 30 68 (.agg #[.slice none 0 0, .slice none 0 0]) 2 48 := ⟨Try.underlying30, by kernel_rfl, rfl, by omega⟩
/-- a row of the call's own, whose rows are the call's own, too -/
def OwnP (W w : World) (A : Option Addr) (n c : Nat) (ps : List Pr) : Prop :=
  ∃ vs, w.ownsRow W.heap.size 68 2 (.slice A n c) n vs ∧ Owns W w vs (flat ps)
theorem OwnP.rd {W w : World} {A : Option Addr} {n c : Nat} {ps : List Pr} (h : OwnP W w A n c ps) : RdP w w.heap.size A n ps := by
  obtain ⟨vs, h1, h2⟩ := h
  exact ⟨vs, Rd.ownS h1 (by omega), h2.cells⟩
theorem OwnP.below {W w w' : World} {A : Option Addr} {n c : Nat} {ps : List Pr} (h : OwnP W w A n c ps) (hb : Below w.heap.size w w') : OwnP W w' A n c ps := by
  obtain ⟨vs, h1, h2⟩ := h
  exact ⟨vs, ownsRow_below h1 hb, h2.below hb⟩
theorem OwnP.length {W w : World} {A : Option Addr} {n c : Nat} {ps : List Pr} (h : OwnP W w A n c ps) : ps.length = n := h.rd.length
theorem OwnP.nil (W w : World) : OwnP W w none 0 0 [] := ⟨[], ⟨rfl, .inl ⟨rfl, rfl⟩⟩, Owns.nil _ _⟩
theorem OwnP.cap {W w : World} {A : Option Addr} {n c : Nat} {ps : List Pr} (h : OwnP W w A n c ps) : n ≤ c := by
  obtain ⟨vs, h1, _⟩ := h
  exact (own_cap h1).1
theorem OwnP.set_t {W w : World} {A : Option Addr} {n c b i : Nat} {t : TypeId} {u : Value} {cs : Array Value} {ps : List Pr} (h : OwnP W w A n c ps) (hb : Blk w b t cs) (h1 : 5 ≠ t) (h2 : 68 ≠ t) : OwnP W (w.setCell ⟨b, i, none⟩ u) A n c ps := by
  obtain ⟨vs, g1, g2⟩ := h
  exact ⟨vs, own_set_t g1 hb h2, g2.set_t hb h1⟩
theorem more_ {W w w' : World} (hs : W.heap.size ≤ w.heap.size) {e : TypeId} {size n : Nat} {v : Value} {xs : List Value} (h : w'.ownsRow w.heap.size e size v n xs) : w'.ownsRow W.heap.size e size v n xs := by
  obtain ⟨h1, h2⟩ := h
  refine ⟨h1, ?_⟩
  rcases h2 with h2 | ⟨g, cap, cur, hv, hg, r⟩
  · exact .inl h2
  · exact .inr ⟨g, cap, cur, hv, Nat.le_trans hs hg, r⟩
theorem Owns.of {W w w' : World} (hs : W.heap.size ≤ w.heap.size) {vs : List Value} {qs : List (List Nat)} (h : Owns w w' vs qs) : Owns W w' vs qs :=
  ⟨h.len, fun i l hl => by obtain ⟨A', c', e, ho⟩ := h.cell i l hl; exact ⟨A', c', e, more_ hs ho⟩⟩
theorem OwnP.of {W w w' : World} {A : Option Addr} {n c : Nat} {ps : List Pr} (hs : W.heap.size ≤ w.heap.size) (h : OwnP w w' A n c ps) : OwnP W w' A n c ps := by
  obtain ⟨vs, h1, h2⟩ := h
  exact ⟨vs, more_ hs h1, h2.of hs⟩
def BytesP (ps : List Pr) : Prop := ∀ p ∈ ps, (∀ x ∈ p.1, x < 256) ∧ ∀ x ∈ p.2, x < 256
theorem Owns.two {W w : World} {vs : List Value} {qs : List (List Nat)} {A1 A2 : Option Addr} {c1 c2 : Nat} {k v : List Nat} (h : Owns W w vs qs) (h1 : OwnB W w A1 k.length c1 k) (h2 : OwnB W w A2 v.length c2 v) : Owns W w (vs ++ [.slice A1 k.length c1, .slice A2 v.length c2]) (qs ++ [k, v]) := by
  have := (h.snoc (c := c1) h1).snoc (c := c2) h2
  simpa using this
theorem Rd.twoAt (w : World) (u v : Value) (t : TypeId) {g : Nat} (hg : w.heap.size = g) : Rd (w.alloc (.cells #[u, v] t)) (g + 1) (some ⟨g, 0, none⟩) (1 * 2) [u, v] := by
  subst hg; exact Rd.made w #[u, v] t (0, 0) 2 rfl
theorem Owns.grownP {W w w' : World} {base' size' n' c' : Nat} {A' : Option Addr} {vs xs' : List Value} {qs : List (List Nat)} (h : Owns W w vs qs) (ho : w.ownsRow base' 68 size' (.slice A' n' c') n' xs') (hg : w.grownBy w' (Value.slice A' n' c').ownBlock) : Owns W w' vs qs :=
  ⟨h.len, fun i l hl => by obtain ⟨A, c, e, hq⟩ := h.cell i l hl; exact ⟨A, c, e, own_grown_t hq ho (by decide) hg⟩⟩
end Go.Proofs.Ytmekamgohonffaa

namespace Go.Proofs.Ytmekamgohonffaa
open Go.RowKit
set_option linter.unusedVariables false
set_option maxRecDepth 100000 in
set_option maxHeartbeats 1000000 in
theorem sameRows_any (w : World) {A A' : Option Addr} {n c n' c' B B' : Nat} {qs qs' : List (List Nat)} (hb : BytesL qs) (hb' : BytesL qs') (h : RdQ w B A n qs) (h' : RdQ w B' A' n' qs') (hn : n ≤ maxLen) (hn' : n' ≤ maxLen) :
    Calls Try.prog 71 #[.slice A n c, .slice A' n' c'] w fun e w' => e = .returned (.bool (decide (qs = qs'))) ∧ ∃ k, w' = w.drewN k := by
  have hl : qs.length = n := h.length
  have hl' : qs'.length = n' := h'.length
  unfold maxLen at hn hn'
  by_cases hne : n = n'
  · subst hne
    have HN : Hid (n ≤ 9223372036854775807) := Lib.hid (by omega)
    have HL := Lib.hid hl
    have HL' := Lib.hid hl'
    have H := Lib.hid h
    have H' := Lib.hid h'
    have HBY := Lib.hid hb
    have HBY' := Lib.hid hb'
    clear h h' hl hl' hn hn' hb hb'
    go_enter Try.func71, Try.ntmps71
    go_wp2
    go_loopw [5] (fun i wr => ∃ k : Nat, k ≤ n ∧ i = .int .i64 k ∧ (∀ j, j < k → qs[j]? = qs'[j]?) ∧ ∃ m, wr = w.drewN m) (fun i _ => n - (intOf i).toNat)
    case atStart => exact ⟨0, Nat.zero_le _, rfl, fun j hj => absurd hj (by omega), 0, rfl⟩
    case round =>
      obtain ⟨k, hk, rfl, hs, m, hm⟩ := hrel
      have hkm : (k : Int) ≤ 9223372036854775806 ∨ k = n := by have := HN.out; omega
      by_cases hlt : k < n
      · have hW : Below w.heap.size w wr := by rw [hm]; exact (Below.refl w.heap.size w).trans ⟨rfl, rfl, rfl, Nat.le_refl _, fun _ _ => rfl⟩
        obtain ⟨b, o, l, A1, c1, rfl, hz, hc, hr1⟩ := (H.out.fit.below hW).at hlt
        obtain ⟨b', o', l', A2, c2, rfl, hz', hc', hr2⟩ := (H'.out.fit.below hW).at hlt
        have q1 := fun i => str_of (c := c1) (hr1.drewN i)
        have q2 := fun i => str_of (c := c2) (hr2.drewN i)
        have q3 := strL_eq (HBY.out l (List.mem_of_getElem? hz)) (HBY'.out l' (List.mem_of_getElem? hz'))
        have hv : IntKind.i64.wrap ((k : Int) + 1) = (k : Int) + 1 := IntWalk.i64_in _ (by have := HN.out; omega)
        have HS := Lib.hid hs
        have HZ := Lib.hid hz
        have HZ' := Lib.hid hz'
        have HM := Lib.hid hm
        clear hs hz hz' hm hkm hr1 hr2 hW
        by_cases he : l = l'
        · subst he
          rw [decide_eq_true rfl] at q3
          go_wp2
          go_quiet (fail)
          go_wp2
          go_roundw
          case rel =>
            refine ⟨k + 1, by omega, by go_num, fun j hj => ?_, m + nq, by rw [HM.out, World.drewN_drewN]⟩
            rcases Nat.lt_or_ge j k with h1 | h1
            · exact HS.out j h1
            · obtain rfl : j = k := by omega
              rw [HZ.out, HZ'.out]
          case measure => simp [intOf]; omega
        · rw [decide_eq_false he] at q3
          have HE := Lib.hid (show decide (qs = qs') = false by
            rw [decide_eq_false_iff_not]
            rintro rfl
            have h1 := HZ.out
            rw [HZ'.out] at h1
            injection h1 with h1
            exact he h1.symm)
          clear he
          go_wp2
          go_quiet (fail)
          go_wp2
          go_ret
          exact ⟨ret_bool HE.out.symm, m + nq, by rw [HM.out, World.drewN_drewN]⟩
      · have hkn : k = n := by omega
        have HE := Lib.hid (show decide (qs = qs') = true by
          rw [decide_eq_true_iff]
          apply List.ext_getElem?
          intro j
          rcases Nat.lt_or_ge j n with h1 | h1
          · exact hs j (by omega)
          · rw [List.getElem?_eq_none (by have := HL.out; omega), List.getElem?_eq_none (by have := HL'.out; omega)])
        have HM := Lib.hid hm
        clear hs hkn hm hkm
        go_wp2
        go_ret
        exact ⟨ret_bool HE.out.symm, m, HM.out⟩
  · have HE := Lib.hid (show decide (qs = qs') = false by
      rw [decide_eq_false_iff_not]; rintro rfl; omega)
    have hd : ((n : Int) == (n' : Int)) = false := by simp; omega
    have hd2 : ((n : Int) != (n' : Int)) = true := by simp; omega
    clear h h' hl hl' hn hn' hne
    go_enter Try.func71, Try.ntmps71
    go_wp2
    go_ret
    exact ⟨ret_bool HE.out.symm, 0, rfl⟩
theorem sameRows_below (w : World) {A A' : Option Addr} {n c n' c' B B' : Nat} {qs qs' : List (List Nat)} (hb : BytesL qs) (hb' : BytesL qs') (h : RdQ w B A n qs) (h' : RdQ w B' A' n' qs') (hn : n ≤ maxLen) (hn' : n' ≤ maxLen) :
    Calls Try.prog 71 #[.slice A n c, .slice A' n' c'] w fun e w' => e = .returned (.bool (decide (qs = qs'))) ∧ Below w.heap.size w w' :=
  (sameRows_any w hb hb' h h' hn hn').mono fun e w' h => ⟨h.1, by obtain ⟨k, hk⟩ := h.2; rw [hk]; exact ⟨rfl, rfl, rfl, Nat.le_refl _, fun _ _ => rfl⟩⟩
end Go.Proofs.Ytmekamgohonffaa

