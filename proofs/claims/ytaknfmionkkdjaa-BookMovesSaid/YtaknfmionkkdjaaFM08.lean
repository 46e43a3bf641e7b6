/- PairKit MapsRef MapsRef2 -/
import Derived.Test.YtaknfmionkkdjaaFM02
import Derived.Test.YtaknfmionkkdjaaFM04
import Derived.Test.YtaknfmionkkdjaaFM05
import Derived.Test.YtaknfmionkkdjaaFM07
import Derived.BigQuiet
import Derived.Deep.DeepCutAuto
import Derived.Deep.DrawnRows
import Derived.Deep.QuietTactic
import Derived.Deep.RegionHeld3
import Derived.Deep.RegionWith
import Derived.Deep.RegionLaw
namespace Go.Proofs.Ytaknfmionkkdjaa
open Go.RowKit
set_option linter.unusedVariables false
abbrev Pr := List Nat × List Nat
/-- pairs as rows, one behind the other -/
def flat (ps : List Pr) : List (List Nat) := ps.flatMap fun p => [p.1, p.2]
theorem flat_cons (p : Pr) (ps : List Pr) : flat (p :: ps) = p.1 :: p.2 :: flat ps := rfl
theorem flat_append (ps qs : List Pr) : flat (ps ++ qs) = flat ps ++ flat qs := by simp [flat]
theorem flat_length (ps : List Pr) : (flat ps).length = ps.length * 2 := by
  induction ps with
  | nil => rfl
  | cons p ps ih => rw [flat_cons]; simp [ih]; omega
theorem flat_key (ps : List Pr) (i : Nat) : (flat ps)[i * 2]? = ps[i]?.map (·.1) := by
  induction ps generalizing i with
  | nil => simp [flat]
  | cons p ps ih =>
    cases i with
    | zero => rfl
    | succ i => rw [flat_cons, show (i + 1) * 2 = i * 2 + 1 + 1 by omega]; simp [ih]
theorem flat_val (ps : List Pr) (i : Nat) : (flat ps)[i * 2 + 1]? = ps[i]?.map (·.2) := by
  induction ps generalizing i with
  | nil => simp [flat]
  | cons p ps ih =>
    cases i with
    | zero => rfl
    | succ i => rw [flat_cons, show (i + 1) * 2 + 1 = (i * 2 + 1) + 1 + 1 by omega]; simp [ih]
theorem flat_take (ps : List Pr) (k : Nat) : flat (ps.take k) = (flat ps).take (k * 2) := by
  induction ps generalizing k with
  | nil => simp [flat]
  | cons p ps ih =>
    cases k with
    | zero => simp [flat]
    | succ k => rw [List.take_succ_cons, flat_cons, flat_cons, ih, show (k + 1) * 2 = k * 2 + 1 + 1 by omega]; simp
theorem flat_drop (ps : List Pr) (k : Nat) : flat (ps.drop k) = (flat ps).drop (k * 2) := by
  induction ps generalizing k with
  | nil => simp [flat]
  | cons p ps ih =>
    cases k with
    | zero => simp
    | succ k => rw [List.drop_succ_cons, flat_cons, ih, show (k + 1) * 2 = k * 2 + 1 + 1 by omega]; simp
/-- a row of pairs -/
def RdP (w : World) (B : Nat) (A : Option Addr) (n : Nat) (ps : List Pr) : Prop := ∃ vs, Rd w B A (n * 2) vs ∧ Cells w B vs (flat ps)
section
variable {w w' : World} {B B' n : Nat} {A : Option Addr} {ps : List Pr}
theorem RdP.below (h : RdP w B A n ps) (hb : Below B w w') : RdP w' B A n ps := by obtain ⟨vs, h1, h2⟩ := h; exact ⟨vs, h1.below hb, h2.below hb⟩
theorem RdP.fit (h : RdP w B A n ps) : RdP w w.heap.size A n ps := by obtain ⟨vs, h1, h2⟩ := h; exact ⟨vs, h1.fit, h2.fit⟩
theorem RdP.length (h : RdP w B A n ps) : ps.length = n := by
  obtain ⟨vs, h1, h2⟩ := h
  have := h2.len
  rw [h1.1, flat_length] at this
  omega
theorem RdP.nil (w : World) (B : Nat) (A : Option Addr) : RdP w B A 0 [] := ⟨[], Rd.none_ _ _ _, Cells.nil _ _⟩
/-- one pair of it -/
theorem RdP.at {k : Nat} (h : RdP w B A n ps) (hk : k < n) : ∃ b o p A1 c1 A2 c2, A = some ⟨b, o, none⟩ ∧ ps[k]? = some p ∧ w.cell? ⟨b, o + k * 2, none⟩ = some (.slice A1 p.1.length c1) ∧ w.cell? ⟨b, o + k * 2 + 1, none⟩ = some (.slice A2 p.2.length c2) ∧
    Rd w B A1 p.1.length (bv p.1) ∧ Rd w B A2 p.2.length (bv p.2) := by
  have hlen := h.length
  obtain ⟨vs, h1, h2⟩ := h
  obtain ⟨b, o, e, _, hc⟩ := h1.2 (by omega)
  obtain ⟨p, hp⟩ : ∃ p, ps[k]? = some p := ⟨_, List.getElem?_eq_getElem (by omega)⟩
  obtain ⟨A1, c1, e1, r1⟩ := h2.cell (k * 2) p.1 (by rw [flat_key, hp]; rfl)
  obtain ⟨A2, c2, e2, r2⟩ := h2.cell (k * 2 + 1) p.2 (by rw [flat_val, hp]; rfl)
  exact ⟨b, o, p, A1, c1, A2, c2, e, hp, by rw [hc _ (by omega), e1], by rw [Nat.add_assoc, hc _ (by omega), e2], r1, r2⟩
end
theorem cellP : CellS Try.prog 35 109 (.agg #[.slice none 0 0, .slice none 0 0]) 2 48 := ⟨Try.underlying35, by kernel_rfl, rfl, by omega⟩
/-- a row of the call's own, whose rows are the call's own, too -/
def OwnP (W w : World) (A : Option Addr) (n c : Nat) (ps : List Pr) : Prop :=
  ∃ vs, w.ownsRow W.heap.size 109 2 (.slice A n c) n vs ∧ Owns W w vs (flat ps)
theorem OwnP.rd {W w : World} {A : Option Addr} {n c : Nat} {ps : List Pr} (h : OwnP W w A n c ps) : RdP w w.heap.size A n ps := by
  obtain ⟨vs, h1, h2⟩ := h
  exact ⟨vs, Rd.ownS h1 (by omega), h2.cells⟩
theorem OwnP.below {W w w' : World} {A : Option Addr} {n c : Nat} {ps : List Pr} (h : OwnP W w A n c ps) (hb : Below w.heap.size w w') : OwnP W w' A n c ps := by
  obtain ⟨vs, h1, h2⟩ := h
  exact ⟨vs, ownsRow_below h1 hb, h2.below hb⟩
theorem OwnP.length {W w : World} {A : Option Addr} {n c : Nat} {ps : List Pr} (h : OwnP W w A n c ps) : ps.length = n := h.rd.length
theorem OwnP.cap {W w : World} {A : Option Addr} {n c : Nat} {ps : List Pr} (h : OwnP W w A n c ps) : n ≤ c := by
  obtain ⟨vs, h1, _⟩ := h
  exact (own_cap h1).1
theorem OwnP.set_t {W w : World} {A : Option Addr} {n c b i : Nat} {t : TypeId} {u : Value} {cs : Array Value} {ps : List Pr} (h : OwnP W w A n c ps) (hb : Blk w b t cs) (h1 : 5 ≠ t) (h2 : 109 ≠ t) : OwnP W (w.setCell ⟨b, i, none⟩ u) A n c ps := by
  obtain ⟨vs, g1, g2⟩ := h
  exact ⟨vs, own_set_t g1 hb h2, g2.set_t hb h1⟩
theorem OwnP.put3 {W w : World} {A : Option Addr} {n c b : Nat} {t : TypeId} {x0 y0 z0 : Value} {ps : List Pr} (h : OwnP W w A n c ps) (hb : Blk w b t #[x0, y0, z0]) (h1 : 5 ≠ t) (h2 : 109 ≠ t) (x y z : Value) :
    OwnP W (((w.setCell ⟨b, 0, none⟩ x).setCell ⟨b, 1, none⟩ y).setCell ⟨b, 2, none⟩ z) A n c ps :=
  ((h.set_t hb h1 h2).set_t (hb.set_ 0 x) h1 h2).set_t ((hb.set_ 0 x).set_ 1 y) h1 h2
theorem more_ {W w w' : World} (hs : W.heap.size ≤ w.heap.size) {e : TypeId} {size n : Nat} {v : Value} {xs : List Value} (h : w'.ownsRow w.heap.size e size v n xs) : w'.ownsRow W.heap.size e size v n xs := by
  obtain ⟨h1, h2⟩ := h
  refine ⟨h1, ?_⟩
  rcases h2 with h2 | ⟨g, cap, cur, hv, hg, r⟩
  · exact .inl h2
  · exact .inr ⟨g, cap, cur, hv, Nat.le_trans hs hg, r⟩
theorem Owns.of {W w w' : World} (hs : W.heap.size ≤ w.heap.size) {vs : List Value} {qs : List (List Nat)} (h : Owns w w' vs qs) : Owns W w' vs qs :=
  ⟨h.len, fun i l hl => by obtain ⟨A', c', e, ho⟩ := h.cell i l hl; exact ⟨A', c', e, more_ hs ho⟩⟩
theorem OwnP.of {W w w' : World} {A : Option Addr} {n c : Nat} {ps : List Pr} (hs : W.heap.size ≤ w.heap.size) (h : OwnP w w' A n c ps) : OwnP W w' A n c ps := by
  obtain ⟨vs, h1, h2⟩ := h
  exact ⟨vs, more_ hs h1, h2.of hs⟩
/-- pairs, in memory of W's own -/
def GotP (W w : World) (ps : List Pr) (e : Ending) (w' : World) : Prop := ∃ A c, e = .returned (.slice A ps.length c) ∧ OwnP W w' A ps.length c ps ∧ Below W.heap.size W w' ∧ Below w.heap.size w w'
theorem GotP.of {W w w' : World} {ps : List Pr} {e : Ending} (hB : Below W.heap.size W w) (h : GotP w w ps e w') : GotP W w ps e w' := by
  obtain ⟨A, c, h1, h2, h3, h4⟩ := h
  exact ⟨A, c, h1, h2.of hB.size, hB.trans (h3.mono hB.size), h4⟩
/-- pairs and a result, both W's own -/
def GotPR (W w : World) (ps : List Pr) (e : Int) (l : List Nat) (N : Int) (en : Ending) (w' : World) : Prop :=
  ∃ A c A' c', en = .returned (.tuple #[.slice A ps.length c, resV e A' l.length c' N]) ∧ OwnP W w' A ps.length c ps ∧ OwnB W w' A' l.length c' l ∧ Below W.heap.size W w' ∧ Below w.heap.size w w'
theorem GotPR.of {W w w' : World} {ps : List Pr} {e : Int} {l : List Nat} {N : Int} {en : Ending} (hB : Below W.heap.size W w) (h : GotPR w w ps e l N en w') : GotPR W w ps e l N en w' := by
  obtain ⟨A, c, A', c', h1, h2, h3, h4, h5⟩ := h
  exact ⟨A, c, A', c', h1, h2.of hB.size, more_ hB.size h3, hB.trans (h4.mono hB.size), h5⟩
/-- each row is of a length that may be -/
def LimP (ps : List Pr) : Prop := ∀ p ∈ ps, Lim 0 p.1.length ∧ Lim 0 p.2.length
def BytesP (ps : List Pr) : Prop := ∀ p ∈ ps, (∀ x ∈ p.1, x < 256) ∧ ∀ x ∈ p.2, x < 256
theorem Owns.two {W w : World} {vs : List Value} {qs : List (List Nat)} {A1 A2 : Option Addr} {c1 c2 : Nat} {k v : List Nat} (h : Owns W w vs qs) (h1 : OwnB W w A1 k.length c1 k) (h2 : OwnB W w A2 v.length c2 v) : Owns W w (vs ++ [.slice A1 k.length c1, .slice A2 v.length c2]) (qs ++ [k, v]) := by
  have := (h.snoc (c := c1) h1).snoc (c := c2) h2
  simpa using this
theorem Rd.twoAt (w : World) (u v : Value) (t : TypeId) {g : Nat} (hg : w.heap.size = g) : Rd (w.alloc (.cells #[u, v] t)) (g + 1) (some ⟨g, 0, none⟩) (1 * 2) [u, v] := by
  subst hg; exact Rd.made w #[u, v] t (0, 0) 2 rfl
theorem Owns.grownP {W w w' : World} {base' size' n' c' : Nat} {A' : Option Addr} {vs xs' : List Value} {qs : List (List Nat)} (h : Owns W w vs qs) (ho : w.ownsRow base' 109 size' (.slice A' n' c') n' xs') (hg : w.grownBy w' (Value.slice A' n' c').ownBlock) : Owns W w' vs qs :=
  ⟨h.len, fun i l hl => by obtain ⟨A, c, e, hq⟩ := h.cell i l hl; exact ⟨A, c, e, own_grown_t hq ho (by decide) hg⟩⟩
end Go.Proofs.Ytaknfmionkkdjaa

namespace Go.Proofs.Ytaknfmionkkdjaa
open Go.RowKit
set_option linter.unusedVariables false
theorem keys_at {ps : List Pr} {k : Nat} {p : Pr} (h : ps[k]? = some p) : (Mp.keys ps)[k]? = some p.1 := by unfold Mp.keys; rw [List.getElem?_map, h]; rfl
theorem keys_length (ps : List Pr) : (Mp.keys ps).length = ps.length := by simp [Mp.keys]
theorem belowN_ {B : Nat} {a w : World} (h : Below B a w) (k : Nat) : Below B a (w.drewN k) := h.trans ⟨rfl, rfl, rfl, Nat.le_refl _, fun _ _ => rfl⟩
end Go.Proofs.Ytaknfmionkkdjaa

namespace Go.Proofs.Ytaknfmionkkdjaa
open Go.RowKit
set_option linter.unusedVariables false
theorem belowN_d {w : World} (m : Nat) : Below w.heap.size w (w.drewN m) := belowN_ (Below.refl _ _) m
end Go.Proofs.Ytaknfmionkkdjaa

