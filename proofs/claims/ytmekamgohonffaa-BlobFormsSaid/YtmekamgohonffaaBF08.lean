/- LastKit SessMath -/
import Derived.Test.YtmekamgohonffaaBF02
import Derived.Test.YtmekamgohonffaaBF03
import Derived.Test.YtmekamgohonffaaBF04
import Derived.BigQuiet
import Derived.Deep.DeepCutAuto
import Derived.Deep.DrawnRows
import Derived.Deep.QuietTactic
import Derived.Deep.RegionHeld3
import Derived.Deep.RegionWith
namespace Go.Proofs.Ytmekamgohonffaa
open Go.RowKit
set_option linter.unusedVariables false
/-- a session's last call: session, number; its result -/
structure Ls where
  s : Int
  q : Int
  e : Int
  v : List Nat
  n : Int
/-- its five cells -/
def lastC (A : Option Addr) (c : Nat) (l : Ls) : List Value := [.int .i64 l.s, .int .i64 l.q, .int .i64 l.e, .slice A l.v.length c, .int .i64 l.n]
theorem lastC_length (A : Option Addr) (c : Nat) (l : Ls) : (lastC A c l).length = 5 := rfl
/-- the cells vs, five a piece, read as the calls ls; each one's bytes fulfil R -/
structure CellsL (R : Option Addr → Nat → List Nat → Prop) (vs : List Value) (ls : List Ls) : Prop where
  len : vs.length = ls.length * 5
  cell : ∀ (i : Nat) (l : Ls), ls[i]? = some l → ∃ A c, (∀ j v, (lastC A c l)[j]? = some v → vs[i * 5 + j]? = some v) ∧ R A c l.v
section
variable {R R' : Option Addr → Nat → List Nat → Prop} {vs ws : List Value} {ls ms : List Ls}
theorem CellsL.imp (h : CellsL R vs ls) (hR : ∀ A c l, R A c l → R' A c l) : CellsL R' vs ls :=
  ⟨h.len, fun i l hl => by obtain ⟨A, c, e, hr⟩ := h.cell i l hl; exact ⟨A, c, e, hR _ _ _ hr⟩⟩
theorem CellsL.nil : CellsL R [] [] := ⟨rfl, fun i l h => by simp at h⟩
theorem CellsL.one5 {A : Option Addr} {c : Nat} {l : Ls} (h : R A c l.v) : CellsL R (lastC A c l) [l] :=
  ⟨rfl, fun i l' hl => by
    cases i with
    | zero => simp at hl; subst hl; exact ⟨A, c, fun j v hv => by simpa using hv, h⟩
    | succ i => simp at hl⟩
theorem CellsL.append (h : CellsL R vs ls) (h' : CellsL R ws ms) : CellsL R (vs ++ ws) (ls ++ ms) := by
  refine ⟨by rw [List.length_append, List.length_append, h.len, h'.len, Nat.add_mul], fun i l hl => ?_⟩
  by_cases hi : i < ls.length
  · rw [List.getElem?_append_left hi] at hl
    obtain ⟨A, c, e, hr⟩ := h.cell i l hl
    refine ⟨A, c, fun j v hv => ?_, hr⟩
    have hj : j < 5 := by
      rcases Nat.lt_or_ge j 5 with h' | h'
      · exact h'
      · rw [List.getElem?_eq_none (by rw [lastC_length]; exact h')] at hv; cases hv
    rw [List.getElem?_append_left (by rw [h.len]; omega)]
    exact e j v hv
  · rw [List.getElem?_append_right (by omega)] at hl
    obtain ⟨A, c, e, hr⟩ := h'.cell _ l hl
    refine ⟨A, c, fun j v hv => ?_, hr⟩
    rw [List.getElem?_append_right (by rw [h.len]; omega), h.len, show i * 5 + j - ls.length * 5 = (i - ls.length) * 5 + j by omega]
    exact e j v hv
end
/-- a row of calls -/
def RdL (w : World) (B : Nat) (A : Option Addr) (n : Nat) (ls : List Ls) : Prop := ∃ vs, Rd w B A (n * 5) vs ∧ CellsL (fun A _ l => Rd w B A l.length (bv l)) vs ls
section
variable {w w' : World} {B B' n : Nat} {A : Option Addr} {ls : List Ls}
theorem RdL.below (h : RdL w B A n ls) (hb : Below B w w') : RdL w' B A n ls := by obtain ⟨vs, h1, h2⟩ := h; exact ⟨vs, h1.below hb, h2.imp fun _ _ _ h => h.below hb⟩
theorem RdL.fit (h : RdL w B A n ls) : RdL w w.heap.size A n ls := by obtain ⟨vs, h1, h2⟩ := h; exact ⟨vs, h1.fit, h2.imp fun _ _ _ h => h.fit⟩
theorem RdL.below' (h : RdL w w.heap.size A n ls) (hb : Below w.heap.size w w') : RdL w' w'.heap.size A n ls := (h.below hb).fit
theorem RdL.length (h : RdL w B A n ls) : ls.length = n := by
  obtain ⟨vs, h1, h2⟩ := h
  have := h2.len
  rw [h1.1] at this
  omega
/-- one call of it -/
theorem RdL.at {k : Nat} (h : RdL w B A n ls) (hk : k < n) : ∃ b o l A1 c1, A = some ⟨b, o, none⟩ ∧ ls[k]? = some l ∧
    w.cell? ⟨b, o + k * 5, none⟩ = some (.int .i64 l.s) ∧ w.cell? ⟨b, o + k * 5 + 1, none⟩ = some (.int .i64 l.q) ∧ w.cell? ⟨b, o + k * 5 + 2, none⟩ = some (.int .i64 l.e) ∧
    w.cell? ⟨b, o + k * 5 + 3, none⟩ = some (.slice A1 l.v.length c1) ∧ w.cell? ⟨b, o + k * 5 + 4, none⟩ = some (.int .i64 l.n) ∧ Rd w B A1 l.v.length (bv l.v) := by
  have hlen := h.length
  obtain ⟨vs, h1, h2⟩ := h
  obtain ⟨b, o, e, _, hc⟩ := h1.2 (by omega)
  obtain ⟨l, hl⟩ : ∃ l, ls[k]? = some l := ⟨_, List.getElem?_eq_getElem (by omega)⟩
  obtain ⟨A1, c1, e1, r1⟩ := h2.cell k l hl
  have hh : ∀ j v, (lastC A1 c1 l)[j]? = some v → w.cell? ⟨b, o + k * 5 + j, none⟩ = some v := fun j v hv => by
    have hj : j < 5 := by
      rcases Nat.lt_or_ge j 5 with h' | h'
      · exact h'
      · rw [List.getElem?_eq_none (by rw [lastC_length]; exact h')] at hv; cases hv
    rw [Nat.add_assoc, hc _ (by omega), e1 j v hv]
  exact ⟨b, o, l, A1, c1, e, hl, hh 0 _ rfl, hh 1 _ rfl, hh 2 _ rfl, hh 3 _ rfl, hh 4 _ rfl, r1⟩
end
/-- a row of the call's own, over what grows a row of another type -/
theorem own_grownL {w w' : World} {base base' size size' n n' c' : Nat} {e e' : TypeId} {v : Value} {A' : Option Addr} {xs xs' : List Value} (h : w.ownsRow base e size v n xs) (ho : w.ownsRow base' e' size' (.slice A' n' c') n' xs') (hne : e ≠ e')
    (hg : w.grownBy w' (Value.slice A' n' c').ownBlock) : w'.ownsRow base e size v n xs := by
  refine h.kept hg ?_
  rcases h.2 with ⟨h1, _⟩ | ⟨g, cap, cur, h1, _, hh, _⟩
  · rw [h1]; exact .inl rfl
  · rw [h1]
    refine .inr ?_
    rcases own_blk ho with ⟨h2, _, _⟩ | ⟨g', cur', h2, _, hk'⟩
    · rw [h2]; intro h0; cases h0
    · rw [h2]
      intro h0
      have h3 : g = g' := by simpa [Value.ownBlock] using h0
      exact Blk.apart hh hk' hne h3
theorem own_moreL {W w w' : World} (hs : W.heap.size ≤ w.heap.size) {e : TypeId} {size n : Nat} {v : Value} {xs : List Value} (h : w'.ownsRow w.heap.size e size v n xs) : w'.ownsRow W.heap.size e size v n xs := by
  obtain ⟨h1, h2⟩ := h
  refine ⟨h1, ?_⟩
  rcases h2 with h2 | ⟨g, cap, cur, hv, hg, r⟩
  · exact .inl h2
  · exact .inr ⟨g, cap, cur, hv, Nat.le_trans hs hg, r⟩
/-- the cells of calls whose bytes are W's own -/
abbrev OwnsL (W w : World) (vs : List Value) (ls : List Ls) : Prop := CellsL (fun A c l => OwnB W w A l.length c l) vs ls
section
variable {W w w' : World} {A : Option Addr} {n c : Nat} {vs : List Value} {ls : List Ls}
theorem OwnsL.cells (h : OwnsL W w vs ls) : CellsL (fun A _ l => Rd w w.heap.size A l.length (bv l)) vs ls := h.imp fun _ _ _ h => Rd.own_ h
theorem OwnsL.below (h : OwnsL W w vs ls) (hb : Below w.heap.size w w') : OwnsL W w' vs ls := h.imp fun _ _ _ h => own_below h hb
theorem OwnsL.of (hs : W.heap.size ≤ w.heap.size) (h : OwnsL w w' vs ls) : OwnsL W w' vs ls := h.imp fun _ _ _ h => own_moreL hs h
theorem OwnsL.set_t {b i : Nat} {t : TypeId} {u : Value} {cs : Array Value} (h : OwnsL W w vs ls) (hb : Blk w b t cs) (hne : 5 ≠ t) : OwnsL W (w.setCell ⟨b, i, none⟩ u) vs ls := h.imp fun _ _ _ h => own_set_t h hb hne
theorem OwnsL.grown {base' size' n' c' : Nat} {t : TypeId} {A' : Option Addr} {xs' : List Value} (h : OwnsL W w vs ls) (hne : 5 ≠ t) (ho : w.ownsRow base' t size' (.slice A' n' c') n' xs') (hg : w.grownBy w' (Value.slice A' n' c').ownBlock) : OwnsL W w' vs ls :=
  h.imp fun _ _ _ h => own_grownL h ho hne hg
theorem OwnsL.snoc {A' : Option Addr} {c' : Nat} {l : Ls} (h : OwnsL W w vs ls) (ho : OwnB W w A' l.v.length c' l.v) : OwnsL W w (vs ++ lastC A' c' l) (ls ++ [l]) := h.append (CellsL.one5 (R := fun A c l => OwnB W w A l.length c l) ho)
end
theorem cellL : CellS Try.prog 33 75 (.agg #[.int .i64 0, .int .i64 0, .int .i64 0, .slice none 0 0, .int .i64 0]) 5 56 := ⟨Try.underlying33, by kernel_rfl, rfl, by omega⟩
/-- a row of the call's own, whose bytes are the call's own, too -/
def OwnL (W w : World) (A : Option Addr) (n c : Nat) (ls : List Ls) : Prop :=
  ∃ vs, w.ownsRow W.heap.size 75 5 (.slice A n c) n vs ∧ OwnsL W w vs ls
section
variable {W w w' : World} {A : Option Addr} {n c : Nat} {ls : List Ls}
theorem OwnL.rd (h : OwnL W w A n c ls) : RdL w w.heap.size A n ls := by
  obtain ⟨vs, h1, h2⟩ := h
  exact ⟨vs, Rd.ownS h1 (by omega), OwnsL.cells h2⟩
theorem OwnL.below (h : OwnL W w A n c ls) (hb : Below w.heap.size w w') : OwnL W w' A n c ls := by
  obtain ⟨vs, h1, h2⟩ := h
  exact ⟨vs, ownsRow_below h1 hb, h2.below hb⟩
theorem OwnL.length (h : OwnL W w A n c ls) : ls.length = n := h.rd.length
theorem OwnL.nil (W w : World) : OwnL W w none 0 0 [] := ⟨[], ⟨rfl, .inl ⟨rfl, rfl⟩⟩, CellsL.nil⟩
theorem OwnL.cap (h : OwnL W w A n c ls) : n ≤ c := by
  obtain ⟨vs, h1, _⟩ := h
  exact (own_cap h1).1
theorem OwnL.set_t {b i : Nat} {t : TypeId} {u : Value} {cs : Array Value} (h : OwnL W w A n c ls) (hb : Blk w b t cs) (h1 : 5 ≠ t) (h2 : 75 ≠ t) : OwnL W (w.setCell ⟨b, i, none⟩ u) A n c ls := by
  obtain ⟨vs, g1, g2⟩ := h
  exact ⟨vs, own_set_t g1 hb h2, g2.set_t hb h1⟩
theorem OwnL.of (hs : W.heap.size ≤ w.heap.size) (h : OwnL w w' A n c ls) : OwnL W w' A n c ls := by
  obtain ⟨vs, h1, h2⟩ := h
  exact ⟨vs, own_moreL hs h1, h2.of hs⟩
end
def BytesLs (ls : List Ls) : Prop := ∀ l ∈ ls, ∀ x ∈ l.v, x < 256
end Go.Proofs.Ytmekamgohonffaa

namespace Go.Proofs.Ytmekamgohonffaa
set_option linter.unusedVariables false
namespace Tb
/-- a table rises by its sessions -/
def Rises (ls : List Ls) : Prop := ls.Pairwise fun a b => a.s < b.s
/-- a session and a number that are some -/
def named (s q : Int) : Prop := 1 ≤ s ∧ 1 ≤ q ∧ s ≤ 1073741824 ∧ q ≤ 1073741824
instance (s q : Int) : Decidable (named s q) := inferInstanceAs (Decidable (_ ∧ _))
section
variable {ls : List Ls} {s : Int} {i : Nat} {l m : Ls}
end
end Tb
end Go.Proofs.Ytmekamgohonffaa

