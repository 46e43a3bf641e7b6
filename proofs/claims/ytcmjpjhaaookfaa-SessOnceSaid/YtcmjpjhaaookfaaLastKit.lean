/- Rows of api.Last: how they read; rows of the call's own. -/
import Derived.Test.YtcmjpjhaaookfaaStructKit
import Derived.Test.YtcmjpjhaaookfaaRef4Kit
import Derived.Test.YtcmjpjhaaookfaaOwnrefKit
import Derived.Deep.RegionHeld3
import Derived.Deep.DrawnRows
import Derived.Deep.QuietTactic
import Derived.BigQuiet
import Derived.Deep.DeepCutAuto
import Derived.Deep.RegionWith
namespace Go.Proofs.Ytcmjpjhaaookfaa
open Go.RowKit
set_option linter.unusedVariables false
/-- a session's last call: session, number; its result -/
structure Ls where
  s : Int
  q : Int
  e : Int
  v : List Nat
  n : Int
/-- its five cells -/
def lastC (A : Option Addr) (c : Nat) (l : Ls) : List Value := [.int .i64 l.s, .int .i64 l.q, .int .i64 l.e, .slice A l.v.length c, .int .i64 l.n]
theorem lastC_length (A : Option Addr) (c : Nat) (l : Ls) : (lastC A c l).length = 5 := rfl
/-- the cells vs, five a piece, read as the calls ls; each one's bytes fulfil R -/
structure CellsL (R : Option Addr → Nat → List Nat → Prop) (vs : List Value) (ls : List Ls) : Prop where
  len : vs.length = ls.length * 5
  cell : ∀ (i : Nat) (l : Ls), ls[i]? = some l → ∃ A c, (∀ j v, (lastC A c l)[j]? = some v → vs[i * 5 + j]? = some v) ∧ R A c l.v
section
variable {R R' : Option Addr → Nat → List Nat → Prop} {vs ws : List Value} {ls ms : List Ls}
theorem CellsL.imp (h : CellsL R vs ls) (hR : ∀ A c l, R A c l → R' A c l) : CellsL R' vs ls :=
  ⟨h.len, fun i l hl => by obtain ⟨A, c, e, hr⟩ := h.cell i l hl; exact ⟨A, c, e, hR _ _ _ hr⟩⟩
theorem CellsL.nil : CellsL R [] [] := ⟨rfl, fun i l h => by simp at h⟩
theorem CellsL.one5 {A : Option Addr} {c : Nat} {l : Ls} (h : R A c l.v) : CellsL R (lastC A c l) [l] :=
  ⟨rfl, fun i l' hl => by
    cases i with
    | zero => simp at hl; subst hl; exact ⟨A, c, fun j v hv => by simpa using hv, h⟩
    | succ i => simp at hl⟩
theorem CellsL.append (h : CellsL R vs ls) (h' : CellsL R ws ms) : CellsL R (vs ++ ws) (ls ++ ms) := by
  refine ⟨by rw [List.length_append, List.length_append, h.len, h'.len, Nat.add_mul], fun i l hl => ?_⟩
  by_cases hi : i < ls.length
  · rw [List.getElem?_append_left hi] at hl
    obtain ⟨A, c, e, hr⟩ := h.cell i l hl
    refine ⟨A, c, fun j v hv => ?_, hr⟩
    have hj : j < 5 := by
      rcases Nat.lt_or_ge j 5 with h' | h'
      · exact h'
      · rw [List.getElem?_eq_none (by rw [lastC_length]; exact h')] at hv; cases hv
    rw [List.getElem?_append_left (by rw [h.len]; omega)]
    exact e j v hv
  · rw [List.getElem?_append_right (by omega)] at hl
    obtain ⟨A, c, e, hr⟩ := h'.cell _ l hl
    refine ⟨A, c, fun j v hv => ?_, hr⟩
    rw [List.getElem?_append_right (by rw [h.len]; omega), h.len, show i * 5 + j - ls.length * 5 = (i - ls.length) * 5 + j by omega]
    exact e j v hv
theorem CellsL.drop (h : CellsL R vs ls) (k : Nat) : CellsL R (vs.drop (k * 5)) (ls.drop k) :=
  ⟨by rw [List.length_drop, List.length_drop, h.len, Nat.sub_mul], fun i l hl => by
    rw [List.getElem?_drop] at hl
    obtain ⟨A, c, e, hr⟩ := h.cell _ l hl
    refine ⟨A, c, fun j v hv => ?_, hr⟩
    rw [List.getElem?_drop, show k * 5 + (i * 5 + j) = (k + i) * 5 + j by omega]
    exact e j v hv⟩
theorem CellsL.take (h : CellsL R vs ls) (k : Nat) : CellsL R (vs.take (k * 5)) (ls.take k) := by
  refine ⟨by rw [List.length_take, List.length_take, h.len]; omega, fun i l hl => ?_⟩
  have hi : i < k := by
    rcases Nat.lt_or_ge i k with h' | h'
    · exact h'
    · rw [List.getElem?_take_eq_none h'] at hl; cases hl
  rw [List.getElem?_take_of_lt hi] at hl
  obtain ⟨A, c, e, hr⟩ := h.cell _ l hl
  refine ⟨A, c, fun j v hv => ?_, hr⟩
  have hj : j < 5 := by
    rcases Nat.lt_or_ge j 5 with h' | h'
    · exact h'
    · rw [List.getElem?_eq_none (by rw [lastC_length]; exact h')] at hv; cases hv
  rw [List.getElem?_take_of_lt (by omega)]
  exact e j v hv
theorem CellsL.one (h : CellsL R vs ls) : ∀ u ∈ vs, u.oneCell' = true := by
  intro u hu
  obtain ⟨k, hk, e⟩ := List.getElem_of_mem hu
  have hlt : k / 5 < ls.length := by have := h.len; omega
  obtain ⟨A, c, e2, _⟩ := h.cell (k / 5) ls[k / 5] (List.getElem?_eq_getElem hlt)
  have hm : k % 5 < 5 := Nat.mod_lt _ (by omega)
  obtain ⟨v, hv⟩ : ∃ v, (lastC A c ls[k / 5])[k % 5]? = some v := ⟨(lastC A c ls[k / 5])[k % 5]'(by rw [lastC_length]; exact hm), List.getElem?_eq_getElem (by rw [lastC_length]; exact hm)⟩
  have h3 := e2 _ v hv
  rw [show k / 5 * 5 + k % 5 = k by omega, List.getElem?_eq_getElem hk, e] at h3
  injection h3 with h3
  subst h3
  have hmem := List.mem_of_getElem? hv
  unfold lastC at hmem
  simp at hmem
  rcases hmem with rfl | rfl | rfl | rfl | rfl <;> rfl
/-- one piece is set anew -/
theorem CellsL.set {A : Option Addr} {c : Nat} {l : Ls} {ws : List Value} (h : CellsL R vs ls) (i : Nat) (hr : R A c l.v) (hl : ws.length = vs.length) (hin : ∀ j v, (lastC A c l)[j]? = some v → ws[i * 5 + j]? = some v)
    (hout : ∀ k, (k < i * 5 ∨ i * 5 + 5 ≤ k) → ws[k]? = vs[k]?) : CellsL R ws (ls.set i l) := by
  refine ⟨by rw [hl, h.len]; simp, fun k m hm => ?_⟩
  by_cases hk : i = k
  · subst hk
    have hlt : i < ls.length := by
      rcases Nat.lt_or_ge i ls.length with h' | h'
      · exact h'
      · rw [List.getElem?_eq_none (by simpa using h')] at hm; cases hm
    rw [List.getElem?_set_self hlt] at hm
    injection hm with hm
    subst hm
    exact ⟨A, c, hin, hr⟩
  · rw [List.getElem?_set_ne hk] at hm
    obtain ⟨A', c', e, hr'⟩ := h.cell k m hm
    refine ⟨A', c', fun j v hv => ?_, hr'⟩
    have hj : j < 5 := by
      rcases Nat.lt_or_ge j 5 with h' | h'
      · exact h'
      · rw [List.getElem?_eq_none (by rw [lastC_length]; exact h')] at hv; cases hv
    rw [hout _ (by omega)]
    exact e j v hv
end
/-- a row of calls -/
def RdL (w : World) (B : Nat) (A : Option Addr) (n : Nat) (ls : List Ls) : Prop := ∃ vs, Rd w B A (n * 5) vs ∧ CellsL (fun A _ l => Rd w B A l.length (bv l)) vs ls
section
variable {w w' : World} {B B' n : Nat} {A : Option Addr} {ls : List Ls}
theorem RdL.below (h : RdL w B A n ls) (hb : Below B w w') : RdL w' B A n ls := by obtain ⟨vs, h1, h2⟩ := h; exact ⟨vs, h1.below hb, h2.imp fun _ _ _ h => h.below hb⟩
theorem RdL.more (h : RdL w B A n ls) (hB : B ≤ B') : RdL w B' A n ls := by obtain ⟨vs, h1, h2⟩ := h; exact ⟨vs, h1.more hB, h2.imp fun _ _ _ h => h.more hB⟩
theorem RdL.fit (h : RdL w B A n ls) : RdL w w.heap.size A n ls := by obtain ⟨vs, h1, h2⟩ := h; exact ⟨vs, h1.fit, h2.imp fun _ _ _ h => h.fit⟩
theorem RdL.below' (h : RdL w w.heap.size A n ls) (hb : Below w.heap.size w w') : RdL w' w'.heap.size A n ls := (h.below hb).fit
theorem RdL.drewN (h : RdL w B A n ls) (k : Nat) : RdL (w.drewN k) B A n ls := h
theorem RdL.length (h : RdL w B A n ls) : ls.length = n := by
  obtain ⟨vs, h1, h2⟩ := h
  have := h2.len
  rw [h1.1] at this
  omega
theorem RdL.nil (w : World) (B : Nat) (A : Option Addr) : RdL w B A 0 [] := ⟨[], Rd.none_ _ _ _, CellsL.nil⟩
/-- one call of it -/
theorem RdL.at {k : Nat} (h : RdL w B A n ls) (hk : k < n) : ∃ b o l A1 c1, A = some ⟨b, o, none⟩ ∧ ls[k]? = some l ∧
    w.cell? ⟨b, o + k * 5, none⟩ = some (.int .i64 l.s) ∧ w.cell? ⟨b, o + k * 5 + 1, none⟩ = some (.int .i64 l.q) ∧ w.cell? ⟨b, o + k * 5 + 2, none⟩ = some (.int .i64 l.e) ∧
    w.cell? ⟨b, o + k * 5 + 3, none⟩ = some (.slice A1 l.v.length c1) ∧ w.cell? ⟨b, o + k * 5 + 4, none⟩ = some (.int .i64 l.n) ∧ Rd w B A1 l.v.length (bv l.v) := by
  have hlen := h.length
  obtain ⟨vs, h1, h2⟩ := h
  obtain ⟨b, o, e, _, hc⟩ := h1.2 (by omega)
  obtain ⟨l, hl⟩ : ∃ l, ls[k]? = some l := ⟨_, List.getElem?_eq_getElem (by omega)⟩
  obtain ⟨A1, c1, e1, r1⟩ := h2.cell k l hl
  have hh : ∀ j v, (lastC A1 c1 l)[j]? = some v → w.cell? ⟨b, o + k * 5 + j, none⟩ = some v := fun j v hv => by
    have hj : j < 5 := by
      rcases Nat.lt_or_ge j 5 with h' | h'
      · exact h'
      · rw [List.getElem?_eq_none (by rw [lastC_length]; exact h')] at hv; cases hv
    rw [Nat.add_assoc, hc _ (by omega), e1 j v hv]
  exact ⟨b, o, l, A1, c1, e, hl, hh 0 _ rfl, hh 1 _ rfl, hh 2 _ rfl, hh 3 _ rfl, hh 4 _ rfl, r1⟩
theorem RdL.drop {k c : Nat} (h : RdL w B A n ls) (hk : k ≤ n) (hc : n ≤ c) : RdL w B (cutS A c k 5) (n - k) (ls.drop k) := by
  obtain ⟨vs, h1, h2⟩ := h
  exact ⟨vs.drop (k * 5), h1.dropS hk hc, h2.drop k⟩
theorem RdL.take {k : Nat} (h : RdL w B A n ls) (hk : k ≤ n) : RdL w B A k (ls.take k) := by
  obtain ⟨vs, h1, h2⟩ := h
  exact ⟨vs.take (k * 5), h1.take (Nat.mul_le_mul_right _ hk), h2.take k⟩
end
/-- a row of the call's own, over what grows a row of another type -/
theorem own_grownL {w w' : World} {base base' size size' n n' c' : Nat} {e e' : TypeId} {v : Value} {A' : Option Addr} {xs xs' : List Value} (h : w.ownsRow base e size v n xs) (ho : w.ownsRow base' e' size' (.slice A' n' c') n' xs') (hne : e ≠ e')
    (hg : w.grownBy w' (Value.slice A' n' c').ownBlock) : w'.ownsRow base e size v n xs := by
  refine h.kept hg ?_
  rcases h.2 with ⟨h1, _⟩ | ⟨g, cap, cur, h1, _, hh, _⟩
  · rw [h1]; exact .inl rfl
  · rw [h1]
    refine .inr ?_
    rcases own_blk ho with ⟨h2, _, _⟩ | ⟨g', cur', h2, _, hk'⟩
    · rw [h2]; intro h0; cases h0
    · rw [h2]
      intro h0
      have h3 : g = g' := by simpa [Value.ownBlock] using h0
      exact Blk.apart hh hk' hne h3
theorem own_moreL {W w w' : World} (hs : W.heap.size ≤ w.heap.size) {e : TypeId} {size n : Nat} {v : Value} {xs : List Value} (h : w'.ownsRow w.heap.size e size v n xs) : w'.ownsRow W.heap.size e size v n xs := by
  obtain ⟨h1, h2⟩ := h
  refine ⟨h1, ?_⟩
  rcases h2 with h2 | ⟨g, cap, cur, hv, hg, r⟩
  · exact .inl h2
  · exact .inr ⟨g, cap, cur, hv, Nat.le_trans hs hg, r⟩
/-- the cells of calls whose bytes are W's own -/
abbrev OwnsL (W w : World) (vs : List Value) (ls : List Ls) : Prop := CellsL (fun A c l => OwnB W w A l.length c l) vs ls
section
variable {W w w' : World} {A : Option Addr} {n c : Nat} {vs : List Value} {ls : List Ls}
theorem OwnsL.cells (h : OwnsL W w vs ls) : CellsL (fun A _ l => Rd w w.heap.size A l.length (bv l)) vs ls := h.imp fun _ _ _ h => Rd.own_ h
theorem OwnsL.below (h : OwnsL W w vs ls) (hb : Below w.heap.size w w') : OwnsL W w' vs ls := h.imp fun _ _ _ h => own_below h hb
theorem OwnsL.of (hs : W.heap.size ≤ w.heap.size) (h : OwnsL w w' vs ls) : OwnsL W w' vs ls := h.imp fun _ _ _ h => own_moreL hs h
theorem OwnsL.set_t {b i : Nat} {t : TypeId} {u : Value} {cs : Array Value} (h : OwnsL W w vs ls) (hb : Blk w b t cs) (hne : 5 ≠ t) : OwnsL W (w.setCell ⟨b, i, none⟩ u) vs ls := h.imp fun _ _ _ h => own_set_t h hb hne
theorem OwnsL.grown {base' size' n' c' : Nat} {t : TypeId} {A' : Option Addr} {xs' : List Value} (h : OwnsL W w vs ls) (hne : 5 ≠ t) (ho : w.ownsRow base' t size' (.slice A' n' c') n' xs') (hg : w.grownBy w' (Value.slice A' n' c').ownBlock) : OwnsL W w' vs ls :=
  h.imp fun _ _ _ h => own_grownL h ho hne hg
theorem OwnsL.snoc {A' : Option Addr} {c' : Nat} {l : Ls} (h : OwnsL W w vs ls) (ho : OwnB W w A' l.v.length c' l.v) : OwnsL W w (vs ++ lastC A' c' l) (ls ++ [l]) := h.append (CellsL.one5 (R := fun A c l => OwnB W w A l.length c l) ho)
end
theorem cellL : CellS Try.prog 52 57 (.agg #[.int .i64 0, .int .i64 0, .int .i64 0, .slice none 0 0, .int .i64 0]) 5 56 := ⟨Try.underlying52, by kernel_rfl, rfl, by omega⟩
/-- a row of the call's own, whose bytes are the call's own, too -/
def OwnL (W w : World) (A : Option Addr) (n c : Nat) (ls : List Ls) : Prop :=
  ∃ vs, w.ownsRow W.heap.size 57 5 (.slice A n c) n vs ∧ OwnsL W w vs ls
section
variable {W w w' : World} {A : Option Addr} {n c : Nat} {ls : List Ls}
theorem OwnL.rd (h : OwnL W w A n c ls) : RdL w w.heap.size A n ls := by
  obtain ⟨vs, h1, h2⟩ := h
  exact ⟨vs, Rd.ownS h1 (by omega), OwnsL.cells h2⟩
theorem OwnL.below (h : OwnL W w A n c ls) (hb : Below w.heap.size w w') : OwnL W w' A n c ls := by
  obtain ⟨vs, h1, h2⟩ := h
  exact ⟨vs, ownsRow_below h1 hb, h2.below hb⟩
theorem OwnL.length (h : OwnL W w A n c ls) : ls.length = n := h.rd.length
theorem OwnL.nil (W w : World) : OwnL W w none 0 0 [] := ⟨[], ⟨rfl, .inl ⟨rfl, rfl⟩⟩, CellsL.nil⟩
theorem OwnL.cap (h : OwnL W w A n c ls) : n ≤ c := by
  obtain ⟨vs, h1, _⟩ := h
  exact (own_cap h1).1
theorem OwnL.set_t {b i : Nat} {t : TypeId} {u : Value} {cs : Array Value} (h : OwnL W w A n c ls) (hb : Blk w b t cs) (h1 : 5 ≠ t) (h2 : 57 ≠ t) : OwnL W (w.setCell ⟨b, i, none⟩ u) A n c ls := by
  obtain ⟨vs, g1, g2⟩ := h
  exact ⟨vs, own_set_t g1 hb h2, g2.set_t hb h1⟩
theorem OwnL.of (hs : W.heap.size ≤ w.heap.size) (h : OwnL w w' A n c ls) : OwnL W w' A n c ls := by
  obtain ⟨vs, h1, h2⟩ := h
  exact ⟨vs, own_moreL hs h1, h2.of hs⟩
end
/-- calls, in memory of W's own -/
def GotL (W w : World) (ls : List Ls) (e : Ending) (w' : World) : Prop := ∃ A c, e = .returned (.slice A ls.length c) ∧ OwnL W w' A ls.length c ls ∧ Below W.heap.size W w' ∧ Below w.heap.size w w'
theorem GotL.of {W w w' : World} {ls : List Ls} {e : Ending} (hB : Below W.heap.size W w) (h : GotL w w ls e w') : GotL W w ls e w' := by
  obtain ⟨A, c, h1, h2, h3, h4⟩ := h
  exact ⟨A, c, h1, h2.of hB.size, hB.trans (h3.mono hB.size), h4⟩
/-- a result and what is to be done -/
def GotRK (W w : World) (e : Int) (l : List Nat) (N : Int) (k : Int) (en : Ending) (w' : World) : Prop :=
  ∃ A c, en = .returned (.tuple #[resV e A l.length c N, .int .i64 k]) ∧ OwnB W w' A l.length c l ∧ Below W.heap.size W w' ∧ Below w.heap.size w w'
theorem GotRK.of {W w w' : World} {e : Int} {l : List Nat} {N k : Int} {en : Ending} (hB : Below W.heap.size W w) (h : GotRK w w e l N k en w') : GotRK W w e l N k en w' := by
  obtain ⟨A, c, h1, h2, h3, h4⟩ := h
  exact ⟨A, c, h1, own_moreL hB.size h2, hB.trans (h3.mono hB.size), h4⟩
/-- each row of bytes is of a length that may be; bytes -/
def LimLs (ls : List Ls) : Prop := ∀ l ∈ ls, Lim 0 l.v.length
def BytesLs (ls : List Ls) : Prop := ∀ l ∈ ls, ∀ x ∈ l.v, x < 256
end Go.Proofs.Ytcmjpjhaaookfaa
