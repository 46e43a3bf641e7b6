/- LastKit SessMath SessRef -/
import Derived.Test.YtaknfmionkkdjaaGreatFO04
import Derived.Test.YtaknfmionkkdjaaGreatFO05
import Derived.Test.YtaknfmionkkdjaaGreatFO07
import Derived.BigQuiet
import Derived.Deep.DeepCutAuto
import Derived.Deep.DrawnRows
import Derived.Deep.QuietTactic
import Derived.Deep.RegionHeld3
import Derived.Deep.RegionWith
import Derived.Deep.CutBlock
import Derived.Deep.RegionLaw
namespace Go.Proofs.YtaknfmionkkdjaaGreat
open Go.RowKit
set_option linter.unusedVariables false
/-- a session's last call: session, number; its result -/
structure Ls where
  s : Int
  q : Int
  e : Int
  v : List Nat
  n : Int
/-- its five cells -/
def lastC (A : Option Addr) (c : Nat) (l : Ls) : List Value := [.int .i64 l.s, .int .i64 l.q, .int .i64 l.e, .slice A l.v.length c, .int .i64 l.n]
theorem lastC_length (A : Option Addr) (c : Nat) (l : Ls) : (lastC A c l).length = 5 := rfl
/-- the cells vs, five a piece, read as the calls ls; each one's bytes fulfil R -/
structure CellsL (R : Option Addr → Nat → List Nat → Prop) (vs : List Value) (ls : List Ls) : Prop where
  len : vs.length = ls.length * 5
  cell : ∀ (i : Nat) (l : Ls), ls[i]? = some l → ∃ A c, (∀ j v, (lastC A c l)[j]? = some v → vs[i * 5 + j]? = some v) ∧ R A c l.v
section
variable {R R' : Option Addr → Nat → List Nat → Prop} {vs ws : List Value} {ls ms : List Ls}
theorem CellsL.imp (h : CellsL R vs ls) (hR : ∀ A c l, R A c l → R' A c l) : CellsL R' vs ls :=
  ⟨h.len, fun i l hl => by obtain ⟨A, c, e, hr⟩ := h.cell i l hl; exact ⟨A, c, e, hR _ _ _ hr⟩⟩
theorem CellsL.nil : CellsL R [] [] := ⟨rfl, fun i l h => by simp at h⟩
theorem CellsL.one5 {A : Option Addr} {c : Nat} {l : Ls} (h : R A c l.v) : CellsL R (lastC A c l) [l] :=
  ⟨rfl, fun i l' hl => by
    cases i with
    | zero => simp at hl; subst hl; exact ⟨A, c, fun j v hv => by simpa using hv, h⟩
    | succ i => simp at hl⟩
theorem CellsL.append (h : CellsL R vs ls) (h' : CellsL R ws ms) : CellsL R (vs ++ ws) (ls ++ ms) := by
  refine ⟨by rw [List.length_append, List.length_append, h.len, h'.len, Nat.add_mul], fun i l hl => ?_⟩
  by_cases hi : i < ls.length
  · rw [List.getElem?_append_left hi] at hl
    obtain ⟨A, c, e, hr⟩ := h.cell i l hl
    refine ⟨A, c, fun j v hv => ?_, hr⟩
    have hj : j < 5 := by
      rcases Nat.lt_or_ge j 5 with h' | h'
      · exact h'
      · rw [List.getElem?_eq_none (by rw [lastC_length]; exact h')] at hv; cases hv
    rw [List.getElem?_append_left (by rw [h.len]; omega)]
    exact e j v hv
  · rw [List.getElem?_append_right (by omega)] at hl
    obtain ⟨A, c, e, hr⟩ := h'.cell _ l hl
    refine ⟨A, c, fun j v hv => ?_, hr⟩
    rw [List.getElem?_append_right (by rw [h.len]; omega), h.len, show i * 5 + j - ls.length * 5 = (i - ls.length) * 5 + j by omega]
    exact e j v hv
theorem CellsL.drop (h : CellsL R vs ls) (k : Nat) : CellsL R (vs.drop (k * 5)) (ls.drop k) :=
  ⟨by rw [List.length_drop, List.length_drop, h.len, Nat.sub_mul], fun i l hl => by
    rw [List.getElem?_drop] at hl
    obtain ⟨A, c, e, hr⟩ := h.cell _ l hl
    refine ⟨A, c, fun j v hv => ?_, hr⟩
    rw [List.getElem?_drop, show k * 5 + (i * 5 + j) = (k + i) * 5 + j by omega]
    exact e j v hv⟩
theorem CellsL.take (h : CellsL R vs ls) (k : Nat) : CellsL R (vs.take (k * 5)) (ls.take k) := by
  refine ⟨by rw [List.length_take, List.length_take, h.len]; omega, fun i l hl => ?_⟩
  have hi : i < k := by
    rcases Nat.lt_or_ge i k with h' | h'
    · exact h'
    · rw [List.getElem?_take_eq_none h'] at hl; cases hl
  rw [List.getElem?_take_of_lt hi] at hl
  obtain ⟨A, c, e, hr⟩ := h.cell _ l hl
  refine ⟨A, c, fun j v hv => ?_, hr⟩
  have hj : j < 5 := by
    rcases Nat.lt_or_ge j 5 with h' | h'
    · exact h'
    · rw [List.getElem?_eq_none (by rw [lastC_length]; exact h')] at hv; cases hv
  rw [List.getElem?_take_of_lt (by omega)]
  exact e j v hv
theorem CellsL.one (h : CellsL R vs ls) : ∀ u ∈ vs, u.oneCell' = true := by
  intro u hu
  obtain ⟨k, hk, e⟩ := List.getElem_of_mem hu
  have hlt : k / 5 < ls.length := by have := h.len; omega
  obtain ⟨A, c, e2, _⟩ := h.cell (k / 5) ls[k / 5] (List.getElem?_eq_getElem hlt)
  have hm : k % 5 < 5 := Nat.mod_lt _ (by omega)
  obtain ⟨v, hv⟩ : ∃ v, (lastC A c ls[k / 5])[k % 5]? = some v := ⟨(lastC A c ls[k / 5])[k % 5]'(by rw [lastC_length]; exact hm), List.getElem?_eq_getElem (by rw [lastC_length]; exact hm)⟩
  have h3 := e2 _ v hv
  rw [show k / 5 * 5 + k % 5 = k by omega, List.getElem?_eq_getElem hk, e] at h3
  injection h3 with h3
  subst h3
  have hmem := List.mem_of_getElem? hv
  unfold lastC at hmem
  simp at hmem
  rcases hmem with rfl | rfl | rfl | rfl | rfl <;> rfl
/-- one piece is set anew -/
theorem CellsL.set {A : Option Addr} {c : Nat} {l : Ls} {ws : List Value} (h : CellsL R vs ls) (i : Nat) (hr : R A c l.v) (hl : ws.length = vs.length) (hin : ∀ j v, (lastC A c l)[j]? = some v → ws[i * 5 + j]? = some v)
    (hout : ∀ k, (k < i * 5 ∨ i * 5 + 5 ≤ k) → ws[k]? = vs[k]?) : CellsL R ws (ls.set i l) := by
  refine ⟨by rw [hl, h.len]; simp, fun k m hm => ?_⟩
  by_cases hk : i = k
  · subst hk
    have hlt : i < ls.length := by
      rcases Nat.lt_or_ge i ls.length with h' | h'
      · exact h'
      · rw [List.getElem?_eq_none (by simpa using h')] at hm; cases hm
    rw [List.getElem?_set_self hlt] at hm
    injection hm with hm
    subst hm
    exact ⟨A, c, hin, hr⟩
  · rw [List.getElem?_set_ne hk] at hm
    obtain ⟨A', c', e, hr'⟩ := h.cell k m hm
    refine ⟨A', c', fun j v hv => ?_, hr'⟩
    have hj : j < 5 := by
      rcases Nat.lt_or_ge j 5 with h' | h'
      · exact h'
      · rw [List.getElem?_eq_none (by rw [lastC_length]; exact h')] at hv; cases hv
    rw [hout _ (by omega)]
    exact e j v hv
end
/-- a row of calls -/
def RdL (w : World) (B : Nat) (A : Option Addr) (n : Nat) (ls : List Ls) : Prop := ∃ vs, Rd w B A (n * 5) vs ∧ CellsL (fun A _ l => Rd w B A l.length (bv l)) vs ls
section
variable {w w' : World} {B B' n : Nat} {A : Option Addr} {ls : List Ls}
theorem RdL.below (h : RdL w B A n ls) (hb : Below B w w') : RdL w' B A n ls := by obtain ⟨vs, h1, h2⟩ := h; exact ⟨vs, h1.below hb, h2.imp fun _ _ _ h => h.below hb⟩
theorem RdL.fit (h : RdL w B A n ls) : RdL w w.heap.size A n ls := by obtain ⟨vs, h1, h2⟩ := h; exact ⟨vs, h1.fit, h2.imp fun _ _ _ h => h.fit⟩
theorem RdL.below' (h : RdL w w.heap.size A n ls) (hb : Below w.heap.size w w') : RdL w' w'.heap.size A n ls := (h.below hb).fit
theorem RdL.length (h : RdL w B A n ls) : ls.length = n := by
  obtain ⟨vs, h1, h2⟩ := h
  have := h2.len
  rw [h1.1] at this
  omega
theorem RdL.nil (w : World) (B : Nat) (A : Option Addr) : RdL w B A 0 [] := ⟨[], Rd.none_ _ _ _, CellsL.nil⟩
/-- one call of it -/
theorem RdL.at {k : Nat} (h : RdL w B A n ls) (hk : k < n) : ∃ b o l A1 c1, A = some ⟨b, o, none⟩ ∧ ls[k]? = some l ∧
    w.cell? ⟨b, o + k * 5, none⟩ = some (.int .i64 l.s) ∧ w.cell? ⟨b, o + k * 5 + 1, none⟩ = some (.int .i64 l.q) ∧ w.cell? ⟨b, o + k * 5 + 2, none⟩ = some (.int .i64 l.e) ∧
    w.cell? ⟨b, o + k * 5 + 3, none⟩ = some (.slice A1 l.v.length c1) ∧ w.cell? ⟨b, o + k * 5 + 4, none⟩ = some (.int .i64 l.n) ∧ Rd w B A1 l.v.length (bv l.v) := by
  have hlen := h.length
  obtain ⟨vs, h1, h2⟩ := h
  obtain ⟨b, o, e, _, hc⟩ := h1.2 (by omega)
  obtain ⟨l, hl⟩ : ∃ l, ls[k]? = some l := ⟨_, List.getElem?_eq_getElem (by omega)⟩
  obtain ⟨A1, c1, e1, r1⟩ := h2.cell k l hl
  have hh : ∀ j v, (lastC A1 c1 l)[j]? = some v → w.cell? ⟨b, o + k * 5 + j, none⟩ = some v := fun j v hv => by
    have hj : j < 5 := by
      rcases Nat.lt_or_ge j 5 with h' | h'
      · exact h'
      · rw [List.getElem?_eq_none (by rw [lastC_length]; exact h')] at hv; cases hv
    rw [Nat.add_assoc, hc _ (by omega), e1 j v hv]
  exact ⟨b, o, l, A1, c1, e, hl, hh 0 _ rfl, hh 1 _ rfl, hh 2 _ rfl, hh 3 _ rfl, hh 4 _ rfl, r1⟩
end
/-- a row of the call's own, over what grows a row of another type -/
theorem own_grownL {w w' : World} {base base' size size' n n' c' : Nat} {e e' : TypeId} {v : Value} {A' : Option Addr} {xs xs' : List Value} (h : w.ownsRow base e size v n xs) (ho : w.ownsRow base' e' size' (.slice A' n' c') n' xs') (hne : e ≠ e')
    (hg : w.grownBy w' (Value.slice A' n' c').ownBlock) : w'.ownsRow base e size v n xs := by
  refine h.kept hg ?_
  rcases h.2 with ⟨h1, _⟩ | ⟨g, cap, cur, h1, _, hh, _⟩
  · rw [h1]; exact .inl rfl
  · rw [h1]
    refine .inr ?_
    rcases own_blk ho with ⟨h2, _, _⟩ | ⟨g', cur', h2, _, hk'⟩
    · rw [h2]; intro h0; cases h0
    · rw [h2]
      intro h0
      have h3 : g = g' := by simpa [Value.ownBlock] using h0
      exact Blk.apart hh hk' hne h3
theorem own_moreL {W w w' : World} (hs : W.heap.size ≤ w.heap.size) {e : TypeId} {size n : Nat} {v : Value} {xs : List Value} (h : w'.ownsRow w.heap.size e size v n xs) : w'.ownsRow W.heap.size e size v n xs := by
  obtain ⟨h1, h2⟩ := h
  refine ⟨h1, ?_⟩
  rcases h2 with h2 | ⟨g, cap, cur, hv, hg, r⟩
  · exact .inl h2
  · exact .inr ⟨g, cap, cur, hv, Nat.le_trans hs hg, r⟩
/-- the cells of calls whose bytes are W's own -/
abbrev OwnsL (W w : World) (vs : List Value) (ls : List Ls) : Prop := CellsL (fun A c l => OwnB W w A l.length c l) vs ls
section
variable {W w w' : World} {A : Option Addr} {n c : Nat} {vs : List Value} {ls : List Ls}
theorem OwnsL.cells (h : OwnsL W w vs ls) : CellsL (fun A _ l => Rd w w.heap.size A l.length (bv l)) vs ls := h.imp fun _ _ _ h => Rd.own_ h
theorem OwnsL.below (h : OwnsL W w vs ls) (hb : Below w.heap.size w w') : OwnsL W w' vs ls := h.imp fun _ _ _ h => own_below h hb
theorem OwnsL.of (hs : W.heap.size ≤ w.heap.size) (h : OwnsL w w' vs ls) : OwnsL W w' vs ls := h.imp fun _ _ _ h => own_moreL hs h
theorem OwnsL.set_t {b i : Nat} {t : TypeId} {u : Value} {cs : Array Value} (h : OwnsL W w vs ls) (hb : Blk w b t cs) (hne : 5 ≠ t) : OwnsL W (w.setCell ⟨b, i, none⟩ u) vs ls := h.imp fun _ _ _ h => own_set_t h hb hne
theorem OwnsL.grown {base' size' n' c' : Nat} {t : TypeId} {A' : Option Addr} {xs' : List Value} (h : OwnsL W w vs ls) (hne : 5 ≠ t) (ho : w.ownsRow base' t size' (.slice A' n' c') n' xs') (hg : w.grownBy w' (Value.slice A' n' c').ownBlock) : OwnsL W w' vs ls :=
  h.imp fun _ _ _ h => own_grownL h ho hne hg
theorem OwnsL.snoc {A' : Option Addr} {c' : Nat} {l : Ls} (h : OwnsL W w vs ls) (ho : OwnB W w A' l.v.length c' l.v) : OwnsL W w (vs ++ lastC A' c' l) (ls ++ [l]) := h.append (CellsL.one5 (R := fun A c l => OwnB W w A l.length c l) ho)
end
theorem cellL : CellS Tryz.prog 31 57 (.agg #[.int .i64 0, .int .i64 0, .int .i64 0, .slice none 0 0, .int .i64 0]) 5 56 := ⟨Tryz.underlying31, by kernel_rfl, rfl, by omega⟩
/-- a row of the call's own, whose bytes are the call's own, too -/
def OwnL (W w : World) (A : Option Addr) (n c : Nat) (ls : List Ls) : Prop :=
  ∃ vs, w.ownsRow W.heap.size 57 5 (.slice A n c) n vs ∧ OwnsL W w vs ls
section
variable {W w w' : World} {A : Option Addr} {n c : Nat} {ls : List Ls}
theorem OwnL.rd (h : OwnL W w A n c ls) : RdL w w.heap.size A n ls := by
  obtain ⟨vs, h1, h2⟩ := h
  exact ⟨vs, Rd.ownS h1 (by omega), OwnsL.cells h2⟩
theorem OwnL.below (h : OwnL W w A n c ls) (hb : Below w.heap.size w w') : OwnL W w' A n c ls := by
  obtain ⟨vs, h1, h2⟩ := h
  exact ⟨vs, ownsRow_below h1 hb, h2.below hb⟩
theorem OwnL.length (h : OwnL W w A n c ls) : ls.length = n := h.rd.length
theorem OwnL.nil (W w : World) : OwnL W w none 0 0 [] := ⟨[], ⟨rfl, .inl ⟨rfl, rfl⟩⟩, CellsL.nil⟩
theorem OwnL.cap (h : OwnL W w A n c ls) : n ≤ c := by
  obtain ⟨vs, h1, _⟩ := h
  exact (own_cap h1).1
theorem OwnL.set_t {b i : Nat} {t : TypeId} {u : Value} {cs : Array Value} (h : OwnL W w A n c ls) (hb : Blk w b t cs) (h1 : 5 ≠ t) (h2 : 57 ≠ t) : OwnL W (w.setCell ⟨b, i, none⟩ u) A n c ls := by
  obtain ⟨vs, g1, g2⟩ := h
  exact ⟨vs, own_set_t g1 hb h2, g2.set_t hb h1⟩
theorem OwnL.of (hs : W.heap.size ≤ w.heap.size) (h : OwnL w w' A n c ls) : OwnL W w' A n c ls := by
  obtain ⟨vs, h1, h2⟩ := h
  exact ⟨vs, own_moreL hs h1, h2.of hs⟩
end
/-- calls, in memory of W's own -/
def GotL (W w : World) (ls : List Ls) (e : Ending) (w' : World) : Prop := ∃ A c, e = .returned (.slice A ls.length c) ∧ OwnL W w' A ls.length c ls ∧ Below W.heap.size W w' ∧ Below w.heap.size w w'
theorem GotL.of {W w w' : World} {ls : List Ls} {e : Ending} (hB : Below W.heap.size W w) (h : GotL w w ls e w') : GotL W w ls e w' := by
  obtain ⟨A, c, h1, h2, h3, h4⟩ := h
  exact ⟨A, c, h1, h2.of hB.size, hB.trans (h3.mono hB.size), h4⟩
/-- a result and what is to be done -/
def GotRK (W w : World) (e : Int) (l : List Nat) (N : Int) (k : Int) (en : Ending) (w' : World) : Prop :=
  ∃ A c, en = .returned (.tuple #[resV e A l.length c N, .int .i64 k]) ∧ OwnB W w' A l.length c l ∧ Below W.heap.size W w' ∧ Below w.heap.size w w'
theorem GotRK.of {W w w' : World} {e : Int} {l : List Nat} {N k : Int} {en : Ending} (hB : Below W.heap.size W w) (h : GotRK w w e l N k en w') : GotRK W w e l N k en w' := by
  obtain ⟨A, c, h1, h2, h3, h4⟩ := h
  exact ⟨A, c, h1, own_moreL hB.size h2, hB.trans (h3.mono hB.size), h4⟩
/-- each row of bytes is of a length that may be; bytes -/
def LimLs (ls : List Ls) : Prop := ∀ l ∈ ls, Lim 0 l.v.length
def BytesLs (ls : List Ls) : Prop := ∀ l ∈ ls, ∀ x ∈ l.v, x < 256
end Go.Proofs.YtaknfmionkkdjaaGreat

namespace Go.Proofs.YtaknfmionkkdjaaGreat
set_option linter.unusedVariables false
namespace Tb
/-- a table rises by its sessions -/
def Rises (ls : List Ls) : Prop := ls.Pairwise fun a b => a.s < b.s
/-- a session and a number that are some -/
def named (s q : Int) : Prop := 1 ≤ s ∧ 1 ≤ q ∧ s ≤ 1073741824 ∧ q ≤ 1073741824
instance (s q : Int) : Decidable (named s q) := inferInstanceAs (Decidable (_ ∧ _))
/-- what stands for a session -/
def here (ls : List Ls) (s : Int) : Option Ls := ls.find? fun l => decide (l.s = s)
/-- an answer: error, bytes, number, what is to be done -/
structure Ans where
  e : Int
  v : List Nat
  n : Int
  k : Int
/-- what is to be done -/
def look (ls : List Ls) (s q : Int) : Ans :=
  if named s q then
    match here ls s with
    | some l => if q < l.q then ⟨8, [], 0, 2⟩ else if q = l.q then ⟨l.e, l.v, l.n, 1⟩ else ⟨0, [], 0, 0⟩
    | none => if 8 ≤ ls.length then ⟨9, [], 0, 2⟩ else ⟨0, [], 0, 0⟩
  else ⟨10, [], 0, 2⟩
/-- that is its last one then -/
def put (ls : List Ls) (l : Ls) : List Ls := ls.filter (fun m => decide (m.s < l.s)) ++ l :: ls.filter (fun m => decide (l.s < m.s))
/-- i is where a session stands, or would -/
structure At (ls : List Ls) (s : Int) (i : Nat) : Prop where
  le : i ≤ ls.length
  lo : ∀ (j : Nat) (l : Ls), j < i → ls[j]? = some l → l.s < s
  hi : ∀ l, ls[i]? = some l → s ≤ l.s
section
variable {ls : List Ls} {s : Int} {i : Nat} {l m : Ls}
theorem At.lows (h : At ls s i) : ∀ m ∈ ls.take i, m.s < s := by
  intro m hm
  obtain ⟨j, hj, e⟩ := List.getElem_of_mem hm
  have hj2 : j < i := by rw [List.length_take] at hj; omega
  refine h.lo j m hj2 ?_
  rw [← e, List.getElem_take, List.getElem?_eq_getElem]
theorem At.rest (hr : Rises ls) (h : At ls s i) (hl : ls[i]? = some l) (hs : l.s = s) : ls.drop i = l :: ls.drop (i + 1) ∧ ∀ m ∈ ls.drop (i + 1), s < m.s := by
  have hp : (ls.drop i).Pairwise fun a b => a.s < b.s := hr.sublist (List.drop_sublist i ls)
  have hd : ls.drop i = l :: ls.drop (i + 1) := by rw [List.drop_eq_getElem?_toList_append, hl]; rfl
  rw [hd] at hp
  refine ⟨hd, fun m hm => ?_⟩
  have := (List.pairwise_cons.1 hp).1 m hm
  omega
theorem At.highs2 (hr : Rises ls) (h : At ls s i) (hn : ∀ l, ls[i]? = some l → l.s ≠ s) : ∀ m ∈ ls.drop i, s < m.s := by
  intro m hm
  have hp : (ls.drop i).Pairwise fun a b => a.s < b.s := hr.sublist (List.drop_sublist i ls)
  cases hd : ls.drop i with
  | nil => rw [hd] at hm; cases hm
  | cons x r =>
    have h0 : ls[i]? = some x := by
      have : (ls.drop i)[0]? = some x := by rw [hd]; rfl
      rwa [List.getElem?_drop, Nat.add_zero] at this
    rw [hd] at hm hp
    have hx := h.hi x h0
    have hx2 := hn x h0
    rcases List.mem_cons.1 hm with rfl | hm
    · omega
    · have := (List.pairwise_cons.1 hp).1 m hm
      omega
theorem filter_all {p : Ls → Bool} {l : List Ls} (h : ∀ m ∈ l, p m = true) : l.filter p = l := List.filter_eq_self.2 h
theorem filter_none {p : Ls → Bool} {l : List Ls} (h : ∀ m ∈ l, p m = false) : l.filter p = [] := List.filter_eq_nil_iff.2 fun m hm => by rw [h m hm]; simp
theorem find_none {p : Ls → Bool} {l : List Ls} (h : ∀ m ∈ l, p m = false) : l.find? p = none := List.find?_eq_none.2 fun m hm => by rw [h m hm]; simp
theorem At.here_some (hr : Rises ls) (h : At ls s i) (hl : ls[i]? = some l) (hs : l.s = s) : here ls s = some l := by
  unfold here
  conv => lhs; rw [← List.take_append_drop i ls]
  rw [List.find?_append, find_none (fun m hm => by have := h.lows m hm; simp; omega), (h.rest hr hl hs).1]
  simp [hs]
theorem At.here_none (hr : Rises ls) (h : At ls s i) (hn : ∀ l, ls[i]? = some l → l.s ≠ s) : here ls s = none := by
  unfold here
  refine find_none fun m hm => ?_
  rw [← List.take_append_drop i ls] at hm
  rcases List.mem_append.1 hm with hm | hm
  · have := h.lows m hm; simp; omega
  · have := h.highs2 hr hn m hm; simp; omega
theorem At.put_some (hr : Rises ls) (h : At ls l.s i) (hm : ls[i]? = some m) (hs : m.s = l.s) : put ls l = ls.set i l := by
  have hlt : i < ls.length := by
    rcases Nat.lt_or_ge i ls.length with h' | h'
    · exact h'
    · rw [List.getElem?_eq_none h'] at hm; cases hm
  obtain ⟨hd, hgt⟩ := h.rest hr hm hs
  unfold put
  rw [List.set_eq_take_append_cons_drop, if_pos hlt]
  conv => lhs; rw [← List.take_append_drop i ls]
  rw [List.filter_append, List.filter_append, hd]
  rw [filter_all (fun m hm => by have := h.lows m hm; simpa using this), filter_none (l := ls.take i) (fun m hm => by have := h.lows m hm; simp; omega)]
  rw [List.filter_cons_of_neg (by simp [hs]), List.filter_cons_of_neg (by simp [hs]), filter_none (l := ls.drop (i + 1)) (fun m hm => by have := hgt m hm; simp; omega), filter_all (fun m hm => by have := hgt m hm; simpa using this)]
  simp
theorem At.put_none (hr : Rises ls) (h : At ls l.s i) (hn : ∀ m, ls[i]? = some m → m.s ≠ l.s) : put ls l = ls.take i ++ l :: ls.drop i := by
  have hgt := h.highs2 hr hn
  unfold put
  conv => lhs; rw [← List.take_append_drop i ls]
  rw [List.filter_append, List.filter_append]
  rw [filter_all (fun m hm => by have := h.lows m hm; simpa using this), filter_none (l := ls.take i) (fun m hm => by have := h.lows m hm; simp; omega)]
  rw [filter_none (l := ls.drop i) (fun m hm => by have := hgt m hm; simp; omega), filter_all (l := ls.drop i) (fun m hm => by have := hgt m hm; simpa using this)]
  simp
theorem At.none_eq (h : At ls s i) (hi : i = ls.length) : ∀ l, ls[i]? = some l → l.s ≠ s := by
  intro l hl
  rw [List.getElem?_eq_none (by omega)] at hl
  cases hl
theorem put_rises (hr : Rises ls) : Rises (put ls l) := by
  unfold Rises put
  rw [List.pairwise_append]
  refine ⟨hr.filter _, ?_, ?_⟩
  · rw [List.pairwise_cons]
    exact ⟨fun m hm => by have := (List.mem_filter.1 hm).2; simpa using this, hr.filter _⟩
  · intro a ha b hb
    have h1 := (List.mem_filter.1 ha).2
    simp at h1
    rcases List.mem_cons.1 hb with rfl | hb
    · exact h1
    · have h2 := (List.mem_filter.1 hb).2
      simp at h2
      omega
theorem mem_put (h : m ∈ put ls l) : m = l ∨ m ∈ ls := by
  unfold put at h
  rcases List.mem_append.1 h with h | h
  · exact .inr (List.mem_filter.1 h).1
  · rcases List.mem_cons.1 h with h | h
    · exact .inl h
    · exact .inr (List.mem_filter.1 h).1
theorem split_len (ls : List Ls) (s : Int) : (ls.filter fun m => decide (m.s < s)).length + (ls.filter fun m => decide (m.s = s)).length + (ls.filter fun m => decide (s < m.s)).length = ls.length := by
  induction ls with
  | nil => rfl
  | cons a ls ih =>
    rcases Int.lt_trichotomy a.s s with h | h | h
    · rw [List.filter_cons_of_pos (by simpa using h), List.filter_cons_of_neg (by simp; omega), List.filter_cons_of_neg (by simp; omega)]
      simp; omega
    · rw [List.filter_cons_of_neg (by simp; omega), List.filter_cons_of_pos (by simpa using h), List.filter_cons_of_neg (by simp; omega)]
      simp; omega
    · rw [List.filter_cons_of_neg (by simp; omega), List.filter_cons_of_neg (by simp; omega), List.filter_cons_of_pos (by simpa using h)]
      simp; omega
theorem one_len (hr : Rises ls) (s : Int) : (ls.filter fun m => decide (m.s = s)).length = if (here ls s).isSome then 1 else 0 := by
  induction ls with
  | nil => rfl
  | cons a ls ih =>
    have hp := List.pairwise_cons.1 hr
    by_cases h : a.s = s
    · rw [List.filter_cons_of_pos (by simpa using h), filter_none (l := ls) (fun m hm => by have := hp.1 m hm; simp; omega)]
      simp [here, h]
    · rw [List.filter_cons_of_neg (by simpa using h), ih hp.2]
      unfold here
      rw [List.find?_cons, decide_eq_false h]
theorem length_put (hr : Rises ls) : (put ls l).length = if (here ls l.s).isSome then ls.length else ls.length + 1 := by
  have h1 := split_len ls l.s
  rw [one_len hr] at h1
  unfold put
  rw [List.length_append, List.length_cons]
  split
  · rw [if_pos (by assumption)] at h1; omega
  · rw [if_neg (by assumption)] at h1; omega
theorem length_put_le : (put ls l).length ≤ ls.length + 1 := by
  have h1 := split_len ls l.s
  unfold put
  rw [List.length_append, List.length_cons]
  omega
end
end Tb
end Go.Proofs.YtaknfmionkkdjaaGreat

namespace Go.Proofs.YtaknfmionkkdjaaGreat
open Go.RowKit
set_option linter.unusedVariables false
set_option maxRecDepth 100000 in
theorem refNamed_any (w : World) (s q : Int) :
    Calls Tryz.prog 68 #[.int .i64 s, .int .i64 q] w fun e w' => e = .returned (.bool (decide (Tb.named s q))) ∧ w = w' := by
  have bad : ¬ (1 ≤ s ∧ 1 ≤ q ∧ s ≤ 1073741824 ∧ q ≤ 1073741824) → decide (Tb.named s q) = false := fun h => decide_eq_false h
  have good : (1 ≤ s ∧ 1 ≤ q ∧ s ≤ 1073741824 ∧ q ≤ 1073741824) → decide (Tb.named s q) = true := fun h => decide_eq_true h
  by_cases h1 : 1 ≤ s
  · by_cases h2 : 1 ≤ q
    · by_cases h3 : s ≤ 1073741824
      · by_cases h4 : q ≤ 1073741824
        · rw [good (by omega)]
          clear bad good
          go_enter Tryz.func68, Tryz.ntmps68
          go_wp2_with fail
          go_ret
          exact ⟨rfl, rfl⟩
        · rw [bad (by omega)]
          clear bad good
          go_enter Tryz.func68, Tryz.ntmps68
          go_wp2_with fail
          go_ret
          exact ⟨rfl, rfl⟩
      · rw [bad (by omega)]
        clear bad good
        go_enter Tryz.func68, Tryz.ntmps68
        go_wp2_with fail
        go_ret
        exact ⟨rfl, rfl⟩
    · rw [bad (by omega)]
      clear bad good
      go_enter Tryz.func68, Tryz.ntmps68
      go_wp2_with fail
      go_ret
      exact ⟨rfl, rfl⟩
  · rw [bad (by omega)]
    clear bad good
    go_enter Tryz.func68, Tryz.ntmps68
    go_wp2_with fail
    go_ret
    exact ⟨rfl, rfl⟩
set_option maxRecDepth 100000 in
theorem refAt_any (w : World) {A : Option Addr} {n c B : Nat} {ls : List Ls} (s : Int) (hn : n ≤ 100000) (h : RdL w B A n ls) :
    Calls Tryz.prog 70 #[.slice A n c, .int .i64 s] w fun e w' => (∃ i : Nat, e = .returned (.int .i64 (i : Int)) ∧ Tb.At ls s i) ∧ w = w' := by
  have HL := Lib.hid h.length
  have H := Lib.hid h
  clear h
  go_enter Tryz.func70, Tryz.ntmps70
  go_wp2
  go_loopw [5] (fun i wr => ∃ k : Nat, k ≤ n ∧ i = .int .i64 k ∧ Hid (∀ (j : Nat) (l : Ls), j < k → ls[j]? = some l → l.s < s) ∧ w = wr) (fun i _ => n - (intOf i).toNat)
  case atStart => exact ⟨0, Nat.zero_le _, rfl, Lib.hid (fun j l hj => absurd hj (by omega)), rfl⟩
  case round =>
    obtain ⟨k, hk, rfl, HS, rfl⟩ := hrel
    by_cases hlt : k < n
    · obtain ⟨b, o, l, A1, c1, rfl, hl, hc, _, _, _, _, _⟩ := H.out.at hlt
      have hv : IntKind.i64.wrap ((k : Int) + 1) = (k : Int) + 1 := IntWalk.i64_in _ (by omega)
      have HZ := Lib.hid hl
      clear hl
      by_cases he : l.s < s
      · have HE := Lib.hid he
        go_wp2
        go_roundw
        case rel =>
          refine ⟨k + 1, by omega, by go_num, Lib.hid (fun j m hj hm => ?_), trivial⟩
          rcases Nat.lt_or_ge j k with h1 | h1
          · exact HS.out j m h1 hm
          · obtain rfl : j = k := by omega
            rw [HZ.out] at hm
            injection hm with hm
            subst hm
            exact HE.out
        case measure => simp [intOf]; omega
      · have HE := Lib.hid he
        go_wp2
        go_ret
        refine ⟨⟨k, rfl, by rw [HL.out]; exact hk, HS.out, fun m hm => ?_⟩, rfl⟩
        rw [HZ.out] at hm
        injection hm with hm
        subst hm
        have := HE.out
        omega
    · obtain rfl : k = n := by omega
      go_wp2
      go_ret
      exact ⟨⟨k, rfl, by rw [HL.out]; exact Nat.le_refl _, HS.out, fun m hm => by rw [List.getElem?_eq_none (by rw [HL.out]; exact Nat.le_refl _)] at hm; cases hm⟩, rfl⟩
set_option maxRecDepth 100000 in
/-- a result of one's own -/
theorem refResult_raw (w : World) {A : Option Addr} {n c B : Nat} {l : List Nat} (e N : Int) (hn : Lim 0 n) (h : Rd w B A n (bv l)) :
    Calls Tryz.prog 71 #[resV e A n c N] w (GotR w w e l N) := by
  have b0 : Below w.heap.size w ((w.alloc (.cells #[.int .i64 e, .slice A n c, .int .i64 N] 47)).alloc (.cells zeroR 47)) := ((Below.refl _ _).alloc (Nat.le_refl _) _).alloc (by simp) _
  have H := Lib.hid (h.fit.below b0)
  have HB := Lib.hid b0
  have HK1 := Lib.hid ((Blk.new w 47 #[.int .i64 e, .slice A n c, .int .i64 N]).alloc (.cells zeroR 47))
  have HK2 := Lib.hid (Blk.new (w.alloc (.cells #[.int .i64 e, .slice A n c, .int .i64 N] 47)) 47 zeroR)
  rw [World.size_alloc] at HK2
  clear h b0
  unfold resV
  go_enter Tryz.func71, Tryz.ntmps71
  go_wp2_with fail
  refine (ownref_any (W := w) hn H.out HB.out).mono ?_
  rintro en w1 ⟨A1, c1, rfl, ho1, hB1, hb1⟩
  have HK1 := Lib.hid (HK1.out.below hb1)
  have HK2 := Lib.hid (HK2.out.below hb1)
  have HO := Lib.hid ho1
  have HB1 := Lib.hid hB1
  clear ho1 hB1 hb1 H HB
  obtain ⟨x0, x1, x2, f0, f1, f2⟩ := three HK1.out
  obtain ⟨y0, y1, y2, g0, g1, g2⟩ := three HK2.out
  go_wp2_with fail
  have HK2b : Blk (w1.setCell ⟨w.heap.size, 1, none⟩ (.slice A1 l.length c1)) (w.heap.size + 1) 47 zeroR := HK2.out.set_other (by omega)
  obtain ⟨k1, k2, k3⟩ := put3 HK2b (.int .i64 e) (.slice A1 l.length c1) (.int .i64 N)
  refine bodyPost_ret (results_cell_row rfl _ _ _ _ _ _ _ rfl k1 Tryz.underlying47 rfl (by kernel_rfl)) rfl ?_
  have h1 : Below w.heap.size w (w1.setCell ⟨w.heap.size, 1, none⟩ (.slice A1 l.length c1)) := HB1.out.setCell (p := ⟨w.heap.size, 1, none⟩) (Nat.le_refl _) _
  have h2 := k2 w (by omega) h1
  exact ⟨A1, c1, rfl, k3 _ _ _ _ _ _ (own_set_t HO.out HK1.out (by decide)) (by decide), h2, h2⟩
theorem refResult_any {W w : World} {A : Option Addr} {n c B : Nat} {l : List Nat} (e N : Int) (hn : Lim 0 n) (h : Rd w B A n (bv l)) (hB : Below W.heap.size W w) :
    Calls Tryz.prog 71 #[resV e A n c N] w (GotR W w e l N) :=
  (refResult_raw w e N hn h).mono fun en w' ⟨A', c', h1, h2, h3, h4⟩ => ⟨A', c', h1, own_moreL hB.size h2, hB.trans (h3.mono hB.size), h4⟩
theorem Rd.lastAt (w : World) (A : Option Addr) (c : Nat) (l : Ls) (t : TypeId) {g : Nat} (hg : w.heap.size = g) : Rd (w.alloc (.cells #[.int .i64 l.s, .int .i64 l.q, .int .i64 l.e, .slice A l.v.length c, .int .i64 l.n] t)) (g + 1) (some ⟨g, 0, none⟩) (1 * 5) (lastC A c l) := by
  subst hg; exact Rd.made w #[.int .i64 l.s, .int .i64 l.q, .int .i64 l.e, .slice A l.v.length c, .int .i64 l.n] t (0, 0) 5 rfl
theorem lastC_one (A : Option Addr) (c : Nat) (l : Ls) : ∀ u ∈ lastC A c l, u.oneCell' = true := by
  intro u hu
  unfold lastC at hu
  simp at hu
  rcases hu with rfl | rfl | rfl | rfl | rfl <;> rfl
set_option maxHeartbeats 2000000 in
set_option maxRecDepth 100000 in
theorem refTable_raw (ls : List Ls) (A : Option Addr) (n c B : Nat) (hn : n ≤ 100000) (hL : LimLs ls) (w : World) (hr : RdL w B A n ls) :
    Calls Tryz.prog 57 #[.slice A n c] w (GotL w w ls) := by
  have HL := Lib.hid hL
  have HR := Lib.hid hr.fit
  have hlen := hr.length
  clear hr hL
  go_enter Tryz.func57, Tryz.ntmps57
  go_wp2_with fail
  go_loopw [3, 4] (fun s3 s4 wr => ∃ (k c' : Nat) (A' : Option Addr), k ≤ n ∧ s4 = .int .i64 (k : Int) ∧ s3 = .slice A' k c' ∧ Hid (OwnL w wr A' k c' (ls.take k)) ∧ Hid (Below w.heap.size w wr)) (fun _ s4 _ => n - (intOf s4).toNat)
  case atStart => exact ⟨0, 0, none, Nat.zero_le _, rfl, rfl, Lib.hid (by simpa using OwnL.nil w w), Lib.hid (Below.refl _ _)⟩
  case round =>
    obtain ⟨k, c', A', hk, rfl, rfl, HO, HB⟩ := hrel
    by_cases hlt : k < n
    · obtain ⟨b, o, l, A1, c1, rfl, hl, y0, y1, y2, y3, y4, hrd⟩ := ((HR.out.below HB.out).fit).at hlt
      have hl1 : Lim 0 l.v.length := HL.out l (List.mem_of_getElem? hl)
      have hblt := World.block_lt_of_cell? _ _ y0
      have HC : Hid (∀ wx, Below wr.heap.size wr wx → wx.cell? ⟨b, o + k * 5, none⟩ = some (.int .i64 l.s) ∧ wx.cell? ⟨b, o + k * 5 + 1, none⟩ = some (.int .i64 l.q) ∧ wx.cell? ⟨b, o + k * 5 + 2, none⟩ = some (.int .i64 l.e) ∧ wx.cell? ⟨b, o + k * 5 + 3, none⟩ = some (.slice A1 l.v.length c1) ∧ wx.cell? ⟨b, o + k * 5 + 4, none⟩ = some (.int .i64 l.n)) := Lib.hid (fun wx hb =>
        ⟨(hb.cell (p := ⟨b, o + k * 5, none⟩) hblt).trans y0, (hb.cell (p := ⟨b, o + k * 5 + 1, none⟩) hblt).trans y1, (hb.cell (p := ⟨b, o + k * 5 + 2, none⟩) hblt).trans y2, (hb.cell (p := ⟨b, o + k * 5 + 3, none⟩) hblt).trans y3, (hb.cell (p := ⟨b, o + k * 5 + 4, none⟩) hblt).trans y4⟩)
      have HRD := Lib.hid hrd
      have HP := Lib.hid hl
      clear hrd hl y0 y1 y2 y3 y4
      go_upto_region 5 with fail
      have hc0 := HC.out wr.drew (Below.refl _ _).drew
      obtain ⟨z0, z1, z2, z3, z4⟩ := hc0
      go_region_law (first
        | (refine step_append_S (W := w) cellL (.tmp 11) (.tmp 29) rfl rfl (by rfl) (ownsRow_below hv1 ((Below.refl _ _).alloc (Nat.le_refl _) _)) (by rfl) (Rd.lastAt _ A4 c4 l _ rfl) (lastC_one _ _ _) (by omega) (by omega) (hB1.alloc hB1.size _) ?_
           intro A3 c3 w3 hown3 hB3 hg3)
        | (rw [if_pos (by kernel_rfl)]; go_simp; go_at_call 71; refine (refResult_any (W := w) _ _ hl1 HRD.out.drew HB.out.drew).mono ?_; rintro e w1 ⟨A4, c4, rfl, ho1, hB1, hb1⟩; obtain ⟨vs, hv1, hv2⟩ := (HO.out.below (Below.refl _ _).drew).below hb1; obtain ⟨z0, z1, z2, z3, z4⟩ := HC.out w1 ((Below.refl _ _).drew.trans hb1); unfold resV; go_simp))
      all_goals go_wp2_with fail
      all_goals go_roundw
      all_goals first
        | (simp only [intOf]; omega)
        | (refine ⟨k + 1, c3, A3, by omega, by go_num, rfl, Lib.hid ?_, Lib.hid hB3⟩
           have b1 : Below w1.heap.size w1 (w1.alloc (.cells #[.int .i64 l.s, .int .i64 l.q, .int .i64 l.e, .slice A4 l.v.length c4, .int .i64 l.n] 57)) := (Below.refl _ _).alloc (Nat.le_refl _) _
           refine ⟨vs ++ lastC A4 c4 l, hown3, ?_⟩
           rw [List.take_add_one, HP.out]
           exact ((hv2.snoc ho1).below b1).grown (by decide) (ownsRow_below hv1 b1) hg3)
    · obtain rfl : k = n := by omega
      go_wp2_with fail
      go_ret
      have HO2 := HO.out
      rw [List.take_of_length_le (by omega)] at HO2
      subst hlen
      exact ⟨A', c', rfl, HO2, HB.out, HB.out⟩
theorem refTable_any {W w : World} {ls : List Ls} {A : Option Addr} {n c B : Nat} (hn : n ≤ 100000) (hL : LimLs ls) (hr : RdL w B A n ls) (hB : Below W.heap.size W w) :
    Calls Tryz.prog 57 #[.slice A n c] w (GotL W w ls) :=
  (refTable_raw ls A n c B hn hL w hr).mono fun e w' h => GotL.of hB h
end Go.Proofs.YtaknfmionkkdjaaGreat

