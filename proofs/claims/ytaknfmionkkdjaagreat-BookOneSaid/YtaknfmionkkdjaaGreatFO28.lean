/- EntKit -/
import Derived.Test.YtaknfmionkkdjaaGreatFO05
import Derived.Test.YtaknfmionkkdjaaGreatFO15
import Derived.Test.YtaknfmionkkdjaaGreatFO20
import Derived.Test.YtaknfmionkkdjaaGreatFO21
import Derived.Test.YtaknfmionkkdjaaGreatFO26
import Derived.Deep.RegionHeld3
import Derived.Deep.RegionLaw
namespace Go.Proofs.YtaknfmionkkdjaaGreat
open Go.RowKit
set_option linter.unusedVariables false
/-- an entry's seven cells -/
def entL (a : CA) (e : En) : List Value := [.int .i64 e.s, .int .i64 e.q, .int .i64 e.c.kind, .int .i64 e.c.who, .slice a.Ak e.c.key.length a.ck, .slice a.Av e.c.val.length a.cv, .slice a.Ao e.c.old.length a.co]
theorem entL_length (a : CA) (e : En) : (entL a e).length = 7 := rfl
theorem entL_one (a : CA) (e : En) : ∀ u ∈ entL a e, u.oneCell' = true := by
  intro u hu
  unfold entL at hu
  simp only [List.mem_cons, List.not_mem_nil, or_false] at hu
  rcases hu with rfl | rfl | rfl | rfl | rfl | rfl | rfl <;> rfl
theorem Rd.entAt (w : World) (a : CA) (e : En) (t : TypeId) {g : Nat} (hg : w.heap.size = g) : Rd (w.alloc (.cells #[.int .i64 e.s, .int .i64 e.q, .int .i64 e.c.kind, .int .i64 e.c.who, .slice a.Ak e.c.key.length a.ck, .slice a.Av e.c.val.length a.cv, .slice a.Ao e.c.old.length a.co] t)) (g + 1) (some ⟨g, 0, none⟩) (1 * 7) (entL a e) := by
  subst hg; exact Rd.made w #[.int .i64 e.s, .int .i64 e.q, .int .i64 e.c.kind, .int .i64 e.c.who, .slice a.Ak e.c.key.length a.ck, .slice a.Av e.c.val.length a.cv, .slice a.Ao e.c.old.length a.co] t (0, 0) 7 rfl
/-- the cells vs, seven a piece, read as the entries es; each one's rows fulfil R -/
structure CellsE (R : CA → Cm → Prop) (vs : List Value) (es : List En) : Prop where
  len : vs.length = es.length * 7
  cell : ∀ (i : Nat) (e : En), es[i]? = some e → ∃ a, (∀ j v, (entL a e)[j]? = some v → vs[i * 7 + j]? = some v) ∧ R a e.c
section
variable {R R' : CA → Cm → Prop} {vs ws : List Value} {es ds : List En}
theorem CellsE.imp (h : CellsE R vs es) (hR : ∀ a c, R a c → R' a c) : CellsE R' vs es :=
  ⟨h.len, fun i e he => by obtain ⟨a, h1, h2⟩ := h.cell i e he; exact ⟨a, h1, hR _ _ h2⟩⟩
theorem CellsE.nil : CellsE R [] [] := ⟨rfl, fun i e h => by simp at h⟩
theorem CellsE.one {a : CA} {e : En} (h : R a e.c) : CellsE R (entL a e) [e] :=
  ⟨rfl, fun i e' he => by
    cases i with
    | zero => simp at he; subst he; exact ⟨a, fun j v hv => by simpa using hv, h⟩
    | succ i => simp at he⟩
theorem entL_lt {a : CA} {e : En} {j : Nat} {v : Value} (h : (entL a e)[j]? = some v) : j < 7 := by
  rcases Nat.lt_or_ge j 7 with h' | h'
  · exact h'
  · rw [List.getElem?_eq_none (by rw [entL_length]; exact h')] at h; cases h
theorem CellsE.append (h : CellsE R vs es) (h' : CellsE R ws ds) : CellsE R (vs ++ ws) (es ++ ds) := by
  refine ⟨by rw [List.length_append, List.length_append, h.len, h'.len, Nat.add_mul], fun i e he => ?_⟩
  by_cases hi : i < es.length
  · rw [List.getElem?_append_left hi] at he
    obtain ⟨a, h1, h2⟩ := h.cell i e he
    refine ⟨a, fun j v hv => ?_, h2⟩
    have hj := entL_lt hv
    rw [List.getElem?_append_left (by rw [h.len]; omega)]
    exact h1 j v hv
  · rw [List.getElem?_append_right (by omega)] at he
    obtain ⟨a, h1, h2⟩ := h'.cell _ e he
    refine ⟨a, fun j v hv => ?_, h2⟩
    rw [List.getElem?_append_right (by rw [h.len]; omega), h.len, show i * 7 + j - es.length * 7 = (i - es.length) * 7 + j by omega]
    exact h1 j v hv
theorem CellsE.take (h : CellsE R vs es) (k : Nat) : CellsE R (vs.take (k * 7)) (es.take k) := by
  refine ⟨by rw [List.length_take, List.length_take, h.len]; omega, fun i e he => ?_⟩
  have hi : i < k := by
    rcases Nat.lt_or_ge i k with h' | h'
    · exact h'
    · rw [List.getElem?_take_eq_none h'] at he; cases he
  rw [List.getElem?_take_of_lt hi] at he
  obtain ⟨a, h1, h2⟩ := h.cell _ e he
  refine ⟨a, fun j v hv => ?_, h2⟩
  have hj := entL_lt hv
  rw [List.getElem?_take_of_lt (by omega)]
  exact h1 j v hv
end
/-- a row of entries -/
def RdE (w : World) (B : Nat) (A : Option Addr) (n : Nat) (es : List En) : Prop := ∃ vs, Rd w B A (n * 7) vs ∧ CellsE (fun a c => RdC w B a c) vs es
section
variable {w w' : World} {B n k : Nat} {A : Option Addr} {es : List En}
theorem RdE.below (h : RdE w B A n es) (hb : Below B w w') : RdE w' B A n es := by obtain ⟨vs, h1, h2⟩ := h; exact ⟨vs, h1.below hb, h2.imp fun _ _ h => h.below hb⟩
theorem RdE.fit (h : RdE w B A n es) : RdE w w.heap.size A n es := by obtain ⟨vs, h1, h2⟩ := h; exact ⟨vs, h1.fit, h2.imp fun _ _ h => h.fit⟩
theorem RdE.length (h : RdE w B A n es) : es.length = n := by
  obtain ⟨vs, h1, h2⟩ := h
  have := h2.len
  rw [h1.1] at this
  omega
/-- one entry of it -/
theorem RdE.at (h : RdE w B A n es) (hk : k < n) : ∃ b o e a, A = some ⟨b, o, none⟩ ∧ es[k]? = some e ∧
    (w.cell? ⟨b, o + k * 7, none⟩ = some (.int .i64 e.s) ∧ w.cell? ⟨b, o + k * 7 + 1, none⟩ = some (.int .i64 e.q) ∧ w.cell? ⟨b, o + k * 7 + 2, none⟩ = some (.int .i64 e.c.kind) ∧
    w.cell? ⟨b, o + k * 7 + 3, none⟩ = some (.int .i64 e.c.who) ∧ w.cell? ⟨b, o + k * 7 + 4, none⟩ = some (.slice a.Ak e.c.key.length a.ck) ∧ w.cell? ⟨b, o + k * 7 + 5, none⟩ = some (.slice a.Av e.c.val.length a.cv) ∧ w.cell? ⟨b, o + k * 7 + 6, none⟩ = some (.slice a.Ao e.c.old.length a.co)) ∧ RdC w B a e.c := by
  have hlen := h.length
  obtain ⟨vs, h1, h2⟩ := h
  obtain ⟨b, o, e1, _, hc⟩ := h1.2 (by omega)
  obtain ⟨e, he⟩ : ∃ e, es[k]? = some e := ⟨_, List.getElem?_eq_getElem (by omega)⟩
  obtain ⟨a, e2, r1⟩ := h2.cell k e he
  have hh : ∀ j v, (entL a e)[j]? = some v → w.cell? ⟨b, o + k * 7 + j, none⟩ = some v := fun j v hv => by
    have hj := entL_lt hv
    rw [Nat.add_assoc, hc _ (by omega), e2 j v hv]
  exact ⟨b, o, e, a, e1, he, ⟨hh 0 _ rfl, hh 1 _ rfl, hh 2 _ rfl, hh 3 _ rfl, hh 4 _ rfl, hh 5 _ rfl, hh 6 _ rfl⟩, r1⟩
end
section
variable {P : Program} {t e : TypeId} {z : Value} {size bytes : Nat}
end
theorem cellE : CellS Tryz.prog 50 40 (.agg #[.int .i64 0, .int .i64 0, .int .i64 0, .int .i64 0, .slice none 0 0, .slice none 0 0, .slice none 0 0]) 7 104 := ⟨Tryz.underlying50, by kernel_rfl, rfl, by omega⟩
end Go.Proofs.YtaknfmionkkdjaaGreat

