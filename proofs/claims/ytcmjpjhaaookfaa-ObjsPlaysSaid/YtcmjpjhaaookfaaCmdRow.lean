/- A row of commands that came in. -/
import Derived.Test.YtcmjpjhaaookfaaObjKit
import Derived.Deep.Slices
namespace Go.Proofs.Ytcmjpjhaaookfaa
open Go.RowKit
set_option linter.unusedVariables false
/-- bytes in each of a command's rows -/
structure Cm.Bytes (c : Cm) : Prop where
  key : ∀ x ∈ c.key, x < 256
  val : ∀ x ∈ c.val, x < 256
  old : ∀ x ∈ c.old, x < 256
/-- a row of commands that reads -/
def RdCs (w : World) (B : Nat) (A : Option Addr) (n : Nat) (cs : List Cm) : Prop :=
  cs.length = n ∧ ∀ k c, cs[k]? = some c → ∃ b o ca, A = some ⟨b, o, none⟩ ∧ b < B ∧ (∀ i v, (cmdC ca c)[i]? = some v → w.cell? ⟨b, o + k * 5 + i, none⟩ = some v) ∧ RdC w B ca c ∧ c.Bytes
theorem RdCs.below {w w' : World} {B n : Nat} {A : Option Addr} {cs : List Cm} (h : RdCs w B A n cs) (hb : Below B w w') : RdCs w' B A n cs :=
  ⟨h.1, fun k c hc => by
    obtain ⟨b, o, ca, e, hlt, h1, h2, h3⟩ := h.2 k c hc
    exact ⟨b, o, ca, e, hlt, fun i v hv => (hb.cell (p := ⟨b, o + k * 5 + i, none⟩) hlt).trans (h1 i v hv), h2.below hb, h3⟩⟩
theorem RdCs.fit {w : World} {B n : Nat} {A : Option Addr} {cs : List Cm} (h : RdCs w B A n cs) : RdCs w w.heap.size A n cs :=
  ⟨h.1, fun k c hc => by
    obtain ⟨b, o, ca, e, hlt, h1, h2, h3⟩ := h.2 k c hc
    have h0 := h1 0 _ rfl
    exact ⟨b, o, ca, e, World.block_lt_of_cell? _ _ h0, h1, h2.fit, h3⟩⟩
/-- one command of it -/
theorem RdCs.at {w : World} {B n k : Nat} {A : Option Addr} {cs : List Cm} (h : RdCs w B A n cs) (hk : k < n) : ∃ b o ca c, A = some ⟨b, o, none⟩ ∧ cs[k]? = some c ∧
    w.cell? ⟨b, o + k * 5, none⟩ = some (.int .i64 c.kind) ∧ w.cell? ⟨b, o + k * 5 + 1, none⟩ = some (.int .i64 c.who) ∧ w.cell? ⟨b, o + k * 5 + 2, none⟩ = some (.slice ca.Ak c.key.length ca.ck) ∧
    w.cell? ⟨b, o + k * 5 + 3, none⟩ = some (.slice ca.Av c.val.length ca.cv) ∧ w.cell? ⟨b, o + k * 5 + 4, none⟩ = some (.slice ca.Ao c.old.length ca.co) ∧ RdC w B ca c ∧ c.Bytes := by
  obtain ⟨c, hc⟩ : ∃ c, cs[k]? = some c := ⟨_, List.getElem?_eq_getElem (by have := h.1; omega)⟩
  obtain ⟨b, o, ca, e, _, h1, h2, h3⟩ := h.2 k c hc
  exact ⟨b, o, ca, c, e, hc, h1 0 _ rfl, h1 1 _ rfl, h1 2 _ rfl, h1 3 _ rfl, h1 4 _ rfl, h2, h3⟩
/-- what a proof's frame tells of it -/
def IsRowC (w : World) (a : Option Addr) (len cap : Nat) (cs : List Cm) : Prop := RdCs w w.heap.size a len cs ∧ len ≤ cap ∧ cap ≤ maxLen
open Go.ChangeShapes Go.WideShapes Go.ChangeAt in
theorem cell_row {H : Type} {enc : TypeId × Value → H} {P : Program} {w : World} {t q : TypeId} {n : Nat} {v : Value} {y : DataW H × List MemPlace} (ht : P.underlying t = some (.slice q)) (hq : P.underlying q = some (.int .u8)) (cq : P.cellsOf q = 1)
    (h : DataW.trod enc P w 0 (fun _ => true) true n t [v] = some y) : ∃ (a : Option Addr) (c : Nat) (l : List Nat), v = .slice a l.length c ∧ (∀ x ∈ l, x < 256) ∧ Rd w w.heap.size a l.length (bv l) := by
  have hrow : ∃ a len cap zs, v = .slice a len cap ∧ IsRow .u8 w a len cap zs := by
    rcases open_ints ht hq cq h with ⟨hcs, _⟩ | ⟨x, l, c, zs, hcs, _, hl, hm, hz, _, hcell, hwz⟩
    · simp at hcs
      subst hcs
      exact ⟨none, 0, 0, [], rfl, .inl ⟨rfl, rfl, rfl, rfl⟩⟩
    · simp at hcs
      subst hcs
      exact ⟨some x, l, c, zs, rfl, .inr ⟨_, rfl, hl, hm, by simpa using hz, hcell, hwz⟩⟩
  obtain ⟨a, len, cap, zs, rfl, hr⟩ := hrow
  obtain ⟨l, h1, h2, _⟩ := hr.rd
  obtain rfl := h2.length
  exact ⟨a, cap, l, rfl, h1, h2⟩
open Go.ChangeShapes Go.WideShapes Go.ChangeAt in
theorem cell_int {H : Type} {enc : TypeId × Value → H} {P : Program} {w : World} {t : TypeId} {n : Nat} {v : Value} {y : DataW H × List MemPlace} (ht : P.underlying t = some (.int .i64))
    (h : DataW.trod enc P w 0 (fun _ => true) true n t [v] = some y) : ∃ z, v = .int .i64 z := by
  obtain ⟨z, h1, _⟩ := DataW.trod_int ht h
  simp at h1
  exact ⟨z, h1⟩
theorem list5 {α : Type} {l : List α} (h : l.length = 5) : ∃ a b c d e, l = [a, b, c, d, e] := by
  match l, h with
  | [a, b, c, d, e], _ => exact ⟨a, b, c, d, e, rfl⟩
open Go.ChangeShapes Go.WideShapes Go.ChangeAt in
theorem isRowC_of {H : Type} {enc : TypeId × Value → H} {P : Program} {w : World} {t e q : TypeId} {f0 f1 f2 f3 f4 : Field} {d : DataW H} {ps : List MemPlace} {a : Option Addr} {len cap : Nat} (ht : P.underlying t = some (.slice e)) (he : P.underlying e = some (.struct #[f0, f1, f2, f3, f4]))
    (ce : P.cellsOf e = 5) (o0 : f0.offset = 0) (o1 : f1.offset = 1) (o2 : f2.offset = 2) (o3 : f3.offset = 3) (o4 : f4.offset = 4)
    (c0 : P.cellsOf f0.type = 1) (c1 : P.cellsOf f1.type = 1) (c2 : P.cellsOf f2.type = 1) (c3 : P.cellsOf f3.type = 1) (c4 : P.cellsOf f4.type = 1)
    (h0 : P.underlying f0.type = some (.int .i64)) (h1 : P.underlying f1.type = some (.int .i64)) (h2 : P.underlying f2.type = some (.slice q)) (h3 : P.underlying f3.type = some (.slice q)) (h4 : P.underlying f4.type = some (.slice q))
    (hq : P.underlying q = some (.int .u8)) (cq : P.cellsOf q = 1) (h : DataW.Trod enc P w 0 (fun _ => true) true t (.slice a len cap) d ps) : ∃ cs, IsRowC w a len cap cs := by
  obtain ⟨fuel, hf⟩ := h
  rcases Go.Deep.open_slice ht hf with ⟨hcs, _⟩ | ⟨x, l, c, m, n, D, Pl, hcs, _, hl, hm, hmm, _, hx⟩
  · simp [Value.cells] at hcs
    obtain ⟨rfl, rfl, rfl⟩ := hcs
    exact ⟨[], ⟨rfl, fun k c hc => by simp at hc⟩, Nat.le_refl _, by decide⟩
  · simp [Value.cells] at hcs
    obtain ⟨rfl, rfl, rfl⟩ := hcs
    simp only [if_true] at hmm
    subst hmm
    have each : ∀ r, ∃ p : Cm × CA, r < m → (∀ i v, (cmdC p.2 p.1)[i]? = some v → w.cell? ((x.add (r * 5)).add i) = some v) ∧ RdC w w.heap.size p.2 p.1 ∧ p.1.Bytes := by
      intro r
      by_cases hr : r < m
      · obtain ⟨cs', g1, g2⟩ := hx r hr
        rw [ce] at g1
        obtain ⟨_, hlen, hcell⟩ := World.cells?_some g1
        obtain ⟨xs, k, _, _, _, hxl, hfd⟩ := DataW.trod_struct he g2
        obtain ⟨v0, v1, v2, v3, v4, rfl⟩ := list5 hlen
        obtain ⟨y0, y1, y2, y3, y4, rfl⟩ := list5 (l := xs) (by simpa using hxl)
        have e0 := hfd 0 f0 rfl
        have e1 := hfd 1 f1 rfl
        have e2 := hfd 2 f2 rfl
        have e3 := hfd 3 f3 rfl
        have e4 := hfd 4 f4 rfl
        rw [o0, c0] at e0
        rw [o1, c1] at e1
        rw [o2, c2] at e2
        rw [o3, c3] at e3
        rw [o4, c4] at e4
        obtain ⟨z0, rfl⟩ := cell_int h0 (v := v0) (y := y0) e0
        obtain ⟨z1, rfl⟩ := cell_int h1 (v := v1) (y := y1) e1
        obtain ⟨A2, k2, l2, rfl, b2, r2⟩ := cell_row h2 hq cq (v := v2) (y := y2) e2
        obtain ⟨A3, k3, l3, rfl, b3, r3⟩ := cell_row h3 hq cq (v := v3) (y := y3) e3
        obtain ⟨A4, k4, l4, rfl, b4, r4⟩ := cell_row h4 hq cq (v := v4) (y := y4) e4
        refine ⟨(⟨z0, z1, l2, l3, l4⟩, ⟨A2, k2, A3, k3, A4, k4⟩), fun _ => ⟨fun i v hv => ?_, ⟨r2, r3, r4⟩, ⟨b2, b3, b4⟩⟩⟩
        have hi : i < 5 := by
          rcases Nat.lt_or_ge i 5 with h' | h'
          · exact h'
          · rw [Array.getElem?_eq_none (by simpa [cmdC] using h')] at hv; cases hv
        rw [hcell i hi]
        rw [← hv]
        simp [cmdC]
      · exact ⟨(⟨0, 0, [], [], []⟩, ⟨none, 0, none, 0, none, 0⟩), fun h => absurd h hr⟩
    obtain ⟨f, hff⟩ := Classical.axiomOfChoice each
    refine ⟨(List.range len).map fun r => (f r).1, ⟨by simp, fun k c hc => ?_⟩, hl, hm⟩
    rw [List.getElem?_map] at hc
    by_cases hk : k < len
    · rw [List.getElem?_range hk] at hc
      simp at hc
      subst hc
      obtain ⟨g1, g2, g3⟩ := hff k (by omega)
      obtain ⟨b, o, s⟩ := x
      have g0 := g1 0 _ rfl
      have hs : s = none := by
        have := World.cell?_spot ((hff 0 (by omega)).1 0 _ rfl)
        simpa [Addr.add] using this
      subst hs
      have ea : ∀ i, ((⟨b, o, none⟩ : Addr).add (k * 5)).add i = ⟨b, o + k * 5 + i, none⟩ := fun i => by rw [Go.Deep.add_add]; unfold Addr.add; split <;> simp_all <;> omega
      refine ⟨b, o, (f k).2, rfl, ?_, fun i v hv => ?_, g2, g3⟩
      · rw [ea] at g0
        exact World.block_lt_of_cell? _ _ g0
      · rw [← ea]; exact g1 i v hv
    · rw [List.getElem?_eq_none (by simpa using hk)] at hc; simp at hc
/-- a proof's frame of this program -/
theorem isRowC {H : Type} {enc : TypeId × Value → H} {w : World} {d : DataW H} {ps : List MemPlace} {a : Option Addr} {len cap : Nat} (h : DataW.Trod enc Try.prog w 0 (fun _ => true) true 45 (.slice a len cap) d ps) : ∃ cs, IsRowC w a len cap cs :=
  isRowC_of (q := 5) Try.underlying45 Try.underlying24 (by kernel_rfl) rfl rfl rfl rfl rfl (by kernel_rfl) (by kernel_rfl) (by kernel_rfl) (by kernel_rfl) (by kernel_rfl) Try.underlying3 Try.underlying3 Try.underlying22 Try.underlying22 Try.underlying22 Try.underlying5 (by kernel_rfl) h
end Go.Proofs.Ytcmjpjhaaookfaa
