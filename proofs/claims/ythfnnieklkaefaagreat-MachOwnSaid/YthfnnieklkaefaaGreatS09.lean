/- SoftKit ObjsOwnKit MachOwnKit MachBytes MachBytes2 MachC0 OnlyKit MachAwake MachRef MachEntry -/
import Derived.Test.YthfnnieklkaefaaGreatS01
import Derived.Test.YthfnnieklkaefaaGreatS02
import Derived.Test.YthfnnieklkaefaaGreatS03
import Derived.Test.YthfnnieklkaefaaGreatS05
import Derived.Test.YthfnnieklkaefaaGreatS06
import Derived.Test.YthfnnieklkaefaaGreatS08
import Derived.Deep.DeepCutAuto
import Derived.Deep.RegionHeld3
namespace Go.Proofs.YthfnnieklkaefaaGreat
open Go.RowKit
set_option linter.unusedVariables false
/-- a byte and one more -/
theorem up8 (x : Int) (h0 : 0 ≤ x) (h1 : x < 256) : IntKind.u8.wrap (x + 1) = (x + 1) % 256 := by
  simp [IntKind.wrap, IntKind.bits, IntKind.signed]
/-- a block of bytes from base on, of at least m -/
def Bytes8 (w : World) (base g m : Nat) : Prop := base ≤ g ∧ ∃ cur, Blk w g 5 cur ∧ ∀ j, j < m → ∃ x : Int, 0 ≤ x ∧ x < 256 ∧ cur[j]? = some (.int .u8 x)
theorem Bytes8.set_ {w : World} {base g m g' i : Nat} {x : Int} (h : Bytes8 w base g m) (h0 : 0 ≤ x) (h1 : x < 256) : Bytes8 (w.setCell ⟨g', i, none⟩ (.int .u8 x)) base g m := by
  obtain ⟨hb, cur, hk, hc⟩ := h
  by_cases he : g' = g
  · subst he
    refine ⟨hb, _, hk.set_ i _, fun j hj => ?_⟩
    obtain ⟨y, y0, y1, hy⟩ := hc j hj
    rw [Array.getElem?_setIfInBounds]
    by_cases hij : i = j
    · subst hij
      have hlt : i < cur.size := by
        rcases Nat.lt_or_ge i cur.size with h | h
        · exact h
        · rw [Array.getElem?_eq_none h] at hy; cases hy
      exact ⟨x, h0, h1, by simp [hlt]⟩
    · exact ⟨y, y0, y1, by simp [hij, hy]⟩
  · exact ⟨hb, cur, hk.set_other (fun e => he e.symm), hc⟩
/-- the slices vs lie in blocks of bytes from base on -/
def Soft (w : World) (base : Nat) (vs : List Value) : Prop := ∀ v ∈ vs, ∃ A m c, v = .slice A m c ∧ (0 < m → ∃ g, A = some ⟨g, 0, none⟩ ∧ Bytes8 w base g m)
theorem Soft.set_ {w : World} {base g i : Nat} {vs : List Value} {x : Int} (h : Soft w base vs) (h0 : 0 ≤ x) (h1 : x < 256) : Soft (w.setCell ⟨g, i, none⟩ (.int .u8 x)) base vs := by
  intro v hv
  obtain ⟨A, m, c, e, hm⟩ := h v hv
  exact ⟨A, m, c, e, fun h => by obtain ⟨g', e', hb⟩ := hm h; exact ⟨g', e', hb.set_ h0 h1⟩⟩
theorem soft_own {W w : World} {A : Option Addr} {m c : Nat} {l : List Nat} (h : OwnB W w A m c l) (hby : ∀ x ∈ l, x < 256) : 0 < m → ∃ g, A = some ⟨g, 0, none⟩ ∧ Bytes8 w W.heap.size g m := by
  intro hm
  have hl := own_len h
  obtain ⟨g, rfl, hg1, hg2⟩ := own_addr h hm
  rcases own_blk h with ⟨h1, _⟩ | ⟨g', cur, h1, _, hk⟩
  · cases h1
  · injection h1 with h1; injection h1 with h1; subst h1
    refine ⟨g, rfl, hg1, cur, hk, fun j hj => ?_⟩
    have hc := own_byte h hj
    rw [hk.cell] at hc
    refine ⟨_, by omega, ?_, hc⟩
    have h3 : l.getD j 0 < 256 := by
      rw [List.getD_eq_getElem?_getD, List.getElem?_eq_getElem (by omega)]
      exact hby _ (List.getElem_mem _)
    omega
theorem Owns.soft {W w : World} {vs : List Value} {qs : List (List Nat)} (h : Owns W w vs qs) (hby : BytesL qs) : Soft w W.heap.size vs := by
  intro v hv
  obtain ⟨i, hi, e⟩ := List.getElem_of_mem hv
  have hi2 : i < qs.length := by rw [← h.len]; exact hi
  obtain ⟨A, c, e2, ho⟩ := h.cell i qs[i] (List.getElem?_eq_getElem hi2)
  rw [List.getElem?_eq_getElem hi] at e2
  injection e2 with e2
  exact ⟨A, _, c, by rw [← e, e2], soft_own ho (hby _ (List.getElem_mem _))⟩
/-- what a walk asks of one byte -/
theorem Bytes8.at {w : World} {base g m j : Nat} (h : Bytes8 w base g m) (hj : j < m) : base ≤ g ∧ w.frozen? ⟨g, j, none⟩ = false ∧ ∃ x : Int, 0 ≤ x ∧ x < 256 ∧ w.cell? ⟨g, j, none⟩ = some (.int .u8 x) := by
  obtain ⟨hb, cur, hk, hc⟩ := h
  obtain ⟨x, h0, h1, e⟩ := hc j hj
  exact ⟨hb, hk.frozen j, x, h0, h1, (hk.cell j).trans e⟩
theorem Bytes8.apart {w : World} {base g m b : Nat} {t : TypeId} {cs : Array Value} (h : Bytes8 w base g m) (hb : Blk w b t cs) (hne : 5 ≠ t) : g ≠ b := by
  obtain ⟨_, cur, hk, _⟩ := h
  exact hk.apart hb hne
theorem Bytes8.below {w w' : World} {base g m : Nat} (h : Bytes8 w base g m) (hb : Below w.heap.size w w') : Bytes8 w' base g m := by
  obtain ⟨h1, cur, hk, hc⟩ := h
  exact ⟨h1, cur, hk.below hb, hc⟩
/-- three stores into a block of a result -/
theorem Bytes8.set_t {w : World} {base g m b i : Nat} {t : TypeId} {cs : Array Value} {u : Value} (h : Bytes8 w base g m) (hb : Blk w b t cs) (hne : 5 ≠ t) : Bytes8 (w.setCell ⟨b, i, none⟩ u) base g m := by
  have := h.apart hb hne
  obtain ⟨h1, cur, hk, hc⟩ := h
  exact ⟨h1, cur, hk.set_other this, hc⟩
/-- the row of slices itself, over a byte that is turned -/
theorem own_set_b {w : World} {base size n base' g m i : Nat} {e : TypeId} {v u : Value} {xs : List Value} (h : w.ownsRow base e size v n xs) (hb : Bytes8 w base' g m) (hne : e ≠ 5) : (w.setCell ⟨g, i, none⟩ u).ownsRow base e size v n xs := by
  obtain ⟨_, cur, hk, _⟩ := hb
  exact own_set_t h hk hne
end Go.Proofs.YthfnnieklkaefaaGreat

namespace Go.Proofs.YthfnnieklkaefaaGreat
open Go.RowKit
set_option linter.unusedVariables false
section
variable {w wr : World} {g : Nat} {a a' d : OA} {s t r : Ob}
end
theorem Soft.set_t {w : World} {base b i : Nat} {t : TypeId} {cs : Array Value} {u : Value} {vs : List Value} (h : Soft w base vs) (hb : Blk w b t cs) (hne : 5 ≠ t) : Soft (w.setCell ⟨b, i, none⟩ u) base vs := by
  intro v hv
  obtain ⟨A, m, c, e, hm⟩ := h v hv
  exact ⟨A, m, c, e, fun h => by obtain ⟨g, e', hg⟩ := hm h; exact ⟨g, e', hg.set_t hb hne⟩⟩
section
variable {wc wr : World} {h : Nat} {d : OA} {n0 n1 n2 n3 : Nat} {vs us : List Value} {zs : List Int} {A : Option Addr} {m cc : Nat} {e N : Int}
end
theorem owns_lim {W w : World} {vs : List Value} {qs : List (List Nat)} (h : Owns W w vs qs) (hL : ∀ l ∈ qs, l.length ≤ 1000) : ∀ (A : Option Addr) (m c : Nat), Value.slice A m c ∈ vs → m ≤ 1000 := by
  intro A m c hm
  obtain ⟨i, hi, e⟩ := List.getElem_of_mem hm
  have hi2 : i < qs.length := by rw [← h.len]; exact hi
  obtain ⟨A', c', e2, _⟩ := h.cell i qs[i] (List.getElem?_eq_getElem hi2)
  rw [List.getElem?_eq_getElem hi, e] at e2
  injection e2 with e2
  injection e2 with _ e2
  have := hL qs[i] (List.getElem_mem _)
  omega
end Go.Proofs.YthfnnieklkaefaaGreat

namespace Go.Proofs.YthfnnieklkaefaaGreat
open Go.RowKit
set_option linter.unusedVariables false
/-- a table's cells: each call's bytes in a block of bytes from base on -/
def SoftT (w : World) (base n : Nat) (us : List Value) : Prop := ∀ j, j < n → ∃ A m c, us[j * 5 + 3]? = some (.slice A m c) ∧ m ≤ 1000 ∧ (0 < m → ∃ g, A = some ⟨g, 0, none⟩ ∧ Bytes8 w base g m)
/-- what a step answered, behind wc -/
structure Tm (wc wr : World) (ha hr : Nat) (A0 A1 A2 A3 At : Option Addr) (c0 c1 c2 c3 ct n0 n1 n2 n3 nt : Nat) (vs us : List Value) (A : Option Addr) (m cc : Nat) (e N : Int) : Prop where
  tb : Blk wr ha 37 #[.slice A0 n0 c0, .slice A1 n1 c1, .slice A2 n2 c2, .slice A3 n3 c3, .slice At nt ct]
  rb : Blk wr hr 40 #[.int .i64 e, .slice A m cc, .int .i64 N]
  qrow : wr.ownsRow wc.heap.size 24 1 (.slice A1 n1 c1) n1 vs
  qs : Soft wr wc.heap.size vs
  trow : wr.ownsRow wc.heap.size 54 5 (.slice At nt ct) nt us
  ts : SoftT wr wc.heap.size nt us
  val : 0 < m → ∃ g, A = some ⟨g, 0, none⟩ ∧ Bytes8 wr wc.heap.size g m
  bel : Below wc.heap.size wc wr
  len : n1 ≤ 8 ∧ nt ≤ 8 ∧ m ≤ 16
  ql : ∀ (A : Option Addr) (m c : Nat), Value.slice A m c ∈ vs → m ≤ 1000
section
variable {wc wr : World} {ha hr : Nat} {A0 A1 A2 A3 At : Option Addr} {c0 c1 c2 c3 ct n0 n1 n2 n3 nt : Nat} {vs us : List Value} {A : Option Addr} {m cc : Nat} {e N : Int}
/-- a byte is turned -/
theorem Tm.setb {g mm i : Nat} {x : Int} (H : Tm wc wr ha hr A0 A1 A2 A3 At c0 c1 c2 c3 ct n0 n1 n2 n3 nt vs us A m cc e N) (hb : Bytes8 wr wc.heap.size g mm) (h0 : 0 ≤ x) (h1 : x < 256) :
    Tm wc (wr.setCell ⟨g, i, none⟩ (.int .u8 x)) ha hr A0 A1 A2 A3 At c0 c1 c2 c3 ct n0 n1 n2 n3 nt vs us A m cc e N :=
  ⟨H.tb.set_other (fun e => hb.apart H.tb (by decide) e.symm), H.rb.set_other (fun e => hb.apart H.rb (by decide) e.symm), own_set_b H.qrow hb (by decide), H.qs.set_ h0 h1, own_set_b H.trow hb (by decide),
    fun j hj => (by obtain ⟨A', m', c', q1, q2, q3⟩ := H.ts j hj; exact ⟨A', m', c', q1, q2, fun hp => by obtain ⟨g', e', hg⟩ := q3 hp; exact ⟨g', e', hg.set_ h0 h1⟩⟩),
    fun hp => (by obtain ⟨g', e', hg⟩ := H.val hp; exact ⟨g', e', hg.set_ h0 h1⟩), H.bel.setCell hb.1 _, H.len, H.ql⟩
/-- one call of the table -/
theorem Tm.row {j : Nat} (H : Tm wc wr ha hr A0 A1 A2 A3 At c0 c1 c2 c3 ct n0 n1 n2 n3 nt vs us A m cc e N) (hj : j < nt) : ∃ g A9 m9 c9, At = some ⟨g, 0, none⟩ ∧ us[j * 5 + 3]? = some (.slice A9 m9 c9) ∧ m9 ≤ 1000 := by
  obtain ⟨g, e, _, _⟩ := own_addrS H.trow (by omega)
  obtain ⟨A9, m9, c9, q1, q2, _⟩ := H.ts j hj
  exact ⟨g, A9, m9, c9, e, q1, q2⟩
theorem Tm.cell3 {j g m9 c9' : Nat} {A9 : Option Addr} (H : Tm wc wr ha hr A0 A1 A2 A3 (some ⟨g, 0, none⟩) c0 c1 c2 c3 ct n0 n1 n2 n3 nt vs us A m cc e N) (hj : j < nt) (hu : us[j * 5 + 3]? = some (.slice A9 m9 c9')) : wr.cell? ⟨g, j * 5 + 3, none⟩ = some (.slice A9 m9 c9') :=
  (H.trow.cellAt (j * 5 + 3) (by omega)).trans hu
theorem Tm.cell1 {j g : Nat} (H : Tm wc wr ha hr A0 A1 A2 A3 (some ⟨g, 0, none⟩) c0 c1 c2 c3 ct n0 n1 n2 n3 nt vs us A m cc e N) (hj : j < nt) : (∃ v, wr.cell? ⟨g, j * 5 + 1, none⟩ = some v) ∧ wr.frozen? ⟨g, j * 5 + 1, none⟩ = false := by
  have hl := H.trow.1
  exact ⟨⟨_, (H.trow.cellAt (j * 5 + 1) (by omega)).trans (List.getElem?_eq_getElem (by omega))⟩, own_frozenS H.trow _⟩
/-- its number is turned -/
theorem Tm.seq {j g : Nat} {v : Value} (H : Tm wc wr ha hr A0 A1 A2 A3 (some ⟨g, 0, none⟩) c0 c1 c2 c3 ct n0 n1 n2 n3 nt vs us A m cc e N) (hj : j < nt) :
    Tm wc (wr.setCell ⟨g, j * 5 + 1, none⟩ v) ha hr A0 A1 A2 A3 (some ⟨g, 0, none⟩) c0 c1 c2 c3 ct n0 n1 n2 n3 nt vs (us.set (j * 5 + 1) v) A m cc e N := by
  have hrow := H.trow
  rcases own_blk hrow with ⟨q1, _⟩ | ⟨g', cur, q1, hg, hk⟩
  · cases q1
  · injection q1 with q1
    injection q1 with q1
    subst q1
    refine ⟨H.tb.set_other (fun e => hk.apart H.tb (by decide) e.symm), H.rb.set_other (fun e => hk.apart H.rb (by decide) e.symm), own_set_t H.qrow hk (by decide), H.qs.set_t hk (by decide), (hrow.stored (j * 5 + 1) v).1, fun i hi => ?_,
      fun hp => (by obtain ⟨g', e', hg'⟩ := H.val hp; exact ⟨g', e', hg'.set_t hk (by decide)⟩), H.bel.setCell hg _, H.len, H.ql⟩
    obtain ⟨A', m', c', q1, q2, q3⟩ := H.ts i hi
    refine ⟨A', m', c', ?_, q2, fun hp => (by obtain ⟨g', e', hg'⟩ := q3 hp; exact ⟨g', e', hg'.set_t hk (by decide)⟩)⟩
    rw [List.getElem?_set_ne (by omega)]
    exact q1
/-- a byte of it -/
theorem Tm.b3 {j l m9 c9' : Nat} {A9 : Option Addr} (H : Tm wc wr ha hr A0 A1 A2 A3 At c0 c1 c2 c3 ct n0 n1 n2 n3 nt vs us A m cc e N) (hj : j < nt) (hu : us[j * 5 + 3]? = some (.slice A9 m9 c9')) (hl : l < m9) :
    ∃ gb x, A9 = some ⟨gb, 0, none⟩ ∧ Bytes8 wr wc.heap.size gb m9 ∧ wr.frozen? ⟨gb, l, none⟩ = false ∧ (0 : Int) ≤ x ∧ x < 256 ∧ wr.cell? ⟨gb, l, none⟩ = some (.int .u8 x) := by
  obtain ⟨A', m', c', q1, q2, q3⟩ := H.ts j hj
  rw [hu] at q1
  injection q1 with q1
  injection q1 with r1 r2 r3
  subst r1 r2 r3
  obtain ⟨gb, e1, hb⟩ := q3 (by omega)
  obtain ⟨_, f, x, x0, x1, hc⟩ := hb.at hl
  exact ⟨gb, x, e1, hb, f, x0, x1, hc⟩
/-- one of the queue -/
theorem Tm.qat {j : Nat} (H : Tm wc wr ha hr A0 A1 A2 A3 At c0 c1 c2 c3 ct n0 n1 n2 n3 nt vs us A m cc e N) (hj : j < n1) : ∃ g A9 m9 c9, A1 = some ⟨g, 0, none⟩ ∧ vs[j]? = some (.slice A9 m9 c9) ∧ m9 ≤ 1000 := by
  obtain ⟨g, e, _, _⟩ := own_addr H.qrow (by omega)
  have hl := H.qrow.1
  obtain ⟨v, hv⟩ : ∃ v, vs[j]? = some v := ⟨_, List.getElem?_eq_getElem (by omega)⟩
  obtain ⟨A9, m9, c9, rfl, _⟩ := H.qs v (List.mem_of_getElem? hv)
  exact ⟨g, A9, m9, c9, e, hv, H.ql _ _ _ (List.mem_of_getElem? hv)⟩
theorem Tm.qc {j g m9 c9' : Nat} {A9 : Option Addr} (H : Tm wc wr ha hr A0 (some ⟨g, 0, none⟩) A2 A3 At c0 c1 c2 c3 ct n0 n1 n2 n3 nt vs us A m cc e N) (hj : j < n1) (hu : vs[j]? = some (.slice A9 m9 c9')) : wr.cell? ⟨g, j, none⟩ = some (.slice A9 m9 c9') :=
  (H.qrow.cellAt j (by omega)).trans hu
theorem Tm.bq {j l m9 c9' : Nat} {A9 : Option Addr} (H : Tm wc wr ha hr A0 A1 A2 A3 At c0 c1 c2 c3 ct n0 n1 n2 n3 nt vs us A m cc e N) (hu : vs[j]? = some (.slice A9 m9 c9')) (hl : l < m9) :
    ∃ gb x, A9 = some ⟨gb, 0, none⟩ ∧ Bytes8 wr wc.heap.size gb m9 ∧ wr.frozen? ⟨gb, l, none⟩ = false ∧ (0 : Int) ≤ x ∧ x < 256 ∧ wr.cell? ⟨gb, l, none⟩ = some (.int .u8 x) := by
  obtain ⟨A', m', c', q1, q3⟩ := H.qs _ (List.mem_of_getElem? hu)
  injection q1 with r1 r2 r3
  subst r1 r2 r3
  obtain ⟨gb, e1, hb⟩ := q3 (by omega)
  obtain ⟨_, f, x, x0, x1, hc⟩ := hb.at hl
  exact ⟨gb, x, e1, hb, f, x0, x1, hc⟩
theorem Tm.bv {l : Nat} (H : Tm wc wr ha hr A0 A1 A2 A3 At c0 c1 c2 c3 ct n0 n1 n2 n3 nt vs us A m cc e N) (hl : l < m) :
    ∃ gb x, A = some ⟨gb, 0, none⟩ ∧ Bytes8 wr wc.heap.size gb m ∧ wr.frozen? ⟨gb, l, none⟩ = false ∧ (0 : Int) ≤ x ∧ x < 256 ∧ wr.cell? ⟨gb, l, none⟩ = some (.int .u8 x) := by
  obtain ⟨gb, e1, hb⟩ := H.val (by omega)
  obtain ⟨_, f, x, x0, x1, hc⟩ := hb.at hl
  exact ⟨gb, x, e1, hb, f, x0, x1, hc⟩
end
/-- behind a step -/
theorem Tm.start {wc wr : World} {ha hr : Nat} {a : MA} {r : Mc} {A : Option Addr} {cc : Nat} {l : List Nat} {e N : Int} (hta : Blk wr ha 37 (machC a r)) (hrb : Blk wr hr 40 #[.int .i64 e, .slice A l.length cc, .int .i64 N])
    (ho : OwnM wc wr a r) (hv : OwnB wc wr A l.length cc l) (hM : r.Ok) (hl : l.length ≤ 16) (hb : ∀ x ∈ l, x < 256) (hB : Below wc.heap.size wc wr) :
    ∃ vs us, Tm wc wr ha hr a.o.A0 a.o.A1 a.o.A2 a.o.A3 a.At a.o.c0 a.o.c1 a.o.c2 a.o.c3 a.ct r.o.reg.length r.o.q.length r.o.lk.length r.o.mp.length r.t.length vs us A l.length cc e N := by
  obtain ⟨vs, hq1, hq2⟩ := ho.o.o1
  obtain ⟨us, ht1, ht2⟩ := ho.t
  refine ⟨vs, us, hta, hrb, hq1, hq2.soft hM.o.qb, ht1, fun j hj => ?_, soft_own hv hb, hB, ⟨hM.o.ql, hM.t8, hl⟩, owns_lim hq2 (fun l hl => by have := hM.o.qv l hl; omega)⟩
  obtain ⟨x, hx⟩ : ∃ x, r.t[j]? = some x := ⟨_, List.getElem?_eq_getElem hj⟩
  obtain ⟨A', c', q1, q2⟩ := ht2.cell j x hx
  have hm := hM.t.each x (List.mem_of_getElem? hx)
  exact ⟨A', x.v.length, c', q1 3 _ rfl, by omega, soft_own q2 hm.2.2⟩
end Go.Proofs.YthfnnieklkaefaaGreat

namespace Go.Proofs.YthfnnieklkaefaaGreat
set_option linter.unusedVariables false
/-- each ahead of the next -/
def chainB {α : Type} (lt : α → α → Bool) : List α → Bool
  | [] => true
  | [_] => true
  | a :: b :: r => lt a b && chainB lt (b :: r)
theorem chainB_pairwise {α : Type} {lt : α → α → Bool} (ht : ∀ {a b c}, lt a b = true → lt b c = true → lt a c = true) (l : List α) : chainB lt l = true ↔ l.Pairwise (fun a b => lt a b = true) := by
  induction l with
  | nil => simp [chainB]
  | cons a l ih =>
    cases l with
    | nil => simp [chainB]
    | cons b r =>
      simp only [chainB, Bool.and_eq_true]
      rw [ih, List.pairwise_cons (a := a)]
      constructor
      · rintro ⟨h1, h2⟩
        refine ⟨fun c hc => ?_, h2⟩
        rcases List.mem_cons.1 hc with rfl | hc
        · exact h1
        · exact ht h1 ((List.pairwise_cons.1 h2).1 c hc)
      · rintro ⟨h1, h2⟩
        exact ⟨h1 b (by simp), h2⟩
def encQ (qs : List (List Nat)) : List Nat := qs.flatMap Pk.encB
def encP (ps : List Pr) : List Nat := ps.flatMap fun p => Pk.encB p.1 ++ Pk.encB p.2
def encL1 (l : Ls) : List Nat := Pk.enc (Pk.held l.s) ++ (Pk.enc (Pk.held l.q) ++ (Pk.enc (Pk.held l.e) ++ (Pk.enc (Pk.held (l.n + 1)) ++ Pk.encB l.v)))
def encT (ls : List Ls) : List Nat := ls.flatMap encL1
/-- how many -/
def encN (n : Nat) : List Nat := Pk.enc (Pk.held (n : Int))
def Mc.enc (m : Mc) : List Nat := Pk.encB m.o.reg ++ (encN m.o.q.length ++ (encQ m.o.q ++ (encN m.o.lk.length ++ (Pk.encs m.o.lk ++ (encN m.o.mp.length ++ (encP m.o.mp ++ (encN m.t.length ++ encT m.t)))))))
theorem encQ_snoc (qs : List (List Nat)) (x : List Nat) : encQ (qs ++ [x]) = encQ qs ++ Pk.encB x := by simp [encQ]
theorem encP_snoc (ps : List Pr) (p : Pr) : encP (ps ++ [p]) = encP ps ++ Pk.encB p.1 ++ Pk.encB p.2 := by simp [encP]
theorem encT_snoc (ls : List Ls) (l : Ls) : encT (ls ++ [l]) = encT ls ++ Pk.enc (Pk.held l.s) ++ Pk.enc (Pk.held l.q) ++ Pk.enc (Pk.held l.e) ++ Pk.enc (Pk.held (l.n + 1)) ++ Pk.encB l.v := by simp [encT, encL1]
theorem encB_length (x : List Nat) : (Pk.encB x).length ≤ x.length + 9 := by
  unfold Pk.encB; have := (Pk.enc_length x.length).2; simp; omega
theorem encN_length (n : Nat) : (encN n).length ≤ 9 := (Pk.enc_length _).2
theorem encQ_length {qs : List (List Nat)} (h : ∀ x ∈ qs, x.length ≤ 16) : (encQ qs).length ≤ 25 * qs.length := by
  induction qs with
  | nil => simp [encQ]
  | cons x qs ih =>
    have h1 := ih fun y hy => h y (List.mem_cons_of_mem _ hy)
    have h2 := h x (by simp)
    have h3 := encB_length x
    unfold encQ at h1 ⊢
    rw [List.flatMap_cons, List.length_append, List.length_cons]; omega
theorem encP_length {ps : List Pr} (h : ∀ p ∈ ps, p.1.length ≤ 8 ∧ p.2.length ≤ 16) : (encP ps).length ≤ 42 * ps.length := by
  induction ps with
  | nil => simp [encP]
  | cons p ps ih =>
    have h1 := ih fun y hy => h y (List.mem_cons_of_mem _ hy)
    have h2 := h p (by simp)
    have h3 := encB_length p.1
    have h4 := encB_length p.2
    unfold encP at h1 ⊢
    rw [List.flatMap_cons, List.length_append, List.length_append, List.length_cons]; omega
theorem encT_length {ls : List Ls} (h : ∀ l ∈ ls, l.v.length ≤ 16) : (encT ls).length ≤ 61 * ls.length := by
  induction ls with
  | nil => simp [encT]
  | cons l ls ih =>
    have h1 := ih fun y hy => h y (List.mem_cons_of_mem _ hy)
    have h2 := h l (by simp)
    have h3 := encB_length l.v
    have k1 := (Pk.enc_length (Pk.held l.s)).2
    have k2 := (Pk.enc_length (Pk.held l.q)).2
    have k3 := (Pk.enc_length (Pk.held l.e)).2
    have k4 := (Pk.enc_length (Pk.held (l.n + 1))).2
    unfold encT encL1 at h1 ⊢
    rw [List.flatMap_cons, List.length_append, List.length_append, List.length_append, List.length_append, List.length_append, List.length_cons]; omega
/-- what is read -/
def getQ : Nat → Pk.St → List (List Nat) × Pk.St
  | 0, s => ([], s)
  | k + 1, s => (Pk.bytV s 16 :: (getQ k (Pk.bytS s 16)).1, (getQ k (Pk.bytS s 16)).2)
def getI : Nat → Pk.St → List Int × Pk.St
  | 0, s => ([], s)
  | k + 1, s => ((Pk.numV s 999 : Int) :: (getI k (Pk.numS s 999)).1, (getI k (Pk.numS s 999)).2)
def getP1 (s : Pk.St) : Pr × Pk.St := ((Pk.bytV s 8, Pk.bytV (Pk.bytS s 8) 16), Pk.bytS (Pk.bytS s 8) 16)
def getP : Nat → Pk.St → List Pr × Pk.St
  | 0, s => ([], s)
  | k + 1, s => ((getP1 s).1 :: (getP k (getP1 s).2).1, (getP k (getP1 s).2).2)
def getT1 (s : Pk.St) : Ls × Pk.St :=
  (⟨Pk.numV s 1073741824, Pk.numV (Pk.numS s 1073741824) 1073741824, Pk.numV (Pk.numS (Pk.numS s 1073741824) 1073741824) 10,
    Pk.bytV (Pk.numS (Pk.numS (Pk.numS (Pk.numS s 1073741824) 1073741824) 10) 1073741825) 16, (Pk.numV (Pk.numS (Pk.numS (Pk.numS s 1073741824) 1073741824) 10) 1073741825 : Int) - 1⟩,
   Pk.bytS (Pk.numS (Pk.numS (Pk.numS (Pk.numS s 1073741824) 1073741824) 10) 1073741825) 16)
def getT : Nat → Pk.St → List Ls × Pk.St
  | 0, s => ([], s)
  | k + 1, s => ((getT1 s).1 :: (getT k (getT1 s).2).1, (getT k (getT1 s).2).2)
def stQ (s : Pk.St) : List (List Nat) × Pk.St := getQ (Pk.numV s 8) (Pk.numS s 8)
def stI (s : Pk.St) : List Int × Pk.St := getI (Pk.numV s 5) (Pk.numS s 5)
def stP (s : Pk.St) : List Pr × Pk.St := getP (Pk.numV s 8) (Pk.numS s 8)
def stT (s : Pk.St) : List Ls × Pk.St := getT (Pk.numV s 8) (Pk.numS s 8)
def getO (s : Pk.St) : Ob × Pk.St :=
  (⟨Pk.bytV s 16, (stQ (Pk.bytS s 16)).1, (stI (stQ (Pk.bytS s 16)).2).1, (stP (stI (stQ (Pk.bytS s 16)).2).2).1⟩, (stP (stI (stQ (Pk.bytS s 16)).2).2).2)
def Mc.get (s : Pk.St) : Mc × Pk.St := (⟨(getO s).1, (stT (getO s).2).1⟩, (stT (getO s).2).2)
def okP (ps : List Pr) : Bool := chainB (fun p q => Mp.ltB p.1 q.1) ps
def okT (ls : List Ls) : Bool := ls.all (fun l => decide (Tb.named l.s l.q)) && chainB (fun a b => decide (a.s < b.s)) ls
def Mc.wf (m : Mc) : Bool := decide m.o.lk.Nodup && okP m.o.mp && okT m.t
/-- the machine of bytes, or none -/
def Mc.dec (l : List Nat) : Option Mc := if (Mc.get (some l)).1.wf = true ∧ (Mc.get (some l)).2 = some [] then some (Mc.get (some l)).1 else none
def En.zero : En := ⟨0, 0, ⟨0, 0, [], [], []⟩⟩
-- back
theorem num_of_enc {n : Nat} {m : Int} {rest : List Nat} (h : n ≤ Pk.top) (hm : n ≤ Pk.held m) : Pk.numV (some (Pk.enc n ++ rest)) m = n ∧ Pk.numS (some (Pk.enc n ++ rest)) m = some rest := Pk.numV_is (Pk.numN_enc h rest m hm)
theorem num_of_encI {z : Int} {m : Int} {rest : List Nat} (h0 : 0 ≤ z) (hm : z ≤ m) (ht : m ≤ 4611686018427387904) : (Pk.numV (some (Pk.enc (Pk.held z) ++ rest)) m : Int) = z ∧ Pk.numS (some (Pk.enc (Pk.held z) ++ rest)) m = some rest := by
  have e : (Pk.held z : Int) = z := by unfold Pk.held Pk.top; omega
  have h1 := num_of_enc (n := Pk.held z) (m := m) (rest := rest) (Pk.held_le z) (by unfold Pk.held Pk.top; omega)
  exact ⟨by rw [h1.1, e], h1.2⟩
theorem num_of_encN {n : Nat} {m : Int} {rest : List Nat} (hm : (n : Int) ≤ m) (ht : m ≤ 4611686018427387904) : Pk.numV (some (encN n ++ rest)) m = n ∧ Pk.numS (some (encN n ++ rest)) m = some rest := by
  have := num_of_encI (z := (n : Int)) (m := m) (rest := rest) (by omega) hm ht
  exact ⟨by have := this.1; unfold encN; omega, this.2⟩
theorem byt_of_enc {x : List Nat} {m : Int} {rest : List Nat} (h : (x.length : Int) ≤ m) (ht : m ≤ 1000) : Pk.bytV (some (Pk.encB x ++ rest)) m = x ∧ Pk.bytS (some (Pk.encB x ++ rest)) m = some rest :=
  Pk.bytV_is (Pk.bytN_enc x rest m (by unfold Pk.top; omega) (by unfold Pk.held Pk.top; omega))
theorem getQ_enc (qs : List (List Nat)) (rest : List Nat) (h : ∀ x ∈ qs, x.length ≤ 16) : getQ qs.length (some (encQ qs ++ rest)) = (qs, some rest) := by
  induction qs with
  | nil => rfl
  | cons x qs ih =>
    have hb := byt_of_enc (x := x) (m := 16) (rest := encQ qs ++ rest) (by have := h x (by simp); omega) (by omega)
    have ih := ih fun y hy => h y (List.mem_cons_of_mem _ hy)
    rw [show encQ (x :: qs) ++ rest = Pk.encB x ++ (encQ qs ++ rest) by simp [encQ]]
    simp only [List.length_cons, getQ]
    rw [hb.1, hb.2, ih]
theorem getI_enc (zs : List Int) (rest : List Nat) (h : ∀ z ∈ zs, 0 ≤ z ∧ z ≤ 999) : getI zs.length (some (Pk.encs zs ++ rest)) = (zs, some rest) := by
  induction zs with
  | nil => rfl
  | cons z zs ih =>
    have hz := h z (by simp)
    have hb := num_of_encI (z := z) (m := 999) (rest := Pk.encs zs ++ rest) hz.1 hz.2 (by omega)
    have ih := ih fun y hy => h y (List.mem_cons_of_mem _ hy)
    rw [show Pk.encs (z :: zs) ++ rest = Pk.enc (Pk.held z) ++ (Pk.encs zs ++ rest) by simp [Pk.encs]]
    simp only [List.length_cons, getI]
    rw [hb.1, hb.2, ih]
theorem getP_enc (ps : List Pr) (rest : List Nat) (h : ∀ p ∈ ps, p.1.length ≤ 8 ∧ p.2.length ≤ 16) : getP ps.length (some (encP ps ++ rest)) = (ps, some rest) := by
  induction ps with
  | nil => rfl
  | cons p ps ih =>
    have hp := h p (by simp)
    have h1 := byt_of_enc (x := p.1) (m := 8) (rest := Pk.encB p.2 ++ (encP ps ++ rest)) (by omega) (by omega)
    have h2 := byt_of_enc (x := p.2) (m := 16) (rest := encP ps ++ rest) (by omega) (by omega)
    have ih := ih fun y hy => h y (List.mem_cons_of_mem _ hy)
    rw [show encP (p :: ps) ++ rest = Pk.encB p.1 ++ (Pk.encB p.2 ++ (encP ps ++ rest)) by simp [encP]]
    simp only [List.length_cons, getP, getP1]
    rw [h1.1, h1.2, h2.1, h2.2, ih]
theorem getT_enc (ls : List Ls) (rest : List Nat) (h : ∀ l ∈ ls, Tb.named l.s l.q ∧ l.v.length ≤ 16) (he : ∀ l ∈ ls, 0 ≤ l.e ∧ l.e ≤ 10 ∧ -1 ≤ l.n ∧ l.n ≤ 1073741824) : getT ls.length (some (encT ls ++ rest)) = (ls, some rest) := by
  induction ls with
  | nil => rfl
  | cons l ls ih =>
    obtain ⟨⟨hs1, hq1, hs2, hq2⟩, hv⟩ := h l (by simp)
    obtain ⟨he1, he2, hn1, hn2⟩ := he l (by simp)
    have ih := ih (fun y hy => h y (List.mem_cons_of_mem _ hy)) (fun y hy => he y (List.mem_cons_of_mem _ hy))
    have e : encT (l :: ls) ++ rest = Pk.enc (Pk.held l.s) ++ (Pk.enc (Pk.held l.q) ++ (Pk.enc (Pk.held l.e) ++ (Pk.enc (Pk.held (l.n + 1)) ++ (Pk.encB l.v ++ (encT ls ++ rest))))) := by simp [encT, encL1]
    have k1 := num_of_encI (z := l.s) (m := 1073741824) (rest := Pk.enc (Pk.held l.q) ++ (Pk.enc (Pk.held l.e) ++ (Pk.enc (Pk.held (l.n + 1)) ++ (Pk.encB l.v ++ (encT ls ++ rest))))) (by omega) hs2 (by omega)
    have k2 := num_of_encI (z := l.q) (m := 1073741824) (rest := Pk.enc (Pk.held l.e) ++ (Pk.enc (Pk.held (l.n + 1)) ++ (Pk.encB l.v ++ (encT ls ++ rest)))) (by omega) hq2 (by omega)
    have k3 := num_of_encI (z := l.e) (m := 10) (rest := Pk.enc (Pk.held (l.n + 1)) ++ (Pk.encB l.v ++ (encT ls ++ rest))) he1 he2 (by omega)
    have k4 := num_of_encI (z := l.n + 1) (m := 1073741825) (rest := Pk.encB l.v ++ (encT ls ++ rest)) (by omega) (by omega) (by omega)
    have k5 := byt_of_enc (x := l.v) (m := 16) (rest := encT ls ++ rest) (by omega) (by omega)
    rw [e]
    simp only [List.length_cons, getT, getT1]
    rw [k1.1, k1.2, k2.1, k2.2, k3.1, k3.2, k4.1, k4.2, k5.1, k5.2, ih]
    simp
theorem Mc.Ok.wf {m : Mc} (h : m.Ok) : m.wf = true := by
  unfold Mc.wf okP okT
  have hp : chainB (fun p q : Pr => Mp.ltB p.1 q.1) m.o.mp = true := (chainB_pairwise (lt := fun p q : Pr => Mp.ltB p.1 q.1) (fun h1 h2 => Mp.ltB_trans h1 h2) _).2 h.o.mp.rise
  rw [decide_eq_true h.o.lkn, hp]
  have h1 : chainB (fun a b : Ls => decide (a.s < b.s)) m.t = true := by
    rw [chainB_pairwise (by simp; intro a b c; omega)]
    exact h.t.rises.imp fun h => by simpa using h
  rw [h1]
  simp
  exact fun l hl => (h.t.each l hl).1
theorem Mc.get_enc {m : Mc} (h : m.Ok) (rest : List Nat) : Mc.get (some (m.enc ++ rest)) = (m, some rest) := by
  have e : m.enc ++ rest = Pk.encB m.o.reg ++ (encN m.o.q.length ++ (encQ m.o.q ++ (encN m.o.lk.length ++ (Pk.encs m.o.lk ++ (encN m.o.mp.length ++ (encP m.o.mp ++ (encN m.t.length ++ (encT m.t ++ rest)))))))) := by
    unfold Mc.enc; simp only [List.append_assoc]
  have k0 := byt_of_enc (x := m.o.reg) (m := 16) (rest := encN m.o.q.length ++ (encQ m.o.q ++ (encN m.o.lk.length ++ (Pk.encs m.o.lk ++ (encN m.o.mp.length ++ (encP m.o.mp ++ (encN m.t.length ++ (encT m.t ++ rest)))))))) (by have := h.o.reg; omega) (by omega)
  have k1 := num_of_encN (n := m.o.q.length) (m := 8) (rest := encQ m.o.q ++ (encN m.o.lk.length ++ (Pk.encs m.o.lk ++ (encN m.o.mp.length ++ (encP m.o.mp ++ (encN m.t.length ++ (encT m.t ++ rest))))))) (by have := h.o.ql; omega) (by omega)
  have k2 := num_of_encN (n := m.o.lk.length) (m := 5) (rest := Pk.encs m.o.lk ++ (encN m.o.mp.length ++ (encP m.o.mp ++ (encN m.t.length ++ (encT m.t ++ rest))))) (by have := h.o.lkl; omega) (by omega)
  have k3 := num_of_encN (n := m.o.mp.length) (m := 8) (rest := encP m.o.mp ++ (encN m.t.length ++ (encT m.t ++ rest))) (by have := h.o.mp.few; omega) (by omega)
  have k4 := num_of_encN (n := m.t.length) (m := 8) (rest := encT m.t ++ rest) (by have := h.t8; omega) (by omega)
  have g1 := getQ_enc m.o.q (encN m.o.lk.length ++ (Pk.encs m.o.lk ++ (encN m.o.mp.length ++ (encP m.o.mp ++ (encN m.t.length ++ (encT m.t ++ rest)))))) h.o.qv
  have g2 := getI_enc m.o.lk (encN m.o.mp.length ++ (encP m.o.mp ++ (encN m.t.length ++ (encT m.t ++ rest)))) h.lk
  have g3 := getP_enc m.o.mp (encN m.t.length ++ (encT m.t ++ rest)) h.o.mp.len
  have g4 := getT_enc m.t rest (fun l hl => ⟨(h.t.each l hl).1, (h.t.each l hl).2.1⟩) h.te
  rw [e]
  unfold Mc.get getO stQ stI stP stT
  rw [k0.1, k0.2, k1.1, k1.2, g1]
  simp only []
  rw [k2.1, k2.2, g2]
  simp only []
  rw [k3.1, k3.2, g3]
  simp only []
  rw [k4.1, k4.2, g4]
theorem Mc.dec_enc {m : Mc} (h : m.Ok) : Mc.dec m.enc = some m := by
  have e := Mc.get_enc h []
  rw [List.append_nil] at e
  unfold Mc.dec
  rw [e, if_pos ⟨h.wf, rfl⟩]
end Go.Proofs.YthfnnieklkaefaaGreat

namespace Go.Proofs.YthfnnieklkaefaaGreat
set_option linter.unusedVariables false
/-- all that is left are bytes -/
def BytesSt (s : Pk.St) : Prop := ∀ l, s = some l → ∀ x ∈ l, x < 256
theorem numN_cases (s : Pk.St) (m : Int) : (Pk.numV s m = 0 ∧ Pk.numS s m = none) ∨ ∃ l, s = some l ∧ Pk.numV s m = (Pk.first l).1 ∧ Pk.numV s m ≤ Pk.held m ∧ Pk.numS s m = some (l.drop (Pk.first l).2) := by
  cases s with
  | none => left; exact ⟨rfl, rfl⟩
  | some l =>
    by_cases h : (Pk.first l).2 = 0 ∨ Pk.held m < (Pk.first l).1
    · left
      refine Pk.numV_no ?_
      show Pk.rNum l (Pk.held m) = none
      unfold Pk.rNum; rw [if_pos h]
    · right
      have := Pk.numV_is (s := some l) (m := m) (n := (Pk.first l).1) (l := l.drop (Pk.first l).2) (by show Pk.rNum l (Pk.held m) = _; unfold Pk.rNum; rw [if_neg h])
      refine ⟨l, rfl, this.1, ?_, this.2⟩
      rw [this.1]
      omega
theorem numV_le (s : Pk.St) {m : Int} (hm : 0 ≤ m) : (Pk.numV s m : Int) ≤ m := by
  have hh : (Pk.held m : Int) ≤ m := by unfold Pk.held Pk.top; omega
  rcases numN_cases s m with h | ⟨l, _, _, h, _⟩
  · rw [h.1]; exact hm
  · omega
theorem numS_bytes {s : Pk.St} (h : BytesSt s) (m : Int) : BytesSt (Pk.numS s m) := by
  rcases numN_cases s m with h1 | ⟨l, h1, _, _, h2⟩
  · rw [h1.2]; intro l hl; cases hl
  · rw [h2]
    intro l' hl'
    injection hl' with hl'
    subst hl'
    exact fun x hx => h l h1 x (List.mem_of_mem_drop hx)
theorem bytV_facts {s : Pk.St} (h : BytesSt s) {m : Int} (hm : 0 ≤ m) : ((Pk.bytV s m).length : Int) ≤ m ∧ (∀ x ∈ Pk.bytV s m, x < 256) ∧ BytesSt (Pk.bytS s m) := by
  have hn := numV_le s hm
  have hb := numS_bytes h m
  by_cases hl : ((Pk.numS s m).getD []).length < Pk.numV s m
  · obtain ⟨e1, e2⟩ := Pk.byt_no hl
    rw [e1, e2]
    exact ⟨by simpa using hm, by simp, fun l hl => by cases hl⟩
  · obtain ⟨e1, e2⟩ := Pk.byt_of hl
    rw [e1, e2]
    cases hs : Pk.numS s m with
    | none => exact ⟨by simpa using hm, by simp, fun l hl => by cases hl⟩
    | some l =>
      refine ⟨by simp only [Option.getD_some, List.length_take]; omega, fun x hx => hb l hs x (List.mem_of_mem_take (by simpa using hx)), ?_⟩
      intro l' hl'
      simp only [Option.map_some] at hl'
      injection hl' with hl'
      subst hl'
      exact fun x hx => hb l hs x (List.mem_of_mem_drop hx)
theorem getQ_facts (k : Nat) {s : Pk.St} (h : BytesSt s) : (getQ k s).1.length = k ∧ (∀ x ∈ (getQ k s).1, x.length ≤ 16 ∧ ∀ y ∈ x, y < 256) ∧ BytesSt (getQ k s).2 := by
  induction k generalizing s with
  | zero => exact ⟨rfl, fun x hx => (by cases hx), h⟩
  | succ k ih =>
    obtain ⟨b1, b2, b3⟩ := bytV_facts h (m := 16) (by omega)
    obtain ⟨i1, i2, i3⟩ := ih b3
    refine ⟨by simp only [getQ, List.length_cons, i1], fun x hx => ?_, i3⟩
    simp only [getQ] at hx
    rcases List.mem_cons.1 hx with rfl | hx
    · exact ⟨by omega, b2⟩
    · exact i2 x hx
theorem getI_facts (k : Nat) {s : Pk.St} (h : BytesSt s) : (getI k s).1.length = k ∧ (∀ z ∈ (getI k s).1, 0 ≤ z ∧ z ≤ 999) ∧ BytesSt (getI k s).2 := by
  induction k generalizing s with
  | zero => exact ⟨rfl, fun x hx => (by cases hx), h⟩
  | succ k ih =>
    have b1 := numV_le s (m := 999) (by omega)
    obtain ⟨i1, i2, i3⟩ := ih (numS_bytes h 999)
    refine ⟨by simp only [getI, List.length_cons, i1], fun x hx => ?_, i3⟩
    simp only [getI] at hx
    rcases List.mem_cons.1 hx with rfl | hx
    · omega
    · exact i2 x hx
theorem getP_facts (k : Nat) {s : Pk.St} (h : BytesSt s) : (getP k s).1.length = k ∧ (∀ p ∈ (getP k s).1, (p.1.length ≤ 8 ∧ p.2.length ≤ 16) ∧ (∀ y ∈ p.1, y < 256) ∧ ∀ y ∈ p.2, y < 256) ∧ BytesSt (getP k s).2 := by
  induction k generalizing s with
  | zero => exact ⟨rfl, fun x hx => (by cases hx), h⟩
  | succ k ih =>
    obtain ⟨b1, b2, b3⟩ := bytV_facts h (m := 8) (by omega)
    obtain ⟨c1, c2, c3⟩ := bytV_facts b3 (m := 16) (by omega)
    obtain ⟨i1, i2, i3⟩ := ih c3
    refine ⟨by simp only [getP, getP1, List.length_cons, i1], fun x hx => ?_, i3⟩
    simp only [getP] at hx
    rcases List.mem_cons.1 hx with rfl | hx
    · simp only [getP1]
      exact ⟨⟨by omega, by omega⟩, b2, c2⟩
    · exact i2 x hx
theorem getT_facts (k : Nat) {s : Pk.St} (h : BytesSt s) : (getT k s).1.length = k ∧ (∀ l ∈ (getT k s).1, (0 ≤ l.s ∧ l.s ≤ 1073741824 ∧ 0 ≤ l.q ∧ l.q ≤ 1073741824) ∧ (0 ≤ l.e ∧ l.e ≤ 10 ∧ -1 ≤ l.n ∧ l.n ≤ 1073741824) ∧ l.v.length ≤ 16 ∧ ∀ y ∈ l.v, y < 256) ∧ BytesSt (getT k s).2 := by
  induction k generalizing s with
  | zero => exact ⟨rfl, fun x hx => (by cases hx), h⟩
  | succ k ih =>
    have n1 := numV_le s (m := 1073741824) (by omega)
    have s1 := numS_bytes h 1073741824
    have n2 := numV_le (Pk.numS s 1073741824) (m := 1073741824) (by omega)
    have s2 := numS_bytes s1 1073741824
    have n3 := numV_le (Pk.numS (Pk.numS s 1073741824) 1073741824) (m := 10) (by omega)
    have s3 := numS_bytes s2 10
    have n4 := numV_le (Pk.numS (Pk.numS (Pk.numS s 1073741824) 1073741824) 10) (m := 1073741825) (by omega)
    have s4 := numS_bytes s3 1073741825
    obtain ⟨c1, c2, c3⟩ := bytV_facts s4 (m := 16) (by omega)
    obtain ⟨i1, i2, i3⟩ := ih c3
    refine ⟨by simp only [getT, getT1, List.length_cons, i1], fun x hx => ?_, i3⟩
    simp only [getT] at hx
    rcases List.mem_cons.1 hx with rfl | hx
    · simp only [getT1]
      exact ⟨⟨by omega, by omega, by omega, by omega⟩, ⟨by omega, by omega, by omega, by omega⟩, by omega, c2⟩
    · exact i2 x hx
/-- what is read, but for its order -/
structure Mc.Near (m : Mc) : Prop where
  reg : m.o.reg.length ≤ 16 ∧ ∀ x ∈ m.o.reg, x < 256
  ql : m.o.q.length ≤ 8
  q : ∀ x ∈ m.o.q, x.length ≤ 16 ∧ ∀ y ∈ x, y < 256
  ll : m.o.lk.length ≤ 5
  lk : ∀ z ∈ m.o.lk, 0 ≤ z ∧ z ≤ 999
  ml : m.o.mp.length ≤ 8
  mp : ∀ p ∈ m.o.mp, (p.1.length ≤ 8 ∧ p.2.length ≤ 16) ∧ (∀ y ∈ p.1, y < 256) ∧ ∀ y ∈ p.2, y < 256
  tl : m.t.length ≤ 8
  t : ∀ l ∈ m.t, (0 ≤ l.s ∧ l.s ≤ 1073741824 ∧ 0 ≤ l.q ∧ l.q ≤ 1073741824) ∧ (0 ≤ l.e ∧ l.e ≤ 10 ∧ -1 ≤ l.n ∧ l.n ≤ 1073741824) ∧ l.v.length ≤ 16 ∧ ∀ y ∈ l.v, y < 256
theorem Mc.get_near {s : Pk.St} (h : BytesSt s) : (Mc.get s).1.Near := by
  obtain ⟨a1, a2, a3⟩ := bytV_facts h (m := 16) (by omega)
  have n1 := numV_le (Pk.bytS s 16) (m := 8) (by omega)
  obtain ⟨q1, q2, q3⟩ := getQ_facts (Pk.numV (Pk.bytS s 16) 8) (numS_bytes a3 8)
  have n2 := numV_le (stQ (Pk.bytS s 16)).2 (m := 5) (by omega)
  obtain ⟨i1, i2, i3⟩ := getI_facts (Pk.numV (stQ (Pk.bytS s 16)).2 5) (numS_bytes (s := (stQ (Pk.bytS s 16)).2) q3 5)
  have n3 := numV_le (stI (stQ (Pk.bytS s 16)).2).2 (m := 8) (by omega)
  obtain ⟨p1, p2, p3⟩ := getP_facts (Pk.numV (stI (stQ (Pk.bytS s 16)).2).2 8) (numS_bytes (s := (stI (stQ (Pk.bytS s 16)).2).2) i3 8)
  have n4 := numV_le (stP (stI (stQ (Pk.bytS s 16)).2).2).2 (m := 8) (by omega)
  obtain ⟨t1, t2, t3⟩ := getT_facts (Pk.numV (stP (stI (stQ (Pk.bytS s 16)).2).2).2 8) (numS_bytes (s := (stP (stI (stQ (Pk.bytS s 16)).2).2).2) p3 8)
  exact ⟨⟨by show (Pk.bytV s 16).length ≤ 16; omega, a2⟩, by show (stQ (Pk.bytS s 16)).1.length ≤ 8; unfold stQ; omega, q2, by show (stI (stQ (Pk.bytS s 16)).2).1.length ≤ 5; unfold stI at *; omega, i2, by show (stP (stI (stQ (Pk.bytS s 16)).2).2).1.length ≤ 8; unfold stP at *; omega, p2, by show (stT (stP (stI (stQ (Pk.bytS s 16)).2).2).2).1.length ≤ 8; unfold stT at *; omega, t2⟩
end Go.Proofs.YthfnnieklkaefaaGreat

namespace Go.Proofs.YthfnnieklkaefaaGreat
open Go.RowKit
set_option linter.unusedVariables false
theorem Ls.eq_iff (a b : Ls) : a = b ↔ a.s = b.s ∧ a.q = b.q ∧ a.e = b.e ∧ a.v = b.v ∧ a.n = b.n := by
  constructor
  · rintro rfl; exact ⟨rfl, rfl, rfl, rfl, rfl⟩
  · rintro ⟨h1, h2, h3, h4, h5⟩; cases a; cases b; simp at h1 h2 h3 h4 h5; subst h1 h2 h3 h4 h5; rfl
instance : DecidableEq Ls := fun a b => decidable_of_iff _ (Ls.eq_iff a b).symm
theorem Mc.eq_iff (a b : Mc) : a = b ↔ a.o.reg = b.o.reg ∧ a.o.q = b.o.q ∧ a.o.lk = b.o.lk ∧ a.o.mp = b.o.mp ∧ a.t = b.t := by
  constructor
  · rintro rfl; exact ⟨rfl, rfl, rfl, rfl, rfl⟩
  · rintro ⟨h1, h2, h3, h4, h5⟩; obtain ⟨⟨_, _, _, _⟩, _⟩ := a; obtain ⟨⟨_, _, _, _⟩, _⟩ := b; simp at h1 h2 h3 h4 h5; subst h1 h2 h3 h4 h5; rfl
instance : DecidableEq Mc := fun a b => decidable_of_iff _ (Mc.eq_iff a b).symm
theorem En.eq_iff (a b : En) : a = b ↔ a.s = b.s ∧ a.q = b.q ∧ a.c.kind = b.c.kind ∧ a.c.who = b.c.who ∧ a.c.key = b.c.key ∧ a.c.val = b.c.val ∧ a.c.old = b.c.old := by
  constructor
  · rintro rfl; exact ⟨rfl, rfl, rfl, rfl, rfl, rfl, rfl⟩
  · rintro ⟨h1, h2, h3, h4, h5, h6, h7⟩; obtain ⟨_, _, ⟨_, _, _, _, _⟩⟩ := a; obtain ⟨_, _, ⟨_, _, _, _, _⟩⟩ := b; simp at h1 h2 h3 h4 h5 h6 h7; subst h1 h2 h3 h4 h5 h6 h7; rfl
instance : DecidableEq En := fun a b => decidable_of_iff _ (En.eq_iff a b).symm
def StepC10 : Prop := ∀ {W w : World} {a : MA} {ca : CA} {m : Mc} {e : En} {B B' : Nat}, m.Ok → e.c.Fits → RdM w B a m → RdC w B' ca e.c → Below W.heap.size W w →
  Calls Tryz.prog 10 #[machV a m, entV ca e] w (GotM W w (m.step e))
def EncodeC10 : Prop := ∀ {W w : World} {a : MA} {m : Mc} {B : Nat}, m.Ok → RdM w B a m → Below W.heap.size W w →
  Calls Tryz.prog 14 #[machV a m] w (GotIn W w m.enc)
def DecodeC10 : Prop := ∀ {W w : World} {A : Option Addr} {n c B : Nat} {l : List Nat}, l.length ≤ 100000 → (∀ x ∈ l, x < 256) → n ≤ c → c ≤ maxLen → Rd w B A n (bv l) → Below W.heap.size W w →
  Calls Tryz.prog 13 #[.slice A n c] w (GotMB W w (Mc.dec l))
def SameC10 : Prop := ∀ (w : World) {a a' : MA} {m m' : Mc} {B B' : Nat}, m.Ok → m'.Ok → RdM w B a m → RdM w B' a' m' →
  Calls Tryz.prog 11 #[machV a m, machV a' m'] w fun e w' => e = .returned (.bool (decide (m = m'))) ∧ Below w.heap.size w w'
def SameEC10 : Prop := ∀ (w : World) {ca ca' : CA} {e e' : En} {B B' : Nat}, e.c.Fits → e'.c.Fits → RdC w B ca e.c → RdC w B' ca' e'.c →
  Calls Tryz.prog 29 #[entV ca e, entV ca' e'] w fun en w' => en = .returned (.bool (decide (e = e'))) ∧ Below w.heap.size w w'
def AwakeC10 : Prop := ∀ (w : World), Calls Tryz.prog 9 #[] w fun e w' => e = .returned (.bool true) ∧ Below w.heap.size w w'
theorem StepC10.is (h : StepC10) {W w : World} {a : MA} {ca : CA} {m : Mc} {e : En} {B B' : Nat} {r : MAns} (he : m.step e = r) (hM : m.Ok) (hc : e.c.Fits) (hr : RdM w B a m) (hr' : RdC w B' ca e.c) (hB : Below W.heap.size W w) :
    Calls Tryz.prog 10 #[machV a m, entV ca e] w (GotM W w r) := by subst he; exact h hM hc hr hr' hB
theorem SameC10.is (h : SameC10) (w : World) {a a' : MA} {m m' : Mc} {B B' : Nat} {b : Bool} (hb : decide (m = m') = b) (hM : m.Ok) (hM' : m'.Ok) (hr : RdM w B a m) (hr' : RdM w B' a' m') :
    Calls Tryz.prog 11 #[machV a m, machV a' m'] w fun e w' => e = .returned (.bool b) ∧ Below w.heap.size w w' := by subst hb; exact h w hM hM' hr hr'
theorem SameEC10.is (h : SameEC10) (w : World) {ca ca' : CA} {e e' : En} {B B' : Nat} {b : Bool} (hb : decide (e = e') = b) (hc : e.c.Fits) (hc' : e'.c.Fits) (hr : RdC w B ca e.c) (hr' : RdC w B' ca' e'.c) :
    Calls Tryz.prog 29 #[entV ca e, entV ca' e'] w fun en w' => en = .returned (.bool b) ∧ Below w.heap.size w w' := by subst hb; exact h w hc hc' hr hr'
theorem DecodeC10.is (h : DecodeC10) {W w : World} {A : Option Addr} {n c B : Nat} {l : List Nat} {r : Option Mc} (he : Mc.dec l = r) (hl : l.length ≤ 100000) (hb : ∀ x ∈ l, x < 256) (hn : n ≤ c) (hc : c ≤ maxLen) (hr : Rd w B A n (bv l)) (hB : Below W.heap.size W w) :
    Calls Tryz.prog 13 #[.slice A n c] w (GotMB W w r) := by subst he; exact h hl hb hn hc hr hB
/-- its bytes -/
theorem Mc.Ok.enc_length {m : Mc} (h : m.Ok) : m.enc.length ≤ 1200 := by
  have h1 := encB_length m.o.reg
  have h2 := h.o.reg
  have h3 := encQ_length h.o.qv
  have h4 := h.o.ql
  have h5 := Pk.encs_length m.o.lk
  have h6 := h.o.lkl
  have h7 := encP_length h.o.mp.len
  have h8 := h.o.mp.few
  have h9 := encT_length (ls := m.t) fun l hl => (h.t.each l hl).2.1
  have h10 := h.t8
  have k1 := encN_length m.o.q.length
  have k2 := encN_length m.o.lk.length
  have k3 := encN_length m.o.mp.length
  have k4 := encN_length m.t.length
  unfold Mc.enc
  simp only [List.length_append]
  omega
theorem encQ_lt {qs : List (List Nat)} (h : ∀ x ∈ qs, x.length ≤ 16 ∧ ∀ y ∈ x, y < 256) : ∀ x ∈ encQ qs, x < 256 := by
  intro x hx
  obtain ⟨q, hq, hxq⟩ := List.mem_flatMap.1 hx
  exact Pk.encB_lt (h q hq).2 (by have := (h q hq).1; unfold Pk.top; omega) x hxq
theorem encN_lt (n : Nat) : ∀ x ∈ encN n, x < 256 := Pk.enc_lt (Pk.held_le _)
theorem Mc.Ok.enc_lt {m : Mc} (h : m.Ok) : ∀ x ∈ m.enc, x < 256 := by
  have hb : ∀ {l : List Nat}, l.length ≤ 16 → (∀ y ∈ l, y < 256) → ∀ x ∈ Pk.encB l, x < 256 := fun h1 h2 => Pk.encB_lt h2 (by unfold Pk.top; omega)
  have hp : ∀ x ∈ encP m.o.mp, x < 256 := by
    intro x hx
    obtain ⟨p, hp, hxp⟩ := List.mem_flatMap.1 hx
    have h1 := h.o.mp.len p hp
    have h2 := h.o.mp.byt p hp
    rcases List.mem_append.1 hxp with h3 | h3
    · exact hb (by omega) h2.1 x h3
    · exact hb h1.2 h2.2 x h3
  have ht : ∀ x ∈ encT m.t, x < 256 := by
    intro x hx
    obtain ⟨l, hl, hxl⟩ := List.mem_flatMap.1 hx
    have h1 := h.t.each l hl
    unfold encL1 at hxl
    simp only [List.mem_append] at hxl
    rcases hxl with h3 | h3 | h3 | h3 | h3
    · exact Pk.enc_lt (Pk.held_le _) x h3
    · exact Pk.enc_lt (Pk.held_le _) x h3
    · exact Pk.enc_lt (Pk.held_le _) x h3
    · exact Pk.enc_lt (Pk.held_le _) x h3
    · exact hb h1.2.1 h1.2.2 x h3
  intro x hx
  unfold Mc.enc at hx
  simp only [List.mem_append] at hx
  rcases hx with h3 | h3 | h3 | h3 | h3 | h3 | h3 | h3 | h3
  · exact hb h.o.reg h.o.regb x h3
  · exact encN_lt _ x h3
  · exact encQ_lt (fun l hl => ⟨h.o.qv l hl, h.o.qb l hl⟩) x h3
  · exact encN_lt _ x h3
  · exact Pk.encs_lt _ x h3
  · exact encN_lt _ x h3
  · exact hp x h3
  · exact encN_lt _ x h3
  · exact ht x h3
theorem Mc.dec_more {m : Mc} (h : m.Ok) (x : Nat) (r : List Nat) : Mc.dec (m.enc ++ x :: r) = none := by
  unfold Mc.dec
  rw [Mc.get_enc h, if_neg]
  rintro ⟨_, h2⟩
  injection h2 with h2
  cases h2
end Go.Proofs.YthfnnieklkaefaaGreat

namespace Go.Proofs.YthfnnieklkaefaaGreat
open Go.RowKit
set_option linter.unusedVariables false
/-- the row that grows was there when W's call began -/
def Old (W : World) (row : Option Nat) : Prop := ∀ k, row = some k → k < W.heap.size
section
variable {W w w' : World} {row : Option Nat}
theorem Old.some {b : Nat} (h : b < W.heap.size) : Old W (some b) := fun k hk => by injection hk with hk; omega
theorem own_old {e : TypeId} {size n : Nat} {v : Value} {xs : List Value} (h : w.ownsRow W.heap.size e size v n xs) (hg : w.grownBy w' row) (ho : Old W row) : w'.ownsRow W.heap.size e size v n xs := by
  refine h.kept hg ?_
  rcases he : v.ownBlock with _ | k
  · exact .inl rfl
  · right
    intro h2
    have h3 := ho k h2.symm
    have := (h.lt k he).1
    omega
theorem Owns.old {vs : List Value} {qs : List (List Nat)} (h : Owns W w vs qs) (hg : w.grownBy w' row) (ho : Old W row) : Owns W w' vs qs :=
  ⟨h.len, fun i l hl => by obtain ⟨A, c, e, hq⟩ := h.cell i l hl; exact ⟨A, c, e, own_old hq hg ho⟩⟩
theorem OwnQ.old {A : Option Addr} {n c : Nat} {qs : List (List Nat)} (h : OwnQ W w A n c qs) (hg : w.grownBy w' row) (ho : Old W row) : OwnQ W w' A n c qs := by
  obtain ⟨vs, h1, h2⟩ := h; exact ⟨vs, own_old h1 hg ho, h2.old hg ho⟩
theorem OwnP.old {A : Option Addr} {n c : Nat} {ps : List Pr} (h : OwnP W w A n c ps) (hg : w.grownBy w' row) (ho : Old W row) : OwnP W w' A n c ps := by
  obtain ⟨vs, h1, h2⟩ := h; exact ⟨vs, own_old h1 hg ho, h2.old hg ho⟩
theorem OwnsL.old {vs : List Value} {ls : List Ls} (h : OwnsL W w vs ls) (hg : w.grownBy w' row) (ho : Old W row) : OwnsL W w' vs ls := h.imp fun _ _ _ h => own_old h hg ho
theorem OwnL.old {A : Option Addr} {n c : Nat} {ls : List Ls} (h : OwnL W w A n c ls) (hg : w.grownBy w' row) (ho : Old W row) : OwnL W w' A n c ls := by
  obtain ⟨vs, h1, h2⟩ := h; exact ⟨vs, own_old h1 hg ho, OwnsL.old h2 hg ho⟩
theorem OwnO.old {a : OA} {s : Ob} (h : OwnO W w a s) (hg : w.grownBy w' row) (ho : Old W row) : OwnO W w' a s := ⟨own_old h.o0 hg ho, h.o1.old hg ho, own_old h.o2 hg ho, h.o3.old hg ho⟩
theorem OwnM.old {a : MA} {m : Mc} (h : OwnM W w a m) (hg : w.grownBy w' row) (ho : Old W row) : OwnM W w' a m := ⟨h.o.old hg ho, h.t.old hg ho⟩
/-- the block of a row of the call's own -/
theorem own_row_old {W1 : World} {e : TypeId} {size n : Nat} {v : Value} {xs : List Value} (h : w.ownsRow W1.heap.size e size v n xs) (hs : w.heap.size ≤ W.heap.size) : Old W v.ownBlock := fun k hk => by have := (h.lt k hk).2; omega
end
theorem cellB : CellT Tryz.prog 24 5 (.int .u8 0) 1 := ⟨Tryz.underlying24, by kernel_rfl, rfl⟩
theorem bv_one (l : List Nat) : ∀ u ∈ bv l, u.oneCell' = true := by
  intro u hu
  unfold bv at hu
  obtain ⟨x, _, rfl⟩ := List.mem_map.1 hu
  rfl
theorem bv_app (l m : List Nat) : bv (l ++ m) = bv l ++ bv m := by simp [bv]
end Go.Proofs.YthfnnieklkaefaaGreat

namespace Go.Proofs.YthfnnieklkaefaaGreat
open Go.RowKit
set_option linter.unusedVariables false
namespace Aw
def E1 : En := ⟨1, 1, ⟨4, 0, [], [97], []⟩⟩
def M1 : Mc := ⟨⟨[], [[97]], [], []⟩, [⟨1, 1, 0, [], 1⟩]⟩
theorem fits : E1.c.Fits := ⟨⟨by simp [E1], by simp [E1]⟩, ⟨by simp [E1], by simp [E1]⟩, ⟨by simp [E1], by simp [E1]⟩⟩
theorem zfits : En.zero.c.Fits := ⟨⟨by simp [En.zero], by simp [En.zero]⟩, ⟨by simp [En.zero], by simp [En.zero]⟩, ⟨by simp [En.zero], by simp [En.zero]⟩⟩
theorem s1 : Mc.zero.step E1 = ⟨M1, 0, [], 1⟩ := by rfl
theorem s2 : M1.step E1 = ⟨M1, 0, [], 1⟩ := by rfl
theorem ok1 : M1.Ok := by have := Mc.Ok.step (e := E1) Mc.Ok.zero fits; rwa [s1] at this
theorem se : M1.enc = [0, 1, 1, 97, 0, 0, 1, 1, 1, 0, 2, 0] := by rfl
theorem ze : Mc.zero.enc = [0, 0, 0, 0, 0] := by rfl
theorem sn : Mc.dec ([0, 1, 1, 97, 0, 0, 1, 1, 1, 0, 2, 0] ++ [0]) = none := by rw [← se]; exact Mc.dec_more ok1 0 []
theorem ne : decide (M1 = Mc.zero) = false := by decide
theorem ee : decide (E1 = En.zero) = false := by decide
end Aw
set_option maxHeartbeats 4000000 in
set_option maxRecDepth 100000 in
theorem machAwake (hS : StepC10) (hE : EncodeC10) (hD : DecodeC10) (hM : SameC10) (hN : SameEC10) : AwakeC10 := by
  intro w
  have kc := const1
  have b0 : Below w.heap.size w ((w.alloc (.cells #[.int .u8 97] 5 (1, 2))).alloc (.cells #[.int .i64 1, .int .i64 1, .int .i64 4, .int .i64 0, .slice none 0 0, .slice (some ⟨w.heap.size, 0, none⟩) 1 1, .slice none 0 0] 28)) := ((Below.refl _ _).alloc (Nat.le_refl _) _).alloc (by simp) _
  have HB0 := Lib.hid b0
  have HK0 : Hid (Blk ((w.alloc (.cells #[.int .u8 97] 5 (1, 2))).alloc (.cells #[.int .i64 1, .int .i64 1, .int .i64 4, .int .i64 0, .slice none 0 0, .slice (some ⟨w.heap.size, 0, none⟩) 1 1, .slice none 0 0] 28)) (w.heap.size + 1) 28 #[.int .i64 1, .int .i64 1, .int .i64 4, .int .i64 0, .slice none 0 0, .slice (some ⟨w.heap.size, 0, none⟩) 1 1, .slice none 0 0]) := Lib.hid (by
    have := Blk.new (w.alloc (.cells #[.int .u8 97] 5 (1, 2))) 28 #[.int .i64 1, .int .i64 1, .int .i64 4, .int .i64 0, .slice none 0 0, .slice (some ⟨w.heap.size, 0, none⟩) 1 1, .slice none 0 0]
    rwa [World.size_alloc] at this)
  have HC0 : Hid (RdC ((w.alloc (.cells #[.int .u8 97] 5 (1, 2))).alloc (.cells #[.int .i64 1, .int .i64 1, .int .i64 4, .int .i64 0, .slice none 0 0, .slice (some ⟨w.heap.size, 0, none⟩) 1 1, .slice none 0 0] 28)) ((w.alloc (.cells #[.int .u8 97] 5 (1, 2))).alloc (.cells #[.int .i64 1, .int .i64 1, .int .i64 4, .int .i64 0, .slice none 0 0, .slice (some ⟨w.heap.size, 0, none⟩) 1 1, .slice none 0 0] 28)).heap.size ⟨none, 0, some ⟨w.heap.size, 0, none⟩, 1, none, 0⟩ Aw.E1.c) := Lib.hid ⟨Rd.none_ _ _ _, ((Rd.made w #[.int .u8 97] 5 (1, 2) 1 rfl).fit.alloc (Nat.le_refl _) _).fit, Rd.none_ _ _ _⟩
  clear b0
  go_enter Tryz.func9, Tryz.ntmps9
  go_upto_region 2 with fail
  clear kc
  generalize ((w.alloc (.cells #[.int .u8 97] 5 (1, 2))).alloc (.cells #[.int .i64 1, .int .i64 1, .int .i64 4, .int .i64 0, .slice none 0 0, .slice (some ⟨w.heap.size, 0, none⟩) 1 1, .slice none 0 0] 28)) = wa at HB0 HK0 HC0 ⊢
  obtain ⟨x0, x1, x2, x3, x4, x5, x6⟩ := seven HK0.out
  have c1 := hS.is (W := w) (w := wa) (a := ⟨⟨none, 0, none, 0, none, 0, none, 0⟩, none, 0⟩) (ca := ⟨none, 0, some ⟨w.heap.size, 0, none⟩, 1, none, 0⟩) Aw.s1 Mc.Ok.zero Aw.fits (RdM.zero wa 0) HC0.out HB0.out
  have C1 := Lib.hid c1
  clear c1
  go_upto_region 3 with (first
    | (go_at_call 10; refine C1.out.mono ?_; rintro e w1 ⟨a1, A1, c1, he, ho1, hv1, hB1, hb1⟩
       have he2 : e = .returned (.tuple #[.agg #[.slice a1.o.A0 0 a1.o.c0, .slice a1.o.A1 1 a1.o.c1, .slice a1.o.A2 0 a1.o.c2, .slice a1.o.A3 0 a1.o.c3, .slice a1.At 1 a1.ct], .agg #[.int .i64 0, .slice A1 0 c1, .int .i64 1]]) := he
       clear he
       subst he2
       have bb := ((Below.refl w1.heap.size w1).alloc (Nat.le_refl _) (.cells #[.slice a1.o.A0 0 a1.o.c0, .slice a1.o.A1 1 a1.o.c1, .slice a1.o.A2 0 a1.o.c2, .slice a1.o.A3 0 a1.o.c3, .slice a1.At 1 a1.ct] 37)).alloc (by simp) (.cells #[.int .i64 0, .slice A1 0 c1, .int .i64 1] 40)
       have HK0 := Lib.hid ((HK0.out.below hb1).below bb)
       have HC0 := Lib.hid ((HC0.out.below' hb1).below' bb)
       have HB1 := Lib.hid (hB1.trans (bb.mono hB1.size))
       have HO1 := Lib.hid (ho1.below bb)
       have HK1 := Lib.hid ((Blk.new w1 37 #[.slice a1.o.A0 0 a1.o.c0, .slice a1.o.A1 1 a1.o.c1, .slice a1.o.A2 0 a1.o.c2, .slice a1.o.A3 0 a1.o.c3, .slice a1.At 1 a1.ct]).alloc (.cells #[.int .i64 0, .slice A1 0 c1, .int .i64 1] 40))
       have HK2 := Lib.hid (Blk.new (w1.alloc (.cells #[.slice a1.o.A0 0 a1.o.c0, .slice a1.o.A1 1 a1.o.c1, .slice a1.o.A2 0 a1.o.c2, .slice a1.o.A3 0 a1.o.c3, .slice a1.At 1 a1.ct] 37)) 40 #[.int .i64 0, .slice A1 0 c1, .int .i64 1])
       rw [World.size_alloc] at HK2
       clear bb ho1 hv1 hB1 hb1 C1 HB0)
    | fail)
  generalize (w1.alloc (.cells #[.slice a1.o.A0 0 a1.o.c0, .slice a1.o.A1 1 a1.o.c1, .slice a1.o.A2 0 a1.o.c2, .slice a1.o.A3 0 a1.o.c3, .slice a1.At 1 a1.ct] 37)).alloc (.cells #[.int .i64 0, .slice A1 0 c1, .int .i64 1] 40) = wb at HK0 HC0 HB1 HO1 HK1 HK2 ⊢
  clear x0 x1 x2 x3 x4 x5 x6
  obtain ⟨x0, x1, x2, x3, x4, x5, x6⟩ := seven HK0.out
  obtain ⟨y0, y1, y2, y3, y4⟩ := five HK1.out
  have C2 := Lib.hid (hS.is (W := w) (w := wb) (a := a1) (ca := ⟨none, 0, some ⟨w.heap.size, 0, none⟩, 1, none, 0⟩) Aw.s2 Aw.ok1 Aw.fits HO1.out.rd HC0.out HB1.out)
  go_upto_region 4 with (first
    | (go_at_call 10; refine C2.out.mono ?_; rintro e w2 ⟨a2, A2, c2, he, ho2, hv2, hB2, hb2⟩
       have he2 : e = .returned (.tuple #[.agg #[.slice a2.o.A0 0 a2.o.c0, .slice a2.o.A1 1 a2.o.c1, .slice a2.o.A2 0 a2.o.c2, .slice a2.o.A3 0 a2.o.c3, .slice a2.At 1 a2.ct], .agg #[.int .i64 0, .slice A2 0 c2, .int .i64 1]]) := he
       clear he
       subst he2
       have bb := ((Below.refl w2.heap.size w2).alloc (Nat.le_refl _) (.cells #[.slice a2.o.A0 0 a2.o.c0, .slice a2.o.A1 1 a2.o.c1, .slice a2.o.A2 0 a2.o.c2, .slice a2.o.A3 0 a2.o.c3, .slice a2.At 1 a2.ct] 37)).alloc (by simp) (.cells #[.int .i64 0, .slice A2 0 c2, .int .i64 1] 40)
       have HK0 := Lib.hid ((HK0.out.below hb2).below bb)
       have HC0 := Lib.hid ((HC0.out.below' hb2).below' bb)
       have HK1 := Lib.hid ((HK1.out.below hb2).below bb)
       have HK2 := Lib.hid ((HK2.out.below hb2).below bb)
       have HO1 := Lib.hid ((HO1.out.below hb2).below bb)
       have HB2 := Lib.hid (hB2.trans (bb.mono hB2.size))
       have HK4 := Lib.hid ((Blk.new w2 37 #[.slice a2.o.A0 0 a2.o.c0, .slice a2.o.A1 1 a2.o.c1, .slice a2.o.A2 0 a2.o.c2, .slice a2.o.A3 0 a2.o.c3, .slice a2.At 1 a2.ct]).alloc (.cells #[.int .i64 0, .slice A2 0 c2, .int .i64 1] 40))
       have HK5 := Lib.hid (Blk.new (w2.alloc (.cells #[.slice a2.o.A0 0 a2.o.c0, .slice a2.o.A1 1 a2.o.c1, .slice a2.o.A2 0 a2.o.c2, .slice a2.o.A3 0 a2.o.c3, .slice a2.At 1 a2.ct] 37)) 40 #[.int .i64 0, .slice A2 0 c2, .int .i64 1])
       rw [World.size_alloc] at HK5
       clear bb ho2 hv2 hB2 hb2 C2 HB1)
    | fail)
  generalize (w2.alloc (.cells #[.slice a2.o.A0 0 a2.o.c0, .slice a2.o.A1 1 a2.o.c1, .slice a2.o.A2 0 a2.o.c2, .slice a2.o.A3 0 a2.o.c3, .slice a2.At 1 a2.ct] 37)).alloc (.cells #[.int .i64 0, .slice A2 0 c2, .int .i64 1] 40) = wc at HK0 HC0 HB2 HO1 HK1 HK2 HK4 HK5 ⊢
  clear x0 x1 x2 x3 x4 x5 x6 y0 y1 y2 y3 y4
  obtain ⟨y0, y1, y2, y3, y4⟩ := five HK1.out
  have c3 := hE (W := wc) (w := wc) (a := a1) Aw.ok1 HO1.out.rd (Below.refl _ _)
  rw [Aw.se] at c3
  have C3 := Lib.hid c3
  clear c3
  go_upto_region 5 with (first
    | (go_at_call 14; refine C3.out.mono ?_; rintro e w3 ⟨A3, c3, rfl, ho3, hB3, hb3⟩
       simp only [List.length_cons, List.length_nil, Nat.zero_add, Nat.reduceAdd] at ho3 ⊢
       have HO3 := Lib.hid ho3
       have HB3 := Lib.hid hB3
       clear ho3 hB3 hb3 C3)
    | fail)
  have hcap := own_cap HO3.out
  have C4 := Lib.hid (hD.is (W := w3) (w := w3) (c := c3) (r := some Aw.M1) (by rw [← Aw.se]; exact Mc.dec_enc Aw.ok1) (by simp) (by decide) hcap.1 (by have := hcap.2; omega) (Rd.own_ HO3.out) (Below.refl _ _))
  clear hcap y0 y1 y2 y3 y4
  go_upto_region 6 with (first
    | (go_at_call 13; refine C4.out.mono ?_; rintro e w4 ⟨a4, he, ho4, hB4, hb4⟩
       have he2 : e = .returned (.tuple #[.agg #[.slice a4.o.A0 0 a4.o.c0, .slice a4.o.A1 1 a4.o.c1, .slice a4.o.A2 0 a4.o.c2, .slice a4.o.A3 0 a4.o.c3, .slice a4.At 1 a4.ct], .bool true]) := he
       clear he
       subst he2
       have bb := ((Below.refl w4.heap.size w4).alloc (Nat.le_refl _) (.cells #[.slice a4.o.A0 0 a4.o.c0, .slice a4.o.A1 1 a4.o.c1, .slice a4.o.A2 0 a4.o.c2, .slice a4.o.A3 0 a4.o.c3, .slice a4.At 1 a4.ct] 37)).alloc (by simp) (.cells #[.int .u8 0] 5)
       have HO5 := Lib.hid (own_below (own_below HO3.out hb4) bb)
       have HO4 := Lib.hid (OwnM.below (m := Aw.M1) ho4 bb)
       have HB4 := Lib.hid (HB3.out.trans ((hB4.trans (bb.mono hB4.size)).mono HB3.out.size))
       have HK7 := Lib.hid ((Blk.new w4 37 #[.slice a4.o.A0 0 a4.o.c0, .slice a4.o.A1 1 a4.o.c1, .slice a4.o.A2 0 a4.o.c2, .slice a4.o.A3 0 a4.o.c3, .slice a4.At 1 a4.ct]).alloc (.cells #[.int .u8 0] 5))
       clear bb ho4 hB4 hb4 C4)
    | fail)
  have hold : Old w3 (Value.slice A3 12 c3).ownBlock := own_row_old HO3.out (Nat.le_refl _)
  have HOLD := Lib.hid hold
  have hsrc : Rd ((w4.alloc (.cells #[.slice a4.o.A0 0 a4.o.c0, .slice a4.o.A1 1 a4.o.c1, .slice a4.o.A2 0 a4.o.c2, .slice a4.o.A3 0 a4.o.c3, .slice a4.At 1 a4.ct] 37)).alloc (.cells #[.int .u8 0] 5)) ((w4.alloc (.cells #[.slice a4.o.A0 0 a4.o.c0, .slice a4.o.A1 1 a4.o.c1, .slice a4.o.A2 0 a4.o.c2, .slice a4.o.A3 0 a4.o.c3, .slice a4.At 1 a4.ct] 37)).heap.size + 1) (some ⟨(w4.alloc (.cells #[.slice a4.o.A0 0 a4.o.c0, .slice a4.o.A1 1 a4.o.c1, .slice a4.o.A2 0 a4.o.c2, .slice a4.o.A3 0 a4.o.c3, .slice a4.At 1 a4.ct] 37)).heap.size, 0, none⟩) 1 [.int .u8 0] := Rd.made _ #[.int .u8 0] 5 (0, 0) 1 rfl
  rw [World.size_alloc] at hsrc
  have HSRC := Lib.hid hsrc
  clear hold hsrc HB3
  go_upto_region 7 with (first
    | (at_builtin
       refine wpList_append_cells (W := wc) cellB (.tmp 35) (.tmp 36) rfl (by rfl) rfl HO5.out rfl HSRC.out (by intro u hu; simp at hu; subst hu; rfl) (by omega) (by omega) HB4.out ?_
       intro A5 c5 w5 hown5 hB5 hg5
       have hv5 : OwnB wc w5 A5 (12 + 1) c5 ([0, 1, 1, 97, 0, 0, 1, 1, 1, 0, 2, 0] ++ [0]) := hown5
       have hcap := own_cap hv5
       have HV5 := Lib.hid hv5
       have HB5 := Lib.hid hB5
       have HO4b := Lib.hid (HO4.out.old hg5 HOLD.out)
       have HK7b := Lib.hid (HK7.out.apart_own HO5.out (by decide) hg5)
       have C5 := Lib.hid (hD.is (W := w) (w := w5) (c := c5) (r := none) Aw.sn (by simp) (by decide) hcap.1 (by have := hcap.2; omega) (Rd.own_ HV5.out) (HB2.out.trans (hB5.mono HB2.out.size)))
       clear hown5 hB5 hg5 hv5 hcap HSRC HOLD HO5 HO4 HK7 HB4 HO3)
    | (go_at_call 13; refine C5.out.mono ?_; rintro e w6 ⟨a6, he, ho6, hB6, hb6⟩
       have he2 : e = .returned (.tuple #[.agg #[.slice a6.o.A0 0 a6.o.c0, .slice a6.o.A1 0 a6.o.c1, .slice a6.o.A2 0 a6.o.c2, .slice a6.o.A3 0 a6.o.c3, .slice a6.At 0 a6.ct], .bool false]) := he
       clear he
       subst he2
       have bb := (Below.refl w6.heap.size w6).alloc (Nat.le_refl _) (.cells #[.slice a6.o.A0 0 a6.o.c0, .slice a6.o.A1 0 a6.o.c1, .slice a6.o.A2 0 a6.o.c2, .slice a6.o.A3 0 a6.o.c3, .slice a6.At 0 a6.ct] 37)
       have bc := HB5.out.trans ((hb6.trans (bb.mono hb6.size)).mono HB5.out.size)
       have HK0 := Lib.hid (HK0.out.below bc)
       have HC0 := Lib.hid (HC0.out.below' bc)
       have HK1 := Lib.hid (HK1.out.below bc)
       have HK2 := Lib.hid (HK2.out.below bc)
       have HK4 := Lib.hid (HK4.out.below bc)
       have HK5 := Lib.hid (HK5.out.below bc)
       have HO1 := Lib.hid (HO1.out.below bc)
       have HO4 := Lib.hid ((HO4b.out.below hb6).below bb)
       have HK7 := Lib.hid ((HK7b.out.below hb6).below bb)
       have HB6 := Lib.hid (hB6.trans (bb.mono hB6.size))
       clear bb bc ho6 hB6 hb6 C5 HO4b HK7b HV5 HB5)
    | fail)
  generalize w6.alloc (.cells #[.slice a6.o.A0 0 a6.o.c0, .slice a6.o.A1 0 a6.o.c1, .slice a6.o.A2 0 a6.o.c2, .slice a6.o.A3 0 a6.o.c3, .slice a6.At 0 a6.ct] 37) = wd at HK0 HC0 HK1 HK2 HK4 HK5 HO1 HO4 HB6 HK7 ⊢
  obtain ⟨x0, x1, x2, x3, x4, x5, x6⟩ := seven HK0.out
  obtain ⟨y0, y1, y2, y3, y4⟩ := five HK1.out
  obtain ⟨z0, z1, z2, _, _, _⟩ := three HK2.out
  obtain ⟨u0, u1, u2, u3, u4⟩ := five HK4.out
  obtain ⟨v0, v1, v2, _, _, _⟩ := three HK5.out
  obtain ⟨p0, p1, p2, p3, p4⟩ := five HK7.out
  have FRAME : Hid (∀ wx, Below wd.heap.size wd wx → Blk wx (w.heap.size + 1) 28 #[.int .i64 1, .int .i64 1, .int .i64 4, .int .i64 0, .slice none 0 0, .slice (some ⟨w.heap.size, 0, none⟩) 1 1, .slice none 0 0] ∧ Blk wx w1.heap.size 37 #[.slice a1.o.A0 0 a1.o.c0, .slice a1.o.A1 1 a1.o.c1, .slice a1.o.A2 0 a1.o.c2, .slice a1.o.A3 0 a1.o.c3, .slice a1.At 1 a1.ct]) := Lib.hid (fun wx hb => ⟨HK0.out.below hb, HK1.out.below hb⟩)
  have CN1 := Lib.hid (hM.is wd (b := true) (decide_eq_true rfl) Aw.ok1 Aw.ok1 HO4.out.rd HO1.out.rd)
  go_wp2_with (first
    | (go_at_call 11; refine CN1.out.mono ?_; rintro e w7 ⟨rfl, hb7⟩
       obtain ⟨g0, g1⟩ := FRAME.out w7 hb7
       clear x0 x1 x2 x3 x4 x5 x6 y0 y1 y2 y3 y4
       obtain ⟨x0, x1, x2, x3, x4, x5, x6⟩ := seven g0
       obtain ⟨y0, y1, y2, y3, y4⟩ := five g1
       have hc8 := hE (W := w7) (w := w7) (a := ⟨⟨none, 0, none, 0, none, 0, none, 0⟩, none, 0⟩) Mc.Ok.zero (RdM.zero w7 0) (Below.refl _ _)
       rw [Aw.ze] at hc8
       have CN2 := Lib.hid hc8
       have HB7 := Lib.hid hb7
       clear hb7 CN1 hc8 g0 g1)
    | (go_at_call 14; refine CN2.out.mono ?_; rintro e w8 ⟨A8, c8, rfl, ho8, hB8, hb8⟩
       simp only [List.length_cons, List.length_nil, Nat.zero_add, Nat.reduceAdd] at ho8 ⊢
       have hs8 := str_of (c := c8) (Rd.own_ ho8)
       have hl1 : (strB [0, 0, 0, 0, 0] == ⟨#[0, 0, 0, 0, 0]⟩) = true := by rfl
       have hl2 : ((strB [0, 0, 0, 0, 0]).toList == [0, 0, 0, 0, 0]) = true := by rw [ByteArray.toList_eq]; decide
       have HB8 := Lib.hid (HB7.out.trans (hb8.mono HB7.out.size))
       obtain ⟨g0, g1⟩ := FRAME.out w8 HB8.out
       clear x0 x1 x2 x3 x4 x5 x6 y0 y1 y2 y3 y4
       obtain ⟨x0, x1, x2, x3, x4, x5, x6⟩ := seven g0
       obtain ⟨y0, y1, y2, y3, y4⟩ := five g1
       have CN3 := Lib.hid (hN.is w8 (b := true) (decide_eq_true rfl) Aw.fits Aw.fits (HC0.out.below HB8.out) (HC0.out.below HB8.out))
       clear hB8 hb8 g0 g1 CN2)
    | (go_at_call 29; refine CN3.out.mono ?_; rintro e w9 ⟨rfl, hb9⟩
       have HB9 := Lib.hid (HB8.out.trans (hb9.mono HB8.out.size))
       obtain ⟨g0, g1⟩ := FRAME.out w9 HB9.out
       clear x0 x1 x2 x3 x4 x5 x6 y0 y1 y2 y3 y4
       obtain ⟨x0, x1, x2, x3, x4, x5, x6⟩ := seven g0
       obtain ⟨y0, y1, y2, y3, y4⟩ := five g1
       have CN4 := Lib.hid (hN.is w9 (b := false) Aw.ee Aw.fits Aw.zfits (HC0.out.below HB9.out) (RdC.zero w9 0))
       clear hb9 g0 g1 CN3)
    | (go_at_call 29; refine CN4.out.mono ?_; rintro e w10 ⟨rfl, hb10⟩
       have HB10 := Lib.hid (HB9.out.trans (hb10.mono HB9.out.size))
       obtain ⟨g0, g1⟩ := FRAME.out w10 HB10.out
       clear x0 x1 x2 x3 x4 x5 x6 y0 y1 y2 y3 y4
       obtain ⟨y0, y1, y2, y3, y4⟩ := five g1
       have CN5 := Lib.hid (hM.is w10 (b := false) Aw.ne Aw.ok1 Mc.Ok.zero (HO1.out.rd.below HB10.out) (RdM.zero w10 0))
       clear hb10 g0 g1 CN4)
    | (go_at_call 11; refine CN5.out.mono ?_; rintro e w11 ⟨rfl, hb11⟩
       have HB11 := Lib.hid (HB6.out.trans ((HB10.out.trans (hb11.mono HB10.out.size)).mono HB6.out.size))
       clear hb11 CN5)
    | fail)
  go_ret
  exact ⟨rfl, HB11.out⟩
end Go.Proofs.YthfnnieklkaefaaGreat

namespace Go.Proofs.YthfnnieklkaefaaGreat
open Go.RowKit
set_option linter.unusedVariables false
/-- the variables of a step: the machine, the entry, the two answers' -/
structure VarsM (w wx : World) (b : Nat) (a : MA) (m : Mc) (ca : CA) (e : En) : Prop where
  v0 : Blk wx b 37 (machC a m)
  v1 : Blk wx (b + 1) 28 (entC ca e)
  v2 : Blk wx (b + 1 + 1) 37 #[.slice none 0 0, .slice none 0 0, .slice none 0 0, .slice none 0 0, .slice none 0 0]
  v3 : Blk wx (b + 1 + 1 + 1) 40 #[.int .i64 0, .slice none 0 0, .int .i64 0]
  rm : RdM wx w.heap.size a m
  rc : RdC wx w.heap.size ca e.c
  bel : Below w.heap.size w wx
theorem VarsM.below {w wx wy : World} {b : Nat} {a : MA} {m : Mc} {ca : CA} {e : En} (h : VarsM w wx b a m ca e) (hb : Below wx.heap.size wx wy) : VarsM w wy b a m ca e :=
  have hw : Below w.heap.size wx wy := hb.mono h.bel.size
  ⟨h.v0.below hb, h.v1.below hb, h.v2.below hb, h.v3.below hb, h.rm.below hw, h.rc.below hw, h.bel.trans hw⟩
theorem VarsM.start {w : World} {a : MA} {m : Mc} {ca : CA} {e : En} {B B' : Nat} (h : RdM w B a m) (h' : RdC w B' ca e.c) :
    VarsM w ((((w.alloc (.cells (machC a m) 37)).alloc (.cells (entC ca e) 28)).alloc (.cells #[.slice none 0 0, .slice none 0 0, .slice none 0 0, .slice none 0 0, .slice none 0 0] 37)).alloc (.cells #[.int .i64 0, .slice none 0 0, .int .i64 0] 40)) w.heap.size a m ca e := by
  have b1 : Below w.heap.size w (w.alloc (.cells (machC a m) 37)) := (Below.refl _ _).alloc (Nat.le_refl _) _
  have b2 := b1.alloc b1.size (.cells (entC ca e) 28)
  have b3 := b2.alloc b2.size (.cells #[.slice none 0 0, .slice none 0 0, .slice none 0 0, .slice none 0 0, .slice none 0 0] 37)
  have b4 := b3.alloc b3.size (.cells #[.int .i64 0, .slice none 0 0, .int .i64 0] 40)
  refine ⟨(((Blk.new w _ _).alloc _).alloc _).alloc _, ?_, ?_, ?_, h.fit.below b4, h'.fit.below b4, b4⟩
  · have := ((Blk.new (w.alloc (.cells (machC a m) 37)) 28 (entC ca e)).alloc (.cells #[.slice none 0 0, .slice none 0 0, .slice none 0 0, .slice none 0 0, .slice none 0 0] 37)).alloc (.cells #[.int .i64 0, .slice none 0 0, .int .i64 0] 40)
    rwa [World.size_alloc] at this
  · have := (Blk.new ((w.alloc (.cells (machC a m) 37)).alloc (.cells (entC ca e) 28)) 37 #[.slice none 0 0, .slice none 0 0, .slice none 0 0, .slice none 0 0, .slice none 0 0]).alloc (.cells #[.int .i64 0, .slice none 0 0, .int .i64 0] 40)
    rwa [World.size_alloc, World.size_alloc] at this
  · have := Blk.new (((w.alloc (.cells (machC a m) 37)).alloc (.cells (entC ca e) 28)).alloc (.cells #[.slice none 0 0, .slice none 0 0, .slice none 0 0, .slice none 0 0, .slice none 0 0] 37)) 40 #[.int .i64 0, .slice none 0 0, .int .i64 0]
    rwa [World.size_alloc, World.size_alloc, World.size_alloc] at this
/-- what a walk reads of them -/
theorem VarsM.cells {w wx : World} {b : Nat} {a : MA} {m : Mc} {ca : CA} {e : En} (h : VarsM w wx b a m ca e) :
    (wx.cell? ⟨b, 0, none⟩ = some (.slice a.o.A0 m.o.reg.length a.o.c0) ∧ wx.cell? ⟨b, 1, none⟩ = some (.slice a.o.A1 m.o.q.length a.o.c1) ∧ wx.cell? ⟨b, 2, none⟩ = some (.slice a.o.A2 m.o.lk.length a.o.c2) ∧ wx.cell? ⟨b, 3, none⟩ = some (.slice a.o.A3 m.o.mp.length a.o.c3) ∧ wx.cell? ⟨b, 4, none⟩ = some (.slice a.At m.t.length a.ct)) ∧
    (wx.cell? ⟨b + 1, 0, none⟩ = some (.int .i64 e.s) ∧ wx.cell? ⟨b + 1, 1, none⟩ = some (.int .i64 e.q) ∧ wx.cell? ⟨b + 1, 2, none⟩ = some (.int .i64 e.c.kind) ∧ wx.cell? ⟨b + 1, 3, none⟩ = some (.int .i64 e.c.who) ∧ wx.cell? ⟨b + 1, 4, none⟩ = some (.slice ca.Ak e.c.key.length ca.ck) ∧ wx.cell? ⟨b + 1, 5, none⟩ = some (.slice ca.Av e.c.val.length ca.cv) ∧ wx.cell? ⟨b + 1, 6, none⟩ = some (.slice ca.Ao e.c.old.length ca.co)) ∧
    (wx.frozen? ⟨b + 1 + 1, 0, none⟩ = false ∧ wx.frozen? ⟨b + 1 + 1, 1, none⟩ = false ∧ wx.frozen? ⟨b + 1 + 1, 2, none⟩ = false ∧ wx.frozen? ⟨b + 1 + 1, 3, none⟩ = false ∧ wx.frozen? ⟨b + 1 + 1, 4, none⟩ = false) ∧
    (wx.frozen? ⟨b + 1 + 1 + 1, 0, none⟩ = false ∧ wx.frozen? ⟨b + 1 + 1 + 1, 1, none⟩ = false ∧ wx.frozen? ⟨b + 1 + 1 + 1, 2, none⟩ = false) ∧
    (wx.cell? ⟨b + 1 + 1, 0, none⟩ = some (.slice none 0 0) ∧ wx.cell? ⟨b + 1 + 1, 1, none⟩ = some (.slice none 0 0) ∧ wx.cell? ⟨b + 1 + 1, 2, none⟩ = some (.slice none 0 0) ∧ wx.cell? ⟨b + 1 + 1, 3, none⟩ = some (.slice none 0 0) ∧ wx.cell? ⟨b + 1 + 1, 4, none⟩ = some (.slice none 0 0)) ∧
    (wx.cell? ⟨b + 1 + 1 + 1, 0, none⟩ = some (.int .i64 0) ∧ wx.cell? ⟨b + 1 + 1 + 1, 1, none⟩ = some (.slice none 0 0) ∧ wx.cell? ⟨b + 1 + 1 + 1, 2, none⟩ = some (.int .i64 0)) :=
  ⟨five (t := 37) h.v0, seven h.v1, five_frozen h.v2, ⟨h.v3.frozen 0, h.v3.frozen 1, h.v3.frozen 2⟩, five h.v2, ⟨h.v3.cell 0, h.v3.cell 1, h.v3.cell 2⟩⟩
/-- the two answers' variables are written -/
theorem VarsM.end_ {w wx : World} {b : Nat} {a : MA} {m : Mc} {ca : CA} {e : En} (h : VarsM w wx b a m ca e) (hw : w.heap.size ≤ b) {r : MAns} {a' : MA} {A : Option Addr} {c : Nat} (ho : OwnM w wx a' r.m) (hv : OwnB w wx A r.v.length c r.v)
    (x0 x1 x2 x3 x4 y0 y1 y2 : Value) (hx : #[x0, x1, x2, x3, x4] = machC a' r.m) (hy : #[y0, y1, y2] = #[.int .i64 r.e, .slice A r.v.length c, .int .i64 r.n]) {en : Ending} (he : en = .returned (.tuple #[.agg #[x0, x1, x2, x3, x4], .agg #[y0, y1, y2]])) :
    let wy := ((((((((wx.setCell ⟨b + 1 + 1, 0, none⟩ x0).setCell ⟨b + 1 + 1, 1, none⟩ x1).setCell ⟨b + 1 + 1, 2, none⟩ x2).setCell ⟨b + 1 + 1, 3, none⟩ x3).setCell ⟨b + 1 + 1, 4, none⟩ x4).setCell ⟨b + 1 + 1 + 1, 0, none⟩ y0).setCell ⟨b + 1 + 1 + 1, 1, none⟩ y1).setCell ⟨b + 1 + 1 + 1, 2, none⟩ y2)
    Blk wy (b + 1 + 1) 37 #[x0, x1, x2, x3, x4] ∧ Blk wy (b + 1 + 1 + 1) 40 #[y0, y1, y2] ∧ GotM w w r en wy := by
  intro wy
  obtain ⟨k1, k2, k3, k4, k5⟩ := put5 h.v2 x0 x1 x2 x3 x4
  have l0 := k5 (b + 1 + 1 + 1) _ _ (by omega) h.v3
  obtain ⟨l1, l2, l3⟩ := put3 l0 y0 y1 y2
  have q := k3 w a' r.m ho (by decide) (by decide) (by decide) (by decide) (by decide)
  have q2 := k4 _ _ _ _ _ _ hv (by decide)
  have hbel := l2 w (by omega) (k2 w (by omega) h.bel)
  refine ⟨((k1.set_other (by omega)).set_other (by omega)).set_other (by omega), l1, a', A, c, ?_, ?_, l3 _ _ _ _ _ _ q2 (by decide), hbel, hbel⟩
  · rw [he, hx, hy]; rfl
  · exact ((q.set_t l0 (by decide) (by decide) (by decide) (by decide) (by decide)).set_t (l0.set_ _ _) (by decide) (by decide) (by decide) (by decide) (by decide)).set_t ((l0.set_ _ _).set_ _ _) (by decide) (by decide) (by decide) (by decide) (by decide)
theorem VarsM.set {w wx : World} {b g i : Nat} {u : Value} {a : MA} {m : Mc} {ca : CA} {e : En} (h : VarsM w wx b a m ca e) (hw : w.heap.size ≤ b) (hg : b + 1 + 1 + 1 < g) : VarsM w (wx.setCell ⟨g, i, none⟩ u) b a m ca e :=
  have hb : Below w.heap.size wx (wx.setCell ⟨g, i, none⟩ u) := (Below.refl _ _).setCell (p := ⟨g, i, none⟩) (by show w.heap.size ≤ g; omega) u
  ⟨h.v0.set_other (by omega), h.v1.set_other (by omega), h.v2.set_other (by omega), h.v3.set_other (by omega), h.rm.below hb, h.rc.below hb, h.bel.trans hb⟩
/-- what a region reads, wherever its operations stand -/
def SM (b g h : Nat) (mc ec rc oc : Array Value) (w' : World) : Prop := Blk w' b 37 mc ∧ Blk w' (b + 1) 28 ec ∧ Blk w' g 40 rc ∧ Blk w' h 34 oc
theorem SM.below {b g h : Nat} {mc ec rc oc : Array Value} {w w' : World} (hs : SM b g h mc ec rc oc w) (hb : Below w.heap.size w w') : SM b g h mc ec rc oc w' := ⟨hs.1.below hb, hs.2.1.below hb, hs.2.2.1.below hb, hs.2.2.2.below hb⟩
theorem SM.set {b g h k i : Nat} {u : Value} {mc ec rc oc : Array Value} {w : World} (hs : SM b g h mc ec rc oc w) (h1 : b ≠ k) (h2 : b + 1 ≠ k) (h3 : g ≠ k) (h4 : h ≠ k) : SM b g h mc ec rc oc (w.setCell ⟨k, i, none⟩ u) := ⟨hs.1.set_other h1, hs.2.1.set_other h2, hs.2.2.1.set_other h3, hs.2.2.2.set_other h4⟩
theorem SM.set5 {b g h k : Nat} {u0 u1 u2 u3 u4 : Value} {mc ec rc oc : Array Value} {w : World} (hs : SM b g h mc ec rc oc w) (h1 : b ≠ k) (h2 : b + 1 ≠ k) (h3 : g ≠ k) (h4 : h ≠ k) : SM b g h mc ec rc oc (((((w.setCell ⟨k, 0, none⟩ u0).setCell ⟨k, 1, none⟩ u1).setCell ⟨k, 2, none⟩ u2).setCell ⟨k, 3, none⟩ u3).setCell ⟨k, 4, none⟩ u4) := ((((hs.set h1 h2 h3 h4).set h1 h2 h3 h4).set h1 h2 h3 h4).set h1 h2 h3 h4).set h1 h2 h3 h4
theorem SM.set3 {b g h k : Nat} {u0 u1 u2 : Value} {mc ec rc oc : Array Value} {w : World} (hs : SM b g h mc ec rc oc w) (h1 : b ≠ k) (h2 : b + 1 ≠ k) (h3 : g ≠ k) (h4 : h ≠ k) : SM b g h mc ec rc oc (((w.setCell ⟨k, 0, none⟩ u0).setCell ⟨k, 1, none⟩ u1).setCell ⟨k, 2, none⟩ u2) := ((hs.set h1 h2 h3 h4).set h1 h2 h3 h4).set h1 h2 h3 h4
set_option maxHeartbeats 4000000 in
set_option maxRecDepth 100000 in
theorem refStep_raw {w : World} {a : MA} {ca : CA} {m : Mc} {e : En} {B B' : Nat} (hM : m.Ok) (hc : e.c.Fits) (h : RdM w B a m) (h' : RdC w B' ca e.c) :
    Calls Tryz.prog 18 #[machV a m, entV ca e] w (GotM w w (m.step e)) := by
  obtain ⟨⟨A0, c0, A1, c1, A2, c2, A3, c3⟩, At, ct⟩ := a
  obtain ⟨Ak, ck, Av, cv, Ao, co⟩ := ca
  have HV := Lib.hid (VarsM.start (e := e) h h')
  have HM := Lib.hid hM
  have HC := Lib.hid hc
  have hlen : m.t.length ≤ 100000 := by have := hM.t8; omega
  clear h h' hM hc
  unfold machV entV
  simp only [machC, entC] at HV ⊢
  obtain ⟨K, hK⟩ : ∃ K, Tb.look m.t e.s e.q = K := ⟨_, rfl⟩
  have HLK := Lib.hid (fun (W w : World) (B : Nat) (h : RdL w B At m.t.length m.t) (hB : Below W.heap.size W w) => refLook_any (W := W) (c := ct) e.s e.q hlen HM.out.lim HM.out.t.rises h hB)
  rw [hK] at HLK
  by_cases hk : K.k = 0
  · have hkb : (K.k != 0) = false := by simpa using hk
    obtain ⟨r, hr⟩ : ∃ r, m.o.apply e.c = r := ⟨_, rfl⟩
    have HST : Hid (m.step e = ⟨⟨r.s, Tb.put m.t ⟨e.s, e.q, r.e, r.v, r.n⟩⟩, r.e, r.v, r.n⟩) := Lib.hid (by unfold Mc.step; rw [hK, if_pos hk, hr])
    have HRV : Hid (r.v.length ≤ 16) := Lib.hid (by rw [← hr]; exact (Ob.apply_fits (c := e.c) HM.out.o HM.out.lk).v)
    have HAP := Lib.hid (fun (W w : World) (a : OA) (ca : CA) (B B' : Nat) (h : RdO w B a m.o) (h' : RdC w B' ca e.c) (hB : Below W.heap.size W w) => refApply_any (W := W) HM.out.o HC.out h h' hB)
    rw [hr] at HAP
    clear hK hk hr
    go_enter Tryz.func18, Tryz.ntmps18
    go_upto_region 1 with fail
    generalize ((((w.alloc (.cells #[.slice A0 m.o.reg.length c0, .slice A1 m.o.q.length c1, .slice A2 m.o.lk.length c2, .slice A3 m.o.mp.length c3, .slice At m.t.length ct] 37)).alloc (.cells #[.int .i64 e.s, .int .i64 e.q, .int .i64 e.c.kind, .int .i64 e.c.who, .slice Ak e.c.key.length ck, .slice Av e.c.val.length cv, .slice Ao e.c.old.length co] 28)).alloc (.cells #[.slice none 0 0, .slice none 0 0, .slice none 0 0, .slice none 0 0, .slice none 0 0] 37)).alloc (.cells #[.int .i64 0, .slice none 0 0, .int .i64 0] 40)) = wa at HV ⊢
    obtain ⟨⟨x0, x1, x2, x3, x4⟩, ⟨y0, y1, y2, y3, y4, y5, y6⟩, _⟩ := HV.out.cells
    go_upto_region 6 with (first
      | (go_at_call 64; refine (HLK.out w _ _ HV.out.rm.t HV.out.bel).mono ?_; rintro en w1 ⟨A5, c5, rfl, ho1, hB1, hb1⟩; unfold resV; have HG1 := Lib.hid (HV.out.below hb1).v3.lt; have hb1' := hb1.alloc hb1.size (.cells #[.int .i64 K.e, .slice A5 K.v.length c5, .int .i64 K.n] 40); have HV1 := Lib.hid (HV.out.below hb1'); have HK1 := Lib.hid (Blk.new w1 40 #[.int .i64 K.e, .slice A5 K.v.length c5, .int .i64 K.n]); obtain ⟨⟨x0, x1, x2, x3, x4⟩, ⟨y0, y1, y2, y3, y4, y5, y6⟩, _⟩ := HV1.out.cells)
      | (go_at_call 65; refine (HAP.out w _ ⟨A0, c0, A1, c1, A2, c2, A3, c3⟩ ⟨Ak, ck, Av, cv, Ao, co⟩ _ _ HV1.out.rm.o HV1.out.rc HV1.out.bel).mono ?_; rintro en w2 ⟨a2, A6, c6, rfl, ho2, hv2, hB2, hb2⟩; unfold resV objV objC; have hb2' := hb2.alloc hb2.size (.cells #[.slice a2.A0 r.s.reg.length a2.c0, .slice a2.A1 r.s.q.length a2.c1, .slice a2.A2 r.s.lk.length a2.c2, .slice a2.A3 r.s.mp.length a2.c3] 34); have HG2 := Lib.hid (HK1.out.below hb2).lt; have HV2 := Lib.hid (HV1.out.below hb2'); have HK2 := Lib.hid (HK1.out.below hb2'); have HQ2 := Lib.hid (Blk.new w2 34 #[.slice a2.A0 r.s.reg.length a2.c0, .slice a2.A1 r.s.q.length a2.c1, .slice a2.A2 r.s.lk.length a2.c2, .slice a2.A3 r.s.mp.length a2.c3]); have HO2 := Lib.hid (ho2.below ((Below.refl _ _).alloc (Nat.le_refl _) (.cells #[.slice a2.A0 r.s.reg.length a2.c0, .slice a2.A1 r.s.q.length a2.c1, .slice a2.A2 r.s.lk.length a2.c2, .slice a2.A3 r.s.mp.length a2.c3] 34))); have HR2 := Lib.hid (own_below hv2 ((Below.refl _ _).alloc (Nat.le_refl _) (.cells #[.slice a2.A0 r.s.reg.length a2.c0, .slice a2.A1 r.s.q.length a2.c1, .slice a2.A2 r.s.lk.length a2.c2, .slice a2.A3 r.s.mp.length a2.c3] 34))); obtain ⟨k0, k1, k2, f0, f1, f2⟩ := three HK2.out; clear hb2' hb2 ho2 hv2 hB2)
      | fail)
    have hg1 := HG1.out
    have hg2 := HG2.out
    obtain ⟨p1, p2, p3⟩ := put3 HK2.out (.int .i64 r.e) (.slice A6 r.v.length c6) (.int .i64 r.n)
    have HV6 := Lib.hid (((HV2.out.set (Nat.le_refl _) hg1 (i := 0) (u := .int .i64 r.e)).set (Nat.le_refl _) hg1 (i := 1) (u := .slice A6 r.v.length c6)).set (Nat.le_refl _) hg1 (i := 2) (u := .int .i64 r.n))
    have HQ6 := Lib.hid (((HQ2.out.set_other (b := w1.heap.size) (i := 0) (u := .int .i64 r.e) (by omega)).set_other (b := w1.heap.size) (i := 1) (u := .slice A6 r.v.length c6) (by omega)).set_other (b := w1.heap.size) (i := 2) (u := .int .i64 r.n) (by omega))
    have HK6 := Lib.hid p1
    have HR6 := Lib.hid (p3 _ _ _ _ _ _ HR2.out (by decide))
    have HO6 := Lib.hid (((HO2.out.set_t HK2.out (i := 0) (u := .int .i64 r.e) (by decide) (by decide) (by decide) (by decide)).set_t (HK2.out.set_ _ _) (i := 1) (u := .slice A6 r.v.length c6) (by decide) (by decide) (by decide) (by decide)).set_t ((HK2.out.set_ _ _).set_ _ _) (i := 2) (u := .int .i64 r.n) (by decide) (by decide) (by decide) (by decide))
    clear p1 p2 p3 HV2 HQ2 HK2 HO2 HR2 HG1 HG2 HV1 HK1 HV x0 x1 x2 x3 x4 y0 y1 y2 y3 y4 y5 y6 k0 k1 k2 f0 f1 f2 HAP HLK
    generalize ((((w2.alloc (.cells #[.slice a2.A0 r.s.reg.length a2.c0, .slice a2.A1 r.s.q.length a2.c1, .slice a2.A2 r.s.lk.length a2.c2, .slice a2.A3 r.s.mp.length a2.c3] 34)).setCell ⟨w1.heap.size, 0, none⟩ (.int .i64 r.e)).setCell ⟨w1.heap.size, 1, none⟩ (.slice A6 r.v.length c6)).setCell ⟨w1.heap.size, 2, none⟩ (.int .i64 r.n)) = wx at HV6 HQ6 HK6 HR6 HO6 ⊢
    have HP := Lib.hid (fun (W w : World) (B B' : Nat) (h : RdL w B At m.t.length m.t) (h' : Rd w B' A6 r.v.length (bv r.v)) (hB : Below W.heap.size W w) => refPutL_any (W := W) (l := ⟨e.s, e.q, r.e, r.v, r.n⟩) (c := ct) (c' := c6) hlen HM.out.lim (show Lim 0 r.v.length by have := HRV.out; unfold Lim; omega) HM.out.t.rises h h' hB)
    have hbd : Below wx.heap.size wx wx.drew := (Below.refl _ _).drew
    have HV7 := Lib.hid (HV6.out.below hbd)
    have HR7 := Lib.hid (own_below HR6.out hbd)
    have HO7 := Lib.hid (HO6.out.below hbd)
    have HS7 : Hid (SM w.heap.size w1.heap.size w2.heap.size #[.slice A0 m.o.reg.length c0, .slice A1 m.o.q.length c1, .slice A2 m.o.lk.length c2, .slice A3 m.o.mp.length c3, .slice At m.t.length ct] #[.int .i64 e.s, .int .i64 e.q, .int .i64 e.c.kind, .int .i64 e.c.who, .slice Ak e.c.key.length ck, .slice Av e.c.val.length cv, .slice Ao e.c.old.length co] #[.int .i64 r.e, .slice A6 r.v.length c6, .int .i64 r.n] #[.slice a2.A0 r.s.reg.length a2.c0, .slice a2.A1 r.s.q.length a2.c1, .slice a2.A2 r.s.lk.length a2.c2, .slice a2.A3 r.s.mp.length a2.c3] wx.drew) := Lib.hid ⟨HV7.out.v0, HV7.out.v1, HK6.out.below hbd, HQ6.out.below hbd⟩
    refine wp_region_held_drew (S := SM w.heap.size w1.heap.size w2.heap.size #[.slice A0 m.o.reg.length c0, .slice A1 m.o.q.length c1, .slice A2 m.o.lk.length c2, .slice A3 m.o.mp.length c3, .slice At m.t.length ct] #[.int .i64 e.s, .int .i64 e.q, .int .i64 e.c.kind, .int .i64 e.c.who, .slice Ak e.c.key.length ck, .slice Av e.c.val.length cv, .slice Ao e.c.old.length co] #[.int .i64 r.e, .slice A6 r.v.length c6, .int .i64 r.n] #[.slice a2.A0 r.s.reg.length a2.c0, .slice a2.A1 r.s.q.length a2.c1, .slice a2.A2 r.s.lk.length a2.c2, .slice a2.A3 r.s.mp.length a2.c3]) (by kernel_rfl) HS7.out (fun _ => ?_)
    clear hbd HV6 HR6 HO6 HK6 HQ6
    generalize wx.drew = wd at HV7 HR7 HO7 HS7 ⊢
    refine wpAnyH_take (i := 1) (v := .pointer (some ⟨w.heap.size, 4, none⟩)) rfl (by kernel_rfl) (by kernel_rfl) (by kernel_rfl) (fun _ _ _ h => h) (Or.inl ⟨by kernel_rfl, fun w _ => by go_simp⟩) HS7.out ?_
    refine wpAnyH_take (i := 3) (v := .pointer (some ⟨w.heap.size + 1, 0, none⟩)) rfl (by kernel_rfl) (by kernel_rfl) (by kernel_rfl) (fun _ _ _ h => h) (Or.inl ⟨by kernel_rfl, fun w _ => by go_simp⟩) HS7.out ?_
    refine wpAnyH_take (i := 5) (v := .pointer (some ⟨w.heap.size + 1, 1, none⟩)) rfl (by kernel_rfl) (by kernel_rfl) (by kernel_rfl) (fun _ _ _ h => h) (Or.inl ⟨by kernel_rfl, fun w _ => by go_simp⟩) HS7.out ?_
    refine wpAnyH_take (i := 0) (v := .agg #[.slice a2.A0 r.s.reg.length a2.c0, .slice a2.A1 r.s.q.length a2.c1, .slice a2.A2 r.s.lk.length a2.c2, .slice a2.A3 r.s.mp.length a2.c3]) rfl (by kernel_rfl) (by kernel_rfl) (by kernel_rfl) (fun _ _ _ h => h) (Or.inl ⟨by kernel_rfl, fun w h => by obtain ⟨q0, q1, q2, q3, _⟩ := four h.2.2.2; go_simp⟩) HS7.out ?_
    refine wpAnyH_take (i := 2) (v := .slice At m.t.length ct) rfl (by kernel_rfl) (by kernel_rfl) (by kernel_rfl) (fun _ _ _ h => h) (Or.inl ⟨by kernel_rfl, fun w h => by obtain ⟨q0, q1, q2, q3, q4⟩ := five h.1; go_simp⟩) HS7.out ?_
    refine wpAnyH_take (i := 4) (v := .int .i64 e.s) rfl (by kernel_rfl) (by kernel_rfl) (by kernel_rfl) (fun _ _ _ h => h) (Or.inl ⟨by kernel_rfl, fun w h => by obtain ⟨q0, q1, q2, q3, q4, q5, q6⟩ := seven h.2.1; go_simp⟩) HS7.out ?_
    refine wpAnyH_take (i := 6) (v := .int .i64 e.q) rfl (by kernel_rfl) (by kernel_rfl) (by kernel_rfl) (fun _ _ _ h => h) (Or.inl ⟨by kernel_rfl, fun w h => by obtain ⟨q0, q1, q2, q3, q4, q5, q6⟩ := seven h.2.1; go_simp⟩) HS7.out ?_
    refine wpAnyH_take (i := 7) (v := .agg #[.int .i64 r.e, .slice A6 r.v.length c6, .int .i64 r.n]) rfl (by kernel_rfl) (by kernel_rfl) (by kernel_rfl) (fun _ _ _ h => h) (Or.inl ⟨by kernel_rfl, fun w h => by obtain ⟨q0, q1, q2, _, _, _⟩ := three h.2.2.1; go_simp⟩) HS7.out ?_
    refine wpAnyH_take (i := 10) (v := .agg #[.int .i64 r.e, .slice A6 r.v.length c6, .int .i64 r.n]) rfl (by kernel_rfl) (by kernel_rfl) (by kernel_rfl) (fun _ _ _ h => h) (Or.inl ⟨by kernel_rfl, fun w h => by obtain ⟨q0, q1, q2, _, _, _⟩ := three h.2.2.1; go_simp⟩) HS7.out ?_
    refine wpAnyH_ready (rs := [8]) (by kernel_rfl) (by simp) ?_
    refine AllReadyH.cons rfl (fun K hK => ?_) AllReadyH.nil
    go_simp
    refine (HP.out w _ _ _ HV7.out.rm.t (Rd.own_ HR7.out) HV7.out.bel).mono ?_
    rintro en w3 ⟨A7, c7, rfl, ho7, hB7, hb7⟩
    have HK8 := Lib.hid (HS7.out.2.2.1.below hb7)
    have HV8 := Lib.hid (HV7.out.below hb7)
    have HR8 := Lib.hid (own_below HR7.out hb7)
    have HO8 := Lib.hid (HO7.out.below hb7)
    have HS8 := Lib.hid (HS7.out.below hb7)
    clear HV7 HR7 HO7 HS7
    go_simp
    refine hK.out _ _ HS8.out (fun _ => ?_)
    clear hK K
    refine wpAnyH_take (i := 9) (v := .agg #[.slice a2.A0 r.s.reg.length a2.c0, .slice a2.A1 r.s.q.length a2.c1, .slice a2.A2 r.s.lk.length a2.c2, .slice a2.A3 r.s.mp.length a2.c3, .slice A7 (Tb.put m.t ⟨e.s, e.q, r.e, r.v, r.n⟩).length c7]) rfl (by kernel_rfl) (by kernel_rfl) (by kernel_rfl) (fun _ _ _ h => h) (Or.inl ⟨by kernel_rfl, fun w _ => by go_simp⟩) HS8.out ?_
    have l1 := HK8.out.lt
    have HS9 := Lib.hid (HS8.out.set5 (k := w.heap.size + 1 + 1) (u0 := .slice a2.A0 r.s.reg.length a2.c0) (u1 := .slice a2.A1 r.s.q.length a2.c1) (u2 := .slice a2.A2 r.s.lk.length a2.c2) (u3 := .slice a2.A3 r.s.mp.length a2.c3) (u4 := .slice A7 (Tb.put m.t ⟨e.s, e.q, r.e, r.v, r.n⟩).length c7) (by omega) (by omega) (by omega) (by omega))
    obtain ⟨_, _, _, _, k5⟩ := put5 HV8.out.v2 (.slice a2.A0 r.s.reg.length a2.c0) (.slice a2.A1 r.s.q.length a2.c1) (.slice a2.A2 r.s.lk.length a2.c2) (.slice a2.A3 r.s.mp.length a2.c3) (.slice A7 (Tb.put m.t ⟨e.s, e.q, r.e, r.v, r.n⟩).length c7)
    have l0 := k5 (w.heap.size + 1 + 1 + 1) _ _ (by omega) HV8.out.v3
    have HS10 := Lib.hid (HS9.out.set3 (k := w.heap.size + 1 + 1 + 1) (u0 := .int .i64 r.e) (u1 := .slice A6 r.v.length c6) (u2 := .int .i64 r.n) (by omega) (by omega) (by omega) (by omega))
    obtain ⟨e1, e2, e3⟩ := HV8.out.end_ (Nat.le_refl _) (r := ⟨⟨r.s, Tb.put m.t ⟨e.s, e.q, r.e, r.v, r.n⟩⟩, r.e, r.v, r.n⟩) (a' := ⟨a2, A7, c7⟩) ⟨HO8.out, ho7⟩ HR8.out (.slice a2.A0 r.s.reg.length a2.c0) (.slice a2.A1 r.s.q.length a2.c1) (.slice a2.A2 r.s.lk.length a2.c2) (.slice a2.A3 r.s.mp.length a2.c3) (.slice A7 (Tb.put m.t ⟨e.s, e.q, r.e, r.v, r.n⟩).length c7) (.int .i64 r.e) (.slice A6 r.v.length c6) (.int .i64 r.n) rfl rfl rfl
    have HE := Lib.hid (And.intro e1 (And.intro e2 e3))
    obtain ⟨_, _, ⟨z0, z1, z2, z3, z4⟩, ⟨u0, u1, u2⟩, ⟨q0, q1, q2, q3, q4⟩, ⟨r0, r1, r2⟩⟩ := HV8.out.cells
    obtain ⟨p0, p1, p2, d0, d1, d2⟩ := three l0
    clear k5 l0 e1 e2 e3 r0 r1 r2 u0 u1 u2
    refine wpAnyH_ready (rs := [11]) (by kernel_rfl) (by simp) ?_
    refine AllReadyH.cons rfl (fun K hK => ?_) AllReadyH.nil
    go_simp
    refine hK.out _ _ HS9.out (fun _ => ?_)
    clear hK K
    clear z0 z1 z2 z3 z4 q0 q1 q2 q3 q4
    generalize (((((w3.setCell ⟨w.heap.size + 1 + 1, 0, none⟩ (.slice a2.A0 r.s.reg.length a2.c0)).setCell ⟨w.heap.size + 1 + 1, 1, none⟩ (.slice a2.A1 r.s.q.length a2.c1)).setCell ⟨w.heap.size + 1 + 1, 2, none⟩ (.slice a2.A2 r.s.lk.length a2.c2)).setCell ⟨w.heap.size + 1 + 1, 3, none⟩ (.slice a2.A3 r.s.mp.length a2.c3)).setCell ⟨w.heap.size + 1 + 1, 4, none⟩ (.slice A7 (Tb.put m.t ⟨e.s, e.q, r.e, r.v, r.n⟩).length c7)) = w9 at HE HS9 HS10 p0 p1 p2 d0 d1 d2 ⊢
    refine wpAnyH_ready (rs := [12]) (by kernel_rfl) (by simp) ?_
    refine AllReadyH.cons rfl (fun K hK => ?_) AllReadyH.nil
    go_simp
    refine hK.out _ _ HS10.out (fun _ => ?_)
    clear hK K
    refine wpAnyH_done (by kernel_rfl) ?_ _
    go_wp2_with fail
    refine bodyPost_ret (results_cells2 rfl _ _ _ _ _ _ _ _ _ _ rfl rfl HE.out.1 HE.out.2.1 Tryz.underlying37 rfl (by kernel_rfl) Tryz.underlying40 rfl (by kernel_rfl)) rfl ?_
    rw [HST.out]
    exact HE.out.2.2
  · have hkb : (K.k != 0) = true := by simpa using hk
    have HST : Hid (m.step e = ⟨m, K.e, K.v, K.n⟩) := Lib.hid (by unfold Mc.step; rw [hK, if_neg hk])
    have HAP := Lib.hid (fun (W w : World) (a : OA) (B : Nat) (h : RdO w B a m.o) (hB : Below W.heap.size W w) => refApply_any (W := W) HM.out.o Cm.Fits.zero h (RdC.zero w w.heap.size) hB)
    rw [apply_zero] at HAP
    clear hK hk
    go_enter Tryz.func18, Tryz.ntmps18
    go_upto_region 1 with fail
    generalize ((((w.alloc (.cells #[.slice A0 m.o.reg.length c0, .slice A1 m.o.q.length c1, .slice A2 m.o.lk.length c2, .slice A3 m.o.mp.length c3, .slice At m.t.length ct] 37)).alloc (.cells #[.int .i64 e.s, .int .i64 e.q, .int .i64 e.c.kind, .int .i64 e.c.who, .slice Ak e.c.key.length ck, .slice Av e.c.val.length cv, .slice Ao e.c.old.length co] 28)).alloc (.cells #[.slice none 0 0, .slice none 0 0, .slice none 0 0, .slice none 0 0, .slice none 0 0] 37)).alloc (.cells #[.int .i64 0, .slice none 0 0, .int .i64 0] 40)) = wa at HV ⊢
    obtain ⟨⟨x0, x1, x2, x3, x4⟩, ⟨y0, y1, y2, y3, y4, y5, y6⟩, _⟩ := HV.out.cells
    go_upto_region 4 with (first
      | (go_at_call 64; refine (HLK.out w _ _ HV.out.rm.t HV.out.bel).mono ?_; rintro en w1 ⟨A5, c5, rfl, ho1, hB1, hb1⟩; unfold resV; have HG1 := Lib.hid (HV.out.below hb1).v3.lt; have hb1' := hb1.alloc hb1.size (.cells #[.int .i64 K.e, .slice A5 K.v.length c5, .int .i64 K.n] 40); have HV1 := Lib.hid (HV.out.below hb1'); have HK1 := Lib.hid (Blk.new w1 40 #[.int .i64 K.e, .slice A5 K.v.length c5, .int .i64 K.n]); have HO1 := Lib.hid (own_below ho1 ((Below.refl _ _).alloc (Nat.le_refl _) (.cells #[.int .i64 K.e, .slice A5 K.v.length c5, .int .i64 K.n] 40))); obtain ⟨⟨x0, x1, x2, x3, x4⟩, ⟨y0, y1, y2, y3, y4, y5, y6⟩, _⟩ := HV1.out.cells)
      | (go_at_call 65; refine (HAP.out w _ ⟨A0, c0, A1, c1, A2, c2, A3, c3⟩ _ HV1.out.rm.o HV1.out.bel).mono ?_; rintro en w2 ⟨a2, A6, c6, rfl, ho2, hv2, hB2, hb2⟩; have HG3 := Lib.hid (HK1.out.below hb2).lt; unfold resV objV objC; simp only [List.length_nil])
      | fail)
    generalize hwx : ((w2.alloc (.cells #[.slice a2.A0 m.o.reg.length a2.c0, .slice a2.A1 m.o.q.length a2.c1, .slice a2.A2 m.o.lk.length a2.c2, .slice a2.A3 m.o.mp.length a2.c3] 34)).alloc (.cells #[.int .i64 7, .slice A6 0 c6, .int .i64 0] 40)) = wx
    have hb2' : Below (w1.alloc (.cells #[.int .i64 K.e, .slice A5 K.v.length c5, .int .i64 K.n] 40)).heap.size (w1.alloc (.cells #[.int .i64 K.e, .slice A5 K.v.length c5, .int .i64 K.n] 40)) wx := by rw [← hwx]; exact (hb2.alloc hb2.size _).alloc (hb2.alloc hb2.size _).size _
    have HV6 := Lib.hid (HV1.out.below hb2')
    have HK6 := Lib.hid (HK1.out.below hb2')
    have HR6 := Lib.hid (own_below HO1.out hb2')
    have hbx : Below w2.heap.size w2 wx := by rw [← hwx]; exact ((Below.refl _ _).alloc (Nat.le_refl _) _).alloc (by simp) _
    have HO6 := Lib.hid (ho2.below hbx)
    have HQ6 : Hid (Blk wx w2.heap.size 34 #[.slice a2.A0 m.o.reg.length a2.c0, .slice a2.A1 m.o.q.length a2.c1, .slice a2.A2 m.o.lk.length a2.c2, .slice a2.A3 m.o.mp.length a2.c3]) := Lib.hid (by rw [← hwx]; exact (Blk.new w2 _ _).alloc _)
    clear hwx hb2' hbx HV1 HK1 HO1 HV x0 x1 x2 x3 x4 y0 y1 y2 y3 y4 y5 y6 HAP HLK ho2 hv2 hB2 hb2 ho1 hB1 hb1 hb1'
    have HP := Lib.hid (fun (W w : World) (B : Nat) (h : RdL w B At m.t.length m.t) (hB : Below W.heap.size W w) => refTable_any (W := W) (c := ct) hlen HM.out.lim h hB)
    have hg1 := HG1.out
    have hg2 : w1.heap.size < w2.heap.size := HG3.out
    have hbd : Below wx.heap.size wx wx.drew := (Below.refl _ _).drew
    have HV7 := Lib.hid (HV6.out.below hbd)
    have HR7 := Lib.hid (own_below HR6.out hbd)
    have HO7 := Lib.hid (HO6.out.below hbd)
    have HS7 : Hid (SM w.heap.size w1.heap.size w2.heap.size #[.slice A0 m.o.reg.length c0, .slice A1 m.o.q.length c1, .slice A2 m.o.lk.length c2, .slice A3 m.o.mp.length c3, .slice At m.t.length ct] #[.int .i64 e.s, .int .i64 e.q, .int .i64 e.c.kind, .int .i64 e.c.who, .slice Ak e.c.key.length ck, .slice Av e.c.val.length cv, .slice Ao e.c.old.length co] #[.int .i64 K.e, .slice A5 K.v.length c5, .int .i64 K.n] #[.slice a2.A0 m.o.reg.length a2.c0, .slice a2.A1 m.o.q.length a2.c1, .slice a2.A2 m.o.lk.length a2.c2, .slice a2.A3 m.o.mp.length a2.c3] wx.drew) := Lib.hid ⟨HV7.out.v0, HV7.out.v1, HK6.out.below hbd, HQ6.out.below hbd⟩
    refine wp_region_held_drew (S := SM w.heap.size w1.heap.size w2.heap.size #[.slice A0 m.o.reg.length c0, .slice A1 m.o.q.length c1, .slice A2 m.o.lk.length c2, .slice A3 m.o.mp.length c3, .slice At m.t.length ct] #[.int .i64 e.s, .int .i64 e.q, .int .i64 e.c.kind, .int .i64 e.c.who, .slice Ak e.c.key.length ck, .slice Av e.c.val.length cv, .slice Ao e.c.old.length co] #[.int .i64 K.e, .slice A5 K.v.length c5, .int .i64 K.n] #[.slice a2.A0 m.o.reg.length a2.c0, .slice a2.A1 m.o.q.length a2.c1, .slice a2.A2 m.o.lk.length a2.c2, .slice a2.A3 m.o.mp.length a2.c3]) (by kernel_rfl) HS7.out (fun _ => ?_)
    clear hbd HV6 HR6 HO6 HK6 HQ6
    generalize wx.drew = wd at HV7 HR7 HO7 HS7 ⊢
    refine wpAnyH_take (i := 1) (v := .pointer (some ⟨w.heap.size, 4, none⟩)) rfl (by kernel_rfl) (by kernel_rfl) (by kernel_rfl) (fun _ _ _ h => h) (Or.inl ⟨by kernel_rfl, fun w _ => by go_simp⟩) HS7.out ?_
    refine wpAnyH_take (i := 0) (v := .agg #[.slice a2.A0 m.o.reg.length a2.c0, .slice a2.A1 m.o.q.length a2.c1, .slice a2.A2 m.o.lk.length a2.c2, .slice a2.A3 m.o.mp.length a2.c3]) rfl (by kernel_rfl) (by kernel_rfl) (by kernel_rfl) (fun _ _ _ h => h) (Or.inl ⟨by kernel_rfl, fun w h => by obtain ⟨q0, q1, q2, q3, _⟩ := four h.2.2.2; go_simp⟩) HS7.out ?_
    refine wpAnyH_take (i := 2) (v := .slice At m.t.length ct) rfl (by kernel_rfl) (by kernel_rfl) (by kernel_rfl) (fun _ _ _ h => h) (Or.inl ⟨by kernel_rfl, fun w h => by obtain ⟨q0, q1, q2, q3, q4⟩ := five h.1; go_simp⟩) HS7.out ?_
    refine wpAnyH_take (i := 5) (v := .agg #[.int .i64 K.e, .slice A5 K.v.length c5, .int .i64 K.n]) rfl (by kernel_rfl) (by kernel_rfl) (by kernel_rfl) (fun _ _ _ h => h) (Or.inl ⟨by kernel_rfl, fun w h => by obtain ⟨q0, q1, q2, _, _, _⟩ := three h.2.2.1; go_simp⟩) HS7.out ?_
    refine wpAnyH_ready (rs := [3]) (by kernel_rfl) (by simp) ?_
    refine AllReadyH.cons rfl (fun K hK => ?_) AllReadyH.nil
    go_simp
    refine (HP.out w _ _ HV7.out.rm.t HV7.out.bel).mono ?_
    rintro en w3 ⟨A7, c7, rfl, ho7, hB7, hb7⟩
    have HK8 := Lib.hid (HS7.out.2.2.1.below hb7)
    have HV8 := Lib.hid (HV7.out.below hb7)
    have HR8 := Lib.hid (own_below HR7.out hb7)
    have HO8 := Lib.hid (HO7.out.below hb7)
    have HS8 := Lib.hid (HS7.out.below hb7)
    clear HV7 HR7 HO7 HS7
    go_simp
    refine hK.out _ _ HS8.out (fun _ => ?_)
    clear hK K
    refine wpAnyH_take (i := 4) (v := .agg #[.slice a2.A0 m.o.reg.length a2.c0, .slice a2.A1 m.o.q.length a2.c1, .slice a2.A2 m.o.lk.length a2.c2, .slice a2.A3 m.o.mp.length a2.c3, .slice A7 m.t.length c7]) rfl (by kernel_rfl) (by kernel_rfl) (by kernel_rfl) (fun _ _ _ h => h) (Or.inl ⟨by kernel_rfl, fun w _ => by go_simp⟩) HS8.out ?_
    have l1 := HK8.out.lt
    have HS9 := Lib.hid (HS8.out.set5 (k := w.heap.size + 1 + 1) (u0 := .slice a2.A0 m.o.reg.length a2.c0) (u1 := .slice a2.A1 m.o.q.length a2.c1) (u2 := .slice a2.A2 m.o.lk.length a2.c2) (u3 := .slice a2.A3 m.o.mp.length a2.c3) (u4 := .slice A7 m.t.length c7) (by omega) (by omega) (by omega) (by omega))
    obtain ⟨_, _, _, _, k5⟩ := put5 HV8.out.v2 (.slice a2.A0 m.o.reg.length a2.c0) (.slice a2.A1 m.o.q.length a2.c1) (.slice a2.A2 m.o.lk.length a2.c2) (.slice a2.A3 m.o.mp.length a2.c3) (.slice A7 m.t.length c7)
    have l0 := k5 (w.heap.size + 1 + 1 + 1) _ _ (by omega) HV8.out.v3
    have HS10 := Lib.hid (HS9.out.set3 (k := w.heap.size + 1 + 1 + 1) (u0 := .int .i64 K.e) (u1 := .slice A5 K.v.length c5) (u2 := .int .i64 K.n) (by omega) (by omega) (by omega) (by omega))
    obtain ⟨e1, e2, e3⟩ := HV8.out.end_ (Nat.le_refl _) (r := ⟨m, K.e, K.v, K.n⟩) (a' := ⟨a2, A7, c7⟩) ⟨HO8.out, ho7⟩ HR8.out (.slice a2.A0 m.o.reg.length a2.c0) (.slice a2.A1 m.o.q.length a2.c1) (.slice a2.A2 m.o.lk.length a2.c2) (.slice a2.A3 m.o.mp.length a2.c3) (.slice A7 m.t.length c7) (.int .i64 K.e) (.slice A5 K.v.length c5) (.int .i64 K.n) rfl rfl rfl
    have HE := Lib.hid (And.intro e1 (And.intro e2 e3))
    obtain ⟨_, _, ⟨z0, z1, z2, z3, z4⟩, ⟨u0, u1, u2⟩, ⟨q0, q1, q2, q3, q4⟩, ⟨r0, r1, r2⟩⟩ := HV8.out.cells
    obtain ⟨p0, p1, p2, d0, d1, d2⟩ := three l0
    clear k5 l0 e1 e2 e3 r0 r1 r2 u0 u1 u2
    refine wpAnyH_ready (rs := [6]) (by kernel_rfl) (by simp) ?_
    refine AllReadyH.cons rfl (fun K hK => ?_) AllReadyH.nil
    go_simp
    refine hK.out _ _ HS9.out (fun _ => ?_)
    clear hK K
    clear z0 z1 z2 z3 z4 q0 q1 q2 q3 q4
    generalize (((((w3.setCell ⟨w.heap.size + 1 + 1, 0, none⟩ (.slice a2.A0 m.o.reg.length a2.c0)).setCell ⟨w.heap.size + 1 + 1, 1, none⟩ (.slice a2.A1 m.o.q.length a2.c1)).setCell ⟨w.heap.size + 1 + 1, 2, none⟩ (.slice a2.A2 m.o.lk.length a2.c2)).setCell ⟨w.heap.size + 1 + 1, 3, none⟩ (.slice a2.A3 m.o.mp.length a2.c3)).setCell ⟨w.heap.size + 1 + 1, 4, none⟩ (.slice A7 m.t.length c7)) = w9 at HE HS9 HS10 p0 p1 p2 d0 d1 d2 ⊢
    refine wpAnyH_ready (rs := [7]) (by kernel_rfl) (by simp) ?_
    refine AllReadyH.cons rfl (fun K hK => ?_) AllReadyH.nil
    go_simp
    refine hK.out _ _ HS10.out (fun _ => ?_)
    clear hK K
    refine wpAnyH_done (by kernel_rfl) ?_ _
    go_wp2_with fail
    refine bodyPost_ret (results_cells2 rfl _ _ _ _ _ _ _ _ _ _ rfl rfl HE.out.1 HE.out.2.1 Tryz.underlying37 rfl (by kernel_rfl) Tryz.underlying40 rfl (by kernel_rfl)) rfl ?_
    rw [HST.out]
    exact HE.out.2.2
theorem refStep_any {W w : World} {a : MA} {ca : CA} {m : Mc} {e : En} {B B' : Nat} (hM : m.Ok) (hc : e.c.Fits) (h : RdM w B a m) (h' : RdC w B' ca e.c) (hB : Below W.heap.size W w) :
    Calls Tryz.prog 18 #[machV a m, entV ca e] w (GotM W w (m.step e)) :=
  (refStep_raw hM hc h h').mono fun e w' h => GotM.of hB h
end Go.Proofs.YthfnnieklkaefaaGreat

namespace Go.Proofs.YthfnnieklkaefaaGreat
open Go.RowKit
set_option linter.unusedVariables false
/-- cells none of which is a byte -/
def NoByte (cs : Array Value) : Prop := ∀ (j x : Nat), cs[j]? ≠ some (.int .u8 (x : Int))
theorem NoByte.set {cs : Array Value} (h : NoByte cs) (i : Nat) {u : Value} (hu : ∀ x : Nat, u ≠ .int .u8 (x : Int)) : NoByte (cs.setIfInBounds i u) := by
  intro j x
  rw [Array.getElem?_setIfInBounds]
  split
  · split
    · intro h2; injection h2 with h2; exact hu x h2
    · simp
  · exact h j x
/-- a row of bytes lies not in a block without bytes -/
theorem Rd.setK {w : World} {B : Nat} {A : Option Addr} {n b i : Nat} {u : Value} {t : TypeId} {cs : Array Value} {l : List Nat} (h : Rd w B A n (bv l)) (hb : Blk w b t cs) (hk : NoByte cs) : Rd (w.setCell ⟨b, i, none⟩ u) (w.setCell ⟨b, i, none⟩ u).heap.size A n (bv l) := by
  rcases Nat.eq_zero_or_pos n with rfl | hn
  · exact ⟨h.1, fun h0 => absurd h0 (by omega)⟩
  · obtain ⟨g, o, rfl, hg, hc⟩ := h.2 hn
    refine h.set_ne ?_
    rintro rfl
    have h0 := hc 0 hn
    rw [hb.cell] at h0
    have hl : 0 < l.length := by have := h.1; rw [bv_length] at this; omega
    have h1 : (bv l)[0]? = some (.int .u8 (l[0] : Nat)) := by unfold bv; simp [List.getElem?_eq_getElem hl]
    rw [h1] at h0
    exact hk _ _ h0
theorem RdC.setK {w : World} {B b i : Nat} {u : Value} {t : TypeId} {cs : Array Value} {a : CA} {c : Cm} (h : RdC w B a c) (hb : Blk w b t cs) (hk : NoByte cs) : RdC (w.setCell ⟨b, i, none⟩ u) (w.setCell ⟨b, i, none⟩ u).heap.size a c :=
  ⟨h.rk.setK hb hk, h.rv.setK hb hk, h.ro.setK hb hk⟩
theorem noInt (z : Int) : ∀ x : Nat, Value.int .i64 z ≠ .int .u8 (x : Int) := fun x h => by cases h
theorem noSlice (A : Option Addr) (n c : Nat) : ∀ x : Nat, Value.slice A n c ≠ .int .u8 (x : Int) := fun x h => by cases h
theorem noByte_ent (s q k w : Int) (A A' A'' : Option Addr) (n c n' c' n'' c'' : Nat) : NoByte #[.int .i64 s, .int .i64 q, .int .i64 k, .int .i64 w, .slice A n c, .slice A' n' c', .slice A'' n'' c''] := by
  intro j x h
  match j with
  | 0 => simp at h
  | 1 => simp at h
  | 2 => simp at h
  | 3 => simp at h
  | 4 => simp at h
  | 5 => simp at h
  | 6 => simp at h
  | j + 7 => simp at h
set_option maxHeartbeats 1000000 in
/-- an entry's variable is written whole -/
theorem put7 {w : World} {b : Nat} {x0 x1 x2 x3 : Int} {A A' A'' : Option Addr} {n c n' c' n'' c'' : Nat} (hk : Blk w b 28 #[.int .i64 x0, .int .i64 x1, .int .i64 x2, .int .i64 x3, .slice A n c, .slice A' n' c', .slice A'' n'' c'']) (a : CA) (e : En) {B : Nat} (hr : RdC w B a e.c) :
    let wy := (((((((w.setCell ⟨b, 0, none⟩ (.int .i64 e.s)).setCell ⟨b, 1, none⟩ (.int .i64 e.q)).setCell ⟨b, 2, none⟩ (.int .i64 e.c.kind)).setCell ⟨b, 3, none⟩ (.int .i64 e.c.who)).setCell ⟨b, 4, none⟩ (.slice a.Ak e.c.key.length a.ck)).setCell ⟨b, 5, none⟩ (.slice a.Av e.c.val.length a.cv)).setCell ⟨b, 6, none⟩ (.slice a.Ao e.c.old.length a.co))
    Blk wy b 28 (entC a e) ∧ RdC wy wy.heap.size a e.c ∧ ∀ W, W.heap.size ≤ b → Below W.heap.size W w → Below W.heap.size W wy := by
  intro wy
  have k0 := noByte_ent x0 x1 x2 x3 A A' A'' n c n' c' n'' c''
  have b1 := hk.set_ 0 (.int .i64 e.s); have k1 := k0.set 0 (noInt e.s)
  have b2 := b1.set_ 1 (.int .i64 e.q); have k2 := k1.set 1 (noInt e.q)
  have b3 := b2.set_ 2 (.int .i64 e.c.kind); have k3 := k2.set 2 (noInt e.c.kind)
  have b4 := b3.set_ 3 (.int .i64 e.c.who); have k4 := k3.set 3 (noInt e.c.who)
  have b5 := b4.set_ 4 (.slice a.Ak e.c.key.length a.ck); have k5 := k4.set 4 (noSlice a.Ak e.c.key.length a.ck)
  have b6 := b5.set_ 5 (.slice a.Av e.c.val.length a.cv); have k6 := k5.set 5 (noSlice a.Av e.c.val.length a.cv)
  have b7 := b6.set_ 6 (.slice a.Ao e.c.old.length a.co)
  have r1 := hr.setK (i := 0) (u := .int .i64 e.s) hk k0
  have r2 := r1.setK (i := 1) (u := .int .i64 e.q) b1 k1
  have r3 := r2.setK (i := 2) (u := .int .i64 e.c.kind) b2 k2
  have r4 := r3.setK (i := 3) (u := .int .i64 e.c.who) b3 k3
  have r5 := r4.setK (i := 4) (u := .slice a.Ak e.c.key.length a.ck) b4 k4
  have r6 := r5.setK (i := 5) (u := .slice a.Av e.c.val.length a.cv) b5 k5
  have r7 := r6.setK (i := 6) (u := .slice a.Ao e.c.old.length a.co) b6 k6
  exact ⟨b7, r7, fun W h1 h2 => ((((((h2.setCell h1 _).setCell h1 _).setCell h1 _).setCell h1 _).setCell h1 _).setCell h1 _).setCell h1 _⟩
theorem entryZ_any (n : Int) (i : Nat) (hi : i ≤ 100) (w : World) : Calls Tryz.prog 8 #[.int .i64 n, .int .i64 (i : Int)] w fun e w' => ∃ ca en, e = .returned (entV ca en) ∧ en.c.Fits ∧ RdC w' w'.heap.size ca en.c ∧ ca.Z ∧ Below w.heap.size w w' := by
  have hb0 : Below w.heap.size w (w.alloc (.cells #[.int .i64 0, .int .i64 0, .int .i64 0, .int .i64 0, .slice none 0 0, .slice none 0 0, .slice none 0 0] 28)) := (Below.refl _ _).alloc (Nat.le_refl _) _
  have HB0 := Lib.hid hb0
  have HK := Lib.hid (Blk.new w 28 #[.int .i64 0, .int .i64 0, .int .i64 0, .int .i64 0, .slice none 0 0, .slice none 0 0, .slice none 0 0])
  clear hb0
  go_enter Tryz.func8, Tryz.ntmps8
  go_wp2_with fail
  refine (cmdZ_any n _).mono ?_
  rintro e w1 ⟨ca, c, rfl, hf, hr, hz, hb⟩
  have HZ := Lib.hid hz
  clear hz
  have HK1 := Lib.hid (HK.out.below hb)
  have HB1 := Lib.hid (HB0.out.trans (hb.mono HB0.out.size))
  have HR := Lib.hid hr
  have HF := Lib.hid hf
  clear hb hr hf HK HB0
  obtain ⟨x0, x1, x2, x3, x4, x5, x6⟩ := seven HK1.out
  have f0 := HK1.out.frozen 0
  have f1 := HK1.out.frozen 1
  have f2 := HK1.out.frozen 2
  have f3 := HK1.out.frozen 3
  have f4 := HK1.out.frozen 4
  have f5 := HK1.out.frozen 5
  have f6 := HK1.out.frozen 6
  unfold cmdV cmdC
  go_wp2_with fail
  obtain ⟨p1, p2, p3⟩ := put7 HK1.out ca ⟨_, _, c⟩ HR.out
  refine bodyPost_ret (results_cell_row rfl _ _ _ _ _ _ _ rfl p1 Tryz.underlying28 rfl (by kernel_rfl)) rfl ?_
  exact ⟨ca, ⟨_, _, c⟩, rfl, HF.out, p2, HZ.out, p3 w (Nat.le_refl _) HB1.out⟩
theorem entry_any (n : Int) (i : Nat) (hi : i ≤ 100) (w : World) : Calls Tryz.prog 8 #[.int .i64 n, .int .i64 (i : Int)] w fun e w' => ∃ ca en, e = .returned (entV ca en) ∧ en.c.Fits ∧ RdC w' w'.heap.size ca en.c ∧ Below w.heap.size w w' :=
  (entryZ_any n i hi w).mono fun e w' ⟨ca, en, h1, h2, h3, _, h5⟩ => ⟨ca, en, h1, h2, h3, h5⟩
end Go.Proofs.YthfnnieklkaefaaGreat

