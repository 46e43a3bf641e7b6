/- ObjsOwn: what lies beside what, where any byte and any number of what Apply answered may be turned. -/
import Derived.Test.YtclbhcbeocapgaaObjsC0
import Derived.Test.YtclbhcbeocapgaaSoftKit
namespace Go.Proofs.Ytclbhcbeocapgaa
open Go.RowKit
set_option linter.unusedVariables false
/-- the objects of the loop, the code's and the document's, in blocks g and g + 1 -/
structure TwoS (w wr : World) (g : Nat) (a a' : OA) (s t : Ob) : Prop where
  b1 : Blk wr g 32 (objC a s)
  b2 : Blk wr (g + 1) 32 (objC a' t)
  o1 : OwnO w wr a s
  o2 : OwnO w wr a' t
  i1 : s.Inv
  i2 : t.Inv
  bel : Below w.heap.size w wr
  lo : w.heap.size ≤ g
theorem TwoS.below {w wr wx : World} {g : Nat} {a a' : OA} {s t : Ob} (h : TwoS w wr g a a' s t) (hb : Below wr.heap.size wr wx) : TwoS w wx g a a' s t :=
  ⟨h.b1.below hb, h.b2.below hb, h.o1.below hb, h.o2.below hb, h.i1, h.i2, h.bel.trans (hb.mono h.bel.size), h.lo⟩
section
variable {w wr : World} {g : Nat} {a a' d : OA} {s t r : Ob}
theorem own_setO {e : OA} {q : Ob} {b i : Nat} {u : Value} {cs : Array Value} (h : OwnO w wr e q) (hb : Blk wr b 32 cs) : OwnO w (wr.setCell ⟨b, i, none⟩ u) e q :=
  h.set_t hb (by decide) (by decide) (by decide) (by decide)
/-- the code's objects are written anew -/
theorem TwoS.set1 (H : TwoS w wr g a a' s t) (ho : OwnO w wr d r) (hi : r.Inv) (x0 x1 x2 x3 : Value) (hx : objC d r = #[x0, x1, x2, x3]) :
    TwoS w ((((wr.setCell ⟨g, 0, none⟩ x0).setCell ⟨g, 1, none⟩ x1).setCell ⟨g, 2, none⟩ x2).setCell ⟨g, 3, none⟩ x3) g d a' r t := by
  have k0 : Blk wr g 32 #[.slice a.A0 s.reg.length a.c0, .slice a.A1 s.q.length a.c1, .slice a.A2 s.lk.length a.c2, .slice a.A3 s.mp.length a.c3] := H.b1
  have k1 := k0.set_ 0 x0
  have k2 := k1.set_ 1 x1
  have k3 := k2.set_ 2 x2
  have k4 := k3.set_ 3 x3
  refine ⟨by rw [hx]; exact k4, (((H.b2.set_other (by omega)).set_other (by omega)).set_other (by omega)).set_other (by omega), own_setO (own_setO (own_setO (own_setO ho k0) k1) k2) k3, own_setO (own_setO (own_setO (own_setO H.o2 k0) k1) k2) k3, hi, H.i2,
    (((H.bel.setCell (p := ⟨g, 0, none⟩) H.lo _).setCell (p := ⟨g, 1, none⟩) H.lo _).setCell (p := ⟨g, 2, none⟩) H.lo _).setCell (p := ⟨g, 3, none⟩) H.lo _, H.lo⟩
/-- the document's -/
theorem TwoS.set2 (H : TwoS w wr g a a' s t) (ho : OwnO w wr d r) (hi : r.Inv) (x0 x1 x2 x3 : Value) (hx : objC d r = #[x0, x1, x2, x3]) :
    TwoS w ((((wr.setCell ⟨g + 1, 0, none⟩ x0).setCell ⟨g + 1, 1, none⟩ x1).setCell ⟨g + 1, 2, none⟩ x2).setCell ⟨g + 1, 3, none⟩ x3) g a d s r := by
  have k0 : Blk wr (g + 1) 32 #[.slice a'.A0 t.reg.length a'.c0, .slice a'.A1 t.q.length a'.c1, .slice a'.A2 t.lk.length a'.c2, .slice a'.A3 t.mp.length a'.c3] := H.b2
  have k1 := k0.set_ 0 x0
  have k2 := k1.set_ 1 x1
  have k3 := k2.set_ 2 x2
  have k4 := k3.set_ 3 x3
  have hlo : w.heap.size ≤ g + 1 := by have := H.lo; omega
  refine ⟨(((H.b1.set_other (by omega)).set_other (by omega)).set_other (by omega)).set_other (by omega), by rw [hx]; exact k4, own_setO (own_setO (own_setO (own_setO H.o1 k0) k1) k2) k3, own_setO (own_setO (own_setO (own_setO ho k0) k1) k2) k3, H.i1, hi,
    (((H.bel.setCell (p := ⟨g + 1, 0, none⟩) hlo _).setCell (p := ⟨g + 1, 1, none⟩) hlo _).setCell (p := ⟨g + 1, 2, none⟩) hlo _).setCell (p := ⟨g + 1, 3, none⟩) hlo _, H.lo⟩
end
theorem Soft.set_t {w : World} {base b i : Nat} {t : TypeId} {cs : Array Value} {u : Value} {vs : List Value} (h : Soft w base vs) (hb : Blk w b t cs) (hne : 5 ≠ t) : Soft (w.setCell ⟨b, i, none⟩ u) base vs := by
  intro v hv
  obtain ⟨A, m, c, e, hm⟩ := h v hv
  exact ⟨A, m, c, e, fun h => by obtain ⟨g, e', hg⟩ := hm h; exact ⟨g, e', hg.set_t hb hne⟩⟩
/-- what Apply answered, behind wc: anything of it may be turned -/
structure Tn (wc wr : World) (h : Nat) (d : OA) (n0 n1 n2 n3 : Nat) (vs us : List Value) (zs : List Int) (A : Option Addr) (m cc : Nat) (e N : Int) : Prop where
  tb : Blk wr h 32 #[.slice d.A0 n0 d.c0, .slice d.A1 n1 d.c1, .slice d.A2 n2 d.c2, .slice d.A3 n3 d.c3]
  rb : Blk wr (h + 1) 34 #[.int .i64 e, .slice A m cc, .int .i64 N]
  reg : 0 < n0 → ∃ g, d.A0 = some ⟨g, 0, none⟩ ∧ Bytes8 wr wc.heap.size g n0
  qrow : wr.ownsRow wc.heap.size 22 1 (.slice d.A1 n1 d.c1) n1 vs
  qs : Soft wr wc.heap.size vs
  lk : wr.ownsRow wc.heap.size 3 1 (.slice d.A2 n2 d.c2) n2 (iv zs)
  mrow : wr.ownsRow wc.heap.size 42 2 (.slice d.A3 n3 d.c3) n3 us
  ms : Soft wr wc.heap.size us
  val : 0 < m → ∃ g, A = some ⟨g, 0, none⟩ ∧ Bytes8 wr wc.heap.size g m
  bel : Below wc.heap.size wc wr
  len : n0 ≤ 16 ∧ n1 ≤ 8 ∧ n2 ≤ 5 ∧ n3 ≤ 8 ∧ m ≤ 16
  ql : ∀ (A : Option Addr) (m c : Nat), Value.slice A m c ∈ vs → m ≤ 1000
  ml : ∀ (A : Option Addr) (m c : Nat), Value.slice A m c ∈ us → m ≤ 1000
section
variable {wc wr : World} {h : Nat} {d : OA} {n0 n1 n2 n3 : Nat} {vs us : List Value} {zs : List Int} {A : Option Addr} {m cc : Nat} {e N : Int}
theorem Tn.set_ {g mm i : Nat} {x : Int} (H : Tn wc wr h d n0 n1 n2 n3 vs us zs A m cc e N) (hb : Bytes8 wr wc.heap.size g mm) (h0 : 0 ≤ x) (h1 : x < 256) :
    Tn wc (wr.setCell ⟨g, i, none⟩ (.int .u8 x)) h d n0 n1 n2 n3 vs us zs A m cc e N :=
  ⟨H.tb.set_other (fun e => hb.apart H.tb (by decide) e.symm), H.rb.set_other (fun e => hb.apart H.rb (by decide) e.symm), fun hp => (by obtain ⟨g', e', hg⟩ := H.reg hp; exact ⟨g', e', hg.set_ h0 h1⟩),
    own_set_b H.qrow hb (by decide), H.qs.set_ h0 h1, own_set_b H.lk hb (by decide), own_set_b H.mrow hb (by decide), H.ms.set_ h0 h1, fun hp => (by obtain ⟨g', e', hg⟩ := H.val hp; exact ⟨g', e', hg.set_ h0 h1⟩),
    H.bel.setCell hb.1 _, H.len, H.ql, H.ml⟩
/-- one of the lock's row -/
theorem Tn.lock {j : Nat} (H : Tn wc wr h d n0 n1 n2 n3 vs us zs A m cc e N) (hj : j < n2) : ∃ (g : Nat) (z : Int), d.A2 = some ⟨g, 0, none⟩ ∧ wr.frozen? ⟨g, j, none⟩ = false ∧ wr.cell? ⟨g, j, none⟩ = some (.int .i64 z) ∧
    ∀ x : Int, Tn wc (wr.setCell ⟨g, j, none⟩ (.int .i64 x)) h d n0 n1 n2 n3 vs us (zs.set j x) A m cc e N := by
  have hl : zs.length = n2 := by have := H.lk.1; rw [iv_length] at this; omega
  obtain ⟨z, hz⟩ : ∃ z, zs[j]? = some z := ⟨_, List.getElem?_eq_getElem (by omega)⟩
  obtain ⟨g, hg, h1, h2⟩ := own_addr H.lk (by omega)
  have hlk := H.lk
  rw [hg] at hlk
  rcases own_blk hlk with ⟨q1, _⟩ | ⟨g', cur, q1, _, hk⟩
  · cases q1
  · injection q1 with q1
    injection q1 with q1
    subst q1
    have hcell' : wr.cell? ⟨g, j, none⟩ = some (.int .i64 z) := by
      have := (hlk.cellAt j (by omega)).trans (iv_get hz)
      exact this
    refine ⟨g, z, hg, hk.frozen j, hcell', fun x => ?_⟩
    have hs2 := (hlk.stored j (.int .i64 x)).1
    refine ⟨H.tb.set_other (fun e => hk.apart H.tb (by decide) e.symm), H.rb.set_other (fun e => hk.apart H.rb (by decide) e.symm), fun hp => (by obtain ⟨g', e', hg'⟩ := H.reg hp; exact ⟨g', e', hg'.set_t hk (by decide)⟩),
      own_set_t H.qrow hk (by decide), H.qs.set_t hk (by decide), ?_, own_set_t H.mrow hk (by decide), H.ms.set_t hk (by decide), fun hp => (by obtain ⟨g', e', hg'⟩ := H.val hp; exact ⟨g', e', hg'.set_t hk (by decide)⟩),
      H.bel.setCell h1 _, H.len, H.ql, H.ml⟩
    rw [hg]
    have e1 : iv (zs.set j x) = (iv zs).set j (.int .i64 x) := by unfold iv; rw [List.map_set]
    rw [e1]
    exact hs2
end
/-- what is answered is at most 16 bytes -/
theorem Ob.apply_vlen {s : Ob} {c : Cm} (h : s.Inv) : (s.apply c).v.length ≤ 16 := by
  have hg : (Mp.getV s.mp c.key).length ≤ 16 := by
    rcases Mp.getV_mem (ps := s.mp) (k := c.key) with e | ⟨p, hp, e⟩
    · rw [e]; simp
    · rw [e]; exact (h.mp.len p hp).2
  refine Ob.apply_ind (P := fun r => r.v.length ≤ 16) s c (fun _ => h.reg) (fun _ => by simp) (fun _ => ?_) (fun _ => by simp) (fun _ => ?_) (fun _ => by simp) (fun _ => by simp) (fun _ => by simp) (fun _ => ?_) (fun _ => hg) (fun _ => hg) (by simp)
  · show (casV s.reg c.old c.val).length ≤ 16
    unfold casV
    have := h.reg
    repeat' split
    all_goals first | (simp; done) | omega
  · show (popV s.q).length ≤ 16
    unfold popV
    cases hq : s.q with
    | nil => simp
    | cons l t => exact h.qv l (by rw [hq]; simp)
  · show (Mp.putV s.mp c.key c.val).length ≤ 16
    rcases Mp.putV_mem (ps := s.mp) (k := c.key) (v := c.val) with e | ⟨p, hp, e⟩
    · rw [e]; simp
    · rw [e]; exact (h.mp.len p hp).2
theorem owns_lim {W w : World} {vs : List Value} {qs : List (List Nat)} (h : Owns W w vs qs) (hL : ∀ l ∈ qs, l.length ≤ 1000) : ∀ (A : Option Addr) (m c : Nat), Value.slice A m c ∈ vs → m ≤ 1000 := by
  intro A m c hm
  obtain ⟨i, hi, e⟩ := List.getElem_of_mem hm
  have hi2 : i < qs.length := by rw [← h.len]; exact hi
  obtain ⟨A', c', e2, _⟩ := h.cell i qs[i] (List.getElem?_eq_getElem hi2)
  rw [List.getElem?_eq_getElem hi, e] at e2
  injection e2 with e2
  injection e2 with _ e2
  have := hL qs[i] (List.getElem_mem _)
  omega
/-- behind Apply: all that it answered is new -/
theorem Tn.start {wc w1 : World} {d : OA} {r : Ans} {A : Option Addr} {cc h : Nat} (ho : OwnO wc w1 d r.s) (hv : OwnB wc w1 A r.v.length cc r.v) (hi : r.s.Inv) (hvb : ∀ x ∈ r.v, x < 256) (hvl : r.v.length ≤ 16) (hb : Below wc.heap.size wc w1) (hh : w1.heap.size = h) :
    ∃ vs us, Tn wc ((w1.alloc (.cells #[.slice d.A0 r.s.reg.length d.c0, .slice d.A1 r.s.q.length d.c1, .slice d.A2 r.s.lk.length d.c2, .slice d.A3 r.s.mp.length d.c3] 32)).alloc (.cells #[.int .i64 r.e, .slice A r.v.length cc, .int .i64 r.n] 34)) h d r.s.reg.length r.s.q.length r.s.lk.length r.s.mp.length vs us r.s.lk A r.v.length cc r.e r.n := by
  subst hh
  obtain ⟨vs, hq1, hq2⟩ := ho.o1
  obtain ⟨us, hm1, hm2⟩ := ho.o3
  have b2 : Below w1.heap.size w1 ((w1.alloc (.cells #[.slice d.A0 r.s.reg.length d.c0, .slice d.A1 r.s.q.length d.c1, .slice d.A2 r.s.lk.length d.c2, .slice d.A3 r.s.mp.length d.c3] 32)).alloc (.cells #[.int .i64 r.e, .slice A r.v.length cc, .int .i64 r.n] 34)) := ((Below.refl _ _).alloc (Nat.le_refl _) _).alloc (by simp) _
  have hby : BytesL (flat r.s.mp) := fun l hl => by
    obtain ⟨p, hp, e⟩ := flat_mem hl
    have := hi.mp.byt p hp
    rcases e with rfl | rfl
    · exact this.1
    · exact this.2
  refine ⟨vs, us, (Blk.new _ _ _).alloc _, ?_, fun hp => (by obtain ⟨g, e, hg⟩ := soft_own ho.o0 hi.regb hp; exact ⟨g, e, hg.below b2⟩), ownsRow_below hq1 b2, (hq2.soft hi.qb).below b2, ownsRow_below ho.o2 b2, ownsRow_below hm1 b2, (hm2.soft hby).below b2,
    fun hp => (by obtain ⟨g, e, hg⟩ := soft_own hv hvb hp; exact ⟨g, e, hg.below b2⟩), hb.trans (b2.mono hb.size), ⟨hi.reg, hi.ql, hi.lkl, hi.mp.few, hvl⟩, owns_lim hq2 (fun l hl => by have := hi.qv l hl; omega), owns_lim hm2 (fun l hl => ?_)⟩
  · have := Blk.new (w1.alloc (.cells #[.slice d.A0 r.s.reg.length d.c0, .slice d.A1 r.s.q.length d.c1, .slice d.A2 r.s.lk.length d.c2, .slice d.A3 r.s.mp.length d.c3] 32)) 34 #[.int .i64 r.e, .slice A r.v.length cc, .int .i64 r.n]
    rwa [World.size_alloc] at this
  · obtain ⟨p, hp, e⟩ := flat_mem hl
    have := hi.mp.len p hp
    rcases e with rfl | rfl <;> omega
end Go.Proofs.Ytclbhcbeocapgaa
