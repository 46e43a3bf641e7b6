/- ObjsOwn: whatever the input, the law returns true and changes nothing that was there. No condition. -/
import Derived.Test.YtcmjpjhaaookfaaResKit
import Derived.Test.YtcmjpjhaaookfaaQKit
import Derived.Test.YtcmjpjhaaookfaaObjsC0
import Derived.Test.YtcmjpjhaaookfaaObjCmdD
import Derived.Deep.CutBlock
import Derived.Deep.QuietTactic
import Derived.BigQuiet
import Derived.Deep.RegionHeld3
import Derived.Test.YtcmjpjhaaookfaaConstKit
import Derived.Test.YtcmjpjhaaookfaaObjKit
import Derived.Test.YtcmjpjhaaookfaaMapsCode2
import Derived.Lib.Overlaps
import Derived.Test.YtcmjpjhaaookfaaObjsCopied
import Derived.Test.YtcmjpjhaaookfaaObjsC00
import Derived.Test.YtcmjpjhaaookfaaRegsWalks
import Derived.Test.YtcmjpjhaaookfaaFifoWalks
import Derived.Test.YtcmjpjhaaookfaaLockWalks2
import Derived.Test.YtcmjpjhaaookfaaObjSame
import Derived.Test.YtcmjpjhaaookfaaEqualKit
import Derived.WalkSmall
import Derived.Test.YtcmjpjhaaookfaaObjOk
import Derived.Test.YtcmjpjhaaookfaaObjsApartCore
import Derived.Test.YtcmjpjhaaookfaaRows
import Derived.WalkKit
import Derived.ProofKit
import Derived.OpenShut
import Derived.ShutString
import Derived.ChangeOld
import Derived.Below
namespace Go.Proofs.Ytcmjpjhaaookfaa
open Go.RowKit
set_option linter.unusedVariables false
theorem grown_set (W : World) (g i : Nat) (u : Value) : W.grownBy (W.setCell ⟨g, i, none⟩ u) (some g) :=
  ⟨rfl, rfl, rfl, by simp [World.setCell], fun k hk hn => Below.heap_setCell W ⟨g, i, none⟩ u k (by rintro rfl; exact hn rfl)⟩
theorem own_set_lt {w : World} {base : Nat} {e : TypeId} {s n g : Nat} {v : Value} {xs : List Value} (h : w.ownsRow base e s v n xs) (hg : g < base) (i : Nat) (u : Value) : (w.setCell ⟨g, i, none⟩ u).ownsRow base e s v n xs := by
  refine h.kept (grown_set w g i u) ?_
  rcases h.2 with ⟨h1, _⟩ | ⟨g', cap, cur, h1, h2, _⟩
  · rw [h1]; exact .inl rfl
  · rw [h1]; exact .inr (by simp [Value.ownBlock]; omega)
end Go.Proofs.Ytcmjpjhaaookfaa
namespace Go.Proofs.Ytcmjpjhaaookfaa
open Go.RowKit
set_option linter.unusedVariables false
/-- a byte and one more -/
theorem up8 (x : Int) (h0 : 0 ≤ x) (h1 : x < 256) : IntKind.u8.wrap (x + 1) = (x + 1) % 256 := by
  simp [IntKind.wrap, IntKind.bits, IntKind.signed]
theorem OwnQ.set_lt {W w : World} {A : Option Addr} {n c g : Nat} {qs : List (List Nat)} (h : OwnQ W w A n c qs) (hg : g < W.heap.size) (i : Nat) (u : Value) : OwnQ W (w.setCell ⟨g, i, none⟩ u) A n c qs := by
  obtain ⟨vs, h1, h2⟩ := h
  exact ⟨vs, own_set_lt h1 hg i u, h2.len, fun k l hl => by obtain ⟨A, c, e, ho⟩ := h2.cell k l hl; exact ⟨A, c, e, own_set_lt ho hg i u⟩⟩
/-- a block of bytes from base on, of at least m -/
def Bytes8 (w : World) (base g m : Nat) : Prop := base ≤ g ∧ ∃ cur, Blk w g 5 cur ∧ ∀ j, j < m → ∃ x : Int, 0 ≤ x ∧ x < 256 ∧ cur[j]? = some (.int .u8 x)
theorem Bytes8.set_ {w : World} {base g m g' i : Nat} {x : Int} (h : Bytes8 w base g m) (h0 : 0 ≤ x) (h1 : x < 256) : Bytes8 (w.setCell ⟨g', i, none⟩ (.int .u8 x)) base g m := by
  obtain ⟨hb, cur, hk, hc⟩ := h
  by_cases he : g' = g
  · subst he
    refine ⟨hb, _, hk.set_ i _, fun j hj => ?_⟩
    obtain ⟨y, y0, y1, hy⟩ := hc j hj
    rw [Array.getElem?_setIfInBounds]
    by_cases hij : i = j
    · subst hij
      have hlt : i < cur.size := by
        rcases Nat.lt_or_ge i cur.size with h | h
        · exact h
        · rw [Array.getElem?_eq_none h] at hy; cases hy
      exact ⟨x, h0, h1, by simp [hlt]⟩
    · exact ⟨y, y0, y1, by simp [hij, hy]⟩
  · exact ⟨hb, cur, hk.set_other (fun e => he e.symm), hc⟩
/-- the slices vs lie in blocks of bytes from base on -/
def Soft (w : World) (base : Nat) (vs : List Value) : Prop := ∀ v ∈ vs, ∃ A m c, v = .slice A m c ∧ (0 < m → ∃ g, A = some ⟨g, 0, none⟩ ∧ Bytes8 w base g m)
theorem Soft.set_ {w : World} {base g i : Nat} {vs : List Value} {x : Int} (h : Soft w base vs) (h0 : 0 ≤ x) (h1 : x < 256) : Soft (w.setCell ⟨g, i, none⟩ (.int .u8 x)) base vs := by
  intro v hv
  obtain ⟨A, m, c, e, hm⟩ := h v hv
  exact ⟨A, m, c, e, fun h => by obtain ⟨g', e', hb⟩ := hm h; exact ⟨g', e', hb.set_ h0 h1⟩⟩
theorem soft_own {W w : World} {A : Option Addr} {m c : Nat} {l : List Nat} (h : OwnB W w A m c l) (hby : ∀ x ∈ l, x < 256) : 0 < m → ∃ g, A = some ⟨g, 0, none⟩ ∧ Bytes8 w W.heap.size g m := by
  intro hm
  have hl := own_len h
  obtain ⟨g, rfl, hg1, hg2⟩ := own_addr h hm
  rcases own_blk h with ⟨h1, _⟩ | ⟨g', cur, h1, _, hk⟩
  · cases h1
  · injection h1 with h1; injection h1 with h1; subst h1
    refine ⟨g, rfl, hg1, cur, hk, fun j hj => ?_⟩
    have hc := own_byte h hj
    rw [hk.cell] at hc
    refine ⟨_, by omega, ?_, hc⟩
    have h3 : l.getD j 0 < 256 := by
      rw [List.getD_eq_getElem?_getD, List.getElem?_eq_getElem (by omega)]
      exact hby _ (List.getElem_mem _)
    omega
theorem Soft.nil (w : World) (base : Nat) : Soft w base [] := fun v h => by cases h
theorem Soft.cons {w : World} {base m c : Nat} {A : Option Addr} {vs : List Value} (h : Soft w base vs) (hm : 0 < m → ∃ g, A = some ⟨g, 0, none⟩ ∧ Bytes8 w base g m) : Soft w base (.slice A m c :: vs) := by
  intro v hv
  rcases List.mem_cons.1 hv with rfl | hv
  · exact ⟨A, m, c, rfl, hm⟩
  · exact h v hv
theorem Owns.soft {W w : World} {vs : List Value} {qs : List (List Nat)} (h : Owns W w vs qs) (hby : BytesL qs) : Soft w W.heap.size vs := by
  intro v hv
  obtain ⟨i, hi, e⟩ := List.getElem_of_mem hv
  have hi2 : i < qs.length := by rw [← h.len]; exact hi
  obtain ⟨A, c, e2, ho⟩ := h.cell i qs[i] (List.getElem?_eq_getElem hi2)
  rw [List.getElem?_eq_getElem hi] at e2
  injection e2 with e2
  exact ⟨A, _, c, by rw [← e, e2], soft_own ho (hby _ (List.getElem_mem _))⟩
/-- what a walk asks of one byte -/
theorem Bytes8.at {w : World} {base g m j : Nat} (h : Bytes8 w base g m) (hj : j < m) : base ≤ g ∧ w.frozen? ⟨g, j, none⟩ = false ∧ ∃ x : Int, 0 ≤ x ∧ x < 256 ∧ w.cell? ⟨g, j, none⟩ = some (.int .u8 x) := by
  obtain ⟨hb, cur, hk, hc⟩ := h
  obtain ⟨x, h0, h1, e⟩ := hc j hj
  exact ⟨hb, hk.frozen j, x, h0, h1, (hk.cell j).trans e⟩
theorem Bytes8.apart {w : World} {base g m b : Nat} {t : TypeId} {cs : Array Value} (h : Bytes8 w base g m) (hb : Blk w b t cs) (hne : 5 ≠ t) : g ≠ b := by
  obtain ⟨_, cur, hk, _⟩ := h
  exact hk.apart hb hne
theorem Bytes8.below {w w' : World} {base g m : Nat} (h : Bytes8 w base g m) (hb : Below w.heap.size w w') : Bytes8 w' base g m := by
  obtain ⟨h1, cur, hk, hc⟩ := h
  exact ⟨h1, cur, hk.below hb, hc⟩
theorem Soft.below {w w' : World} {base : Nat} {vs : List Value} (h : Soft w base vs) (hb : Below w.heap.size w w') : Soft w' base vs := by
  intro v hv
  obtain ⟨A, m, c, e, hm⟩ := h v hv
  exact ⟨A, m, c, e, fun h => by obtain ⟨g', e', hb'⟩ := hm h; exact ⟨g', e', hb'.below hb⟩⟩
/-- three stores into a block of a result -/
theorem Bytes8.set_t {w : World} {base g m b i : Nat} {t : TypeId} {cs : Array Value} {u : Value} (h : Bytes8 w base g m) (hb : Blk w b t cs) (hne : 5 ≠ t) : Bytes8 (w.setCell ⟨b, i, none⟩ u) base g m := by
  have := h.apart hb hne
  obtain ⟨h1, cur, hk, hc⟩ := h
  exact ⟨h1, cur, hk.set_other this, hc⟩
/-- the row of slices itself, over a byte that is turned -/
theorem own_set_b {w : World} {base size n base' g m i : Nat} {e : TypeId} {v u : Value} {xs : List Value} (h : w.ownsRow base e size v n xs) (hb : Bytes8 w base' g m) (hne : e ≠ 5) : (w.setCell ⟨g, i, none⟩ u).ownsRow base e size v n xs := by
  obtain ⟨_, cur, hk, _⟩ := hb
  exact own_set_t h hk hne
end Go.Proofs.Ytcmjpjhaaookfaa
namespace Go.Proofs.Ytcmjpjhaaookfaa
open Go.RowKit
set_option linter.unusedVariables false
/-- the objects of the loop, the code's and the document's, in blocks g and g + 1 -/
structure TwoS (w wr : World) (g : Nat) (a a' : OA) (s t : Ob) : Prop where
  b1 : Blk wr g 32 (objC a s)
  b2 : Blk wr (g + 1) 32 (objC a' t)
  o1 : OwnO w wr a s
  o2 : OwnO w wr a' t
  i1 : s.Inv
  i2 : t.Inv
  bel : Below w.heap.size w wr
  lo : w.heap.size ≤ g
theorem TwoS.below {w wr wx : World} {g : Nat} {a a' : OA} {s t : Ob} (h : TwoS w wr g a a' s t) (hb : Below wr.heap.size wr wx) : TwoS w wx g a a' s t :=
  ⟨h.b1.below hb, h.b2.below hb, h.o1.below hb, h.o2.below hb, h.i1, h.i2, h.bel.trans (hb.mono h.bel.size), h.lo⟩
section
variable {w wr : World} {g : Nat} {a a' d : OA} {s t r : Ob}
theorem own_setO {e : OA} {q : Ob} {b i : Nat} {u : Value} {cs : Array Value} (h : OwnO w wr e q) (hb : Blk wr b 32 cs) : OwnO w (wr.setCell ⟨b, i, none⟩ u) e q :=
  h.set_t hb (by decide) (by decide) (by decide) (by decide)
/-- the code's objects are written anew -/
theorem TwoS.set1 (H : TwoS w wr g a a' s t) (ho : OwnO w wr d r) (hi : r.Inv) (x0 x1 x2 x3 : Value) (hx : objC d r = #[x0, x1, x2, x3]) :
    TwoS w ((((wr.setCell ⟨g, 0, none⟩ x0).setCell ⟨g, 1, none⟩ x1).setCell ⟨g, 2, none⟩ x2).setCell ⟨g, 3, none⟩ x3) g d a' r t := by
  have k0 : Blk wr g 32 #[.slice a.A0 s.reg.length a.c0, .slice a.A1 s.q.length a.c1, .slice a.A2 s.lk.length a.c2, .slice a.A3 s.mp.length a.c3] := H.b1
  have k1 := k0.set_ 0 x0
  have k2 := k1.set_ 1 x1
  have k3 := k2.set_ 2 x2
  have k4 := k3.set_ 3 x3
  refine ⟨by rw [hx]; exact k4, (((H.b2.set_other (by omega)).set_other (by omega)).set_other (by omega)).set_other (by omega), own_setO (own_setO (own_setO (own_setO ho k0) k1) k2) k3, own_setO (own_setO (own_setO (own_setO H.o2 k0) k1) k2) k3, hi, H.i2,
    (((H.bel.setCell (p := ⟨g, 0, none⟩) H.lo _).setCell (p := ⟨g, 1, none⟩) H.lo _).setCell (p := ⟨g, 2, none⟩) H.lo _).setCell (p := ⟨g, 3, none⟩) H.lo _, H.lo⟩
/-- the document's -/
theorem TwoS.set2 (H : TwoS w wr g a a' s t) (ho : OwnO w wr d r) (hi : r.Inv) (x0 x1 x2 x3 : Value) (hx : objC d r = #[x0, x1, x2, x3]) :
    TwoS w ((((wr.setCell ⟨g + 1, 0, none⟩ x0).setCell ⟨g + 1, 1, none⟩ x1).setCell ⟨g + 1, 2, none⟩ x2).setCell ⟨g + 1, 3, none⟩ x3) g a d s r := by
  have k0 : Blk wr (g + 1) 32 #[.slice a'.A0 t.reg.length a'.c0, .slice a'.A1 t.q.length a'.c1, .slice a'.A2 t.lk.length a'.c2, .slice a'.A3 t.mp.length a'.c3] := H.b2
  have k1 := k0.set_ 0 x0
  have k2 := k1.set_ 1 x1
  have k3 := k2.set_ 2 x2
  have k4 := k3.set_ 3 x3
  have hlo : w.heap.size ≤ g + 1 := by have := H.lo; omega
  refine ⟨(((H.b1.set_other (by omega)).set_other (by omega)).set_other (by omega)).set_other (by omega), by rw [hx]; exact k4, own_setO (own_setO (own_setO (own_setO H.o1 k0) k1) k2) k3, own_setO (own_setO (own_setO (own_setO ho k0) k1) k2) k3, H.i1, hi,
    (((H.bel.setCell (p := ⟨g + 1, 0, none⟩) hlo _).setCell (p := ⟨g + 1, 1, none⟩) hlo _).setCell (p := ⟨g + 1, 2, none⟩) hlo _).setCell (p := ⟨g + 1, 3, none⟩) hlo _, H.lo⟩
end
theorem Soft.set_t {w : World} {base b i : Nat} {t : TypeId} {cs : Array Value} {u : Value} {vs : List Value} (h : Soft w base vs) (hb : Blk w b t cs) (hne : 5 ≠ t) : Soft (w.setCell ⟨b, i, none⟩ u) base vs := by
  intro v hv
  obtain ⟨A, m, c, e, hm⟩ := h v hv
  exact ⟨A, m, c, e, fun h => by obtain ⟨g, e', hg⟩ := hm h; exact ⟨g, e', hg.set_t hb hne⟩⟩
/-- what Apply answered, behind wc: anything of it may be turned -/
structure Tn (wc wr : World) (h : Nat) (d : OA) (n0 n1 n2 n3 : Nat) (vs us : List Value) (zs : List Int) (A : Option Addr) (m cc : Nat) (e N : Int) : Prop where
  tb : Blk wr h 32 #[.slice d.A0 n0 d.c0, .slice d.A1 n1 d.c1, .slice d.A2 n2 d.c2, .slice d.A3 n3 d.c3]
  rb : Blk wr (h + 1) 34 #[.int .i64 e, .slice A m cc, .int .i64 N]
  reg : 0 < n0 → ∃ g, d.A0 = some ⟨g, 0, none⟩ ∧ Bytes8 wr wc.heap.size g n0
  qrow : wr.ownsRow wc.heap.size 22 1 (.slice d.A1 n1 d.c1) n1 vs
  qs : Soft wr wc.heap.size vs
  lk : wr.ownsRow wc.heap.size 3 1 (.slice d.A2 n2 d.c2) n2 (iv zs)
  mrow : wr.ownsRow wc.heap.size 42 2 (.slice d.A3 n3 d.c3) n3 us
  ms : Soft wr wc.heap.size us
  val : 0 < m → ∃ g, A = some ⟨g, 0, none⟩ ∧ Bytes8 wr wc.heap.size g m
  bel : Below wc.heap.size wc wr
  len : n0 ≤ 16 ∧ n1 ≤ 8 ∧ n2 ≤ 5 ∧ n3 ≤ 8 ∧ m ≤ 16
  ql : ∀ (A : Option Addr) (m c : Nat), Value.slice A m c ∈ vs → m ≤ 1000
  ml : ∀ (A : Option Addr) (m c : Nat), Value.slice A m c ∈ us → m ≤ 1000
section
variable {wc wr : World} {h : Nat} {d : OA} {n0 n1 n2 n3 : Nat} {vs us : List Value} {zs : List Int} {A : Option Addr} {m cc : Nat} {e N : Int}
theorem Tn.set_ {g mm i : Nat} {x : Int} (H : Tn wc wr h d n0 n1 n2 n3 vs us zs A m cc e N) (hb : Bytes8 wr wc.heap.size g mm) (h0 : 0 ≤ x) (h1 : x < 256) :
    Tn wc (wr.setCell ⟨g, i, none⟩ (.int .u8 x)) h d n0 n1 n2 n3 vs us zs A m cc e N :=
  ⟨H.tb.set_other (fun e => hb.apart H.tb (by decide) e.symm), H.rb.set_other (fun e => hb.apart H.rb (by decide) e.symm), fun hp => (by obtain ⟨g', e', hg⟩ := H.reg hp; exact ⟨g', e', hg.set_ h0 h1⟩),
    own_set_b H.qrow hb (by decide), H.qs.set_ h0 h1, own_set_b H.lk hb (by decide), own_set_b H.mrow hb (by decide), H.ms.set_ h0 h1, fun hp => (by obtain ⟨g', e', hg⟩ := H.val hp; exact ⟨g', e', hg.set_ h0 h1⟩),
    H.bel.setCell hb.1 _, H.len, H.ql, H.ml⟩
/-- one of the lock's row -/
theorem Tn.lock {j : Nat} (H : Tn wc wr h d n0 n1 n2 n3 vs us zs A m cc e N) (hj : j < n2) : ∃ (g : Nat) (z : Int), d.A2 = some ⟨g, 0, none⟩ ∧ wr.frozen? ⟨g, j, none⟩ = false ∧ wr.cell? ⟨g, j, none⟩ = some (.int .i64 z) ∧
    ∀ x : Int, Tn wc (wr.setCell ⟨g, j, none⟩ (.int .i64 x)) h d n0 n1 n2 n3 vs us (zs.set j x) A m cc e N := by
  have hl : zs.length = n2 := by have := H.lk.1; rw [iv_length] at this; omega
  obtain ⟨z, hz⟩ : ∃ z, zs[j]? = some z := ⟨_, List.getElem?_eq_getElem (by omega)⟩
  obtain ⟨g, hg, h1, h2⟩ := own_addr H.lk (by omega)
  have hlk := H.lk
  rw [hg] at hlk
  rcases own_blk hlk with ⟨q1, _⟩ | ⟨g', cur, q1, _, hk⟩
  · cases q1
  · injection q1 with q1
    injection q1 with q1
    subst q1
    have hcell' : wr.cell? ⟨g, j, none⟩ = some (.int .i64 z) := by
      have := (hlk.cellAt j (by omega)).trans (iv_get hz)
      exact this
    refine ⟨g, z, hg, hk.frozen j, hcell', fun x => ?_⟩
    have hs2 := (hlk.stored j (.int .i64 x)).1
    refine ⟨H.tb.set_other (fun e => hk.apart H.tb (by decide) e.symm), H.rb.set_other (fun e => hk.apart H.rb (by decide) e.symm), fun hp => (by obtain ⟨g', e', hg'⟩ := H.reg hp; exact ⟨g', e', hg'.set_t hk (by decide)⟩),
      own_set_t H.qrow hk (by decide), H.qs.set_t hk (by decide), ?_, own_set_t H.mrow hk (by decide), H.ms.set_t hk (by decide), fun hp => (by obtain ⟨g', e', hg'⟩ := H.val hp; exact ⟨g', e', hg'.set_t hk (by decide)⟩),
      H.bel.setCell h1 _, H.len, H.ql, H.ml⟩
    rw [hg]
    have e1 : iv (zs.set j x) = (iv zs).set j (.int .i64 x) := by unfold iv; rw [List.map_set]
    rw [e1]
    exact hs2
end
/-- what is answered is at most 16 bytes -/
theorem Ob.apply_vlen {s : Ob} {c : Cm} (h : s.Inv) : (s.apply c).v.length ≤ 16 := by
  have hg : (Mp.getV s.mp c.key).length ≤ 16 := by
    rcases Mp.getV_mem (ps := s.mp) (k := c.key) with e | ⟨p, hp, e⟩
    · rw [e]; simp
    · rw [e]; exact (h.mp.len p hp).2
  refine Ob.apply_ind (P := fun r => r.v.length ≤ 16) s c (fun _ => h.reg) (fun _ => by simp) (fun _ => ?_) (fun _ => by simp) (fun _ => ?_) (fun _ => by simp) (fun _ => by simp) (fun _ => by simp) (fun _ => ?_) (fun _ => hg) (fun _ => hg) (by simp)
  · show (casV s.reg c.old c.val).length ≤ 16
    unfold casV
    have := h.reg
    repeat' split
    all_goals first | (simp; done) | omega
  · show (popV s.q).length ≤ 16
    unfold popV
    cases hq : s.q with
    | nil => simp
    | cons l t => exact h.qv l (by rw [hq]; simp)
  · show (Mp.putV s.mp c.key c.val).length ≤ 16
    rcases Mp.putV_mem (ps := s.mp) (k := c.key) (v := c.val) with e | ⟨p, hp, e⟩
    · rw [e]; simp
    · rw [e]; exact (h.mp.len p hp).2
theorem owns_lim {W w : World} {vs : List Value} {qs : List (List Nat)} (h : Owns W w vs qs) (hL : ∀ l ∈ qs, l.length ≤ 1000) : ∀ (A : Option Addr) (m c : Nat), Value.slice A m c ∈ vs → m ≤ 1000 := by
  intro A m c hm
  obtain ⟨i, hi, e⟩ := List.getElem_of_mem hm
  have hi2 : i < qs.length := by rw [← h.len]; exact hi
  obtain ⟨A', c', e2, _⟩ := h.cell i qs[i] (List.getElem?_eq_getElem hi2)
  rw [List.getElem?_eq_getElem hi, e] at e2
  injection e2 with e2
  injection e2 with _ e2
  have := hL qs[i] (List.getElem_mem _)
  omega
/-- behind Apply: all that it answered is new -/
theorem Tn.start {wc w1 : World} {d : OA} {r : Ans} {A : Option Addr} {cc h : Nat} (ho : OwnO wc w1 d r.s) (hv : OwnB wc w1 A r.v.length cc r.v) (hi : r.s.Inv) (hvb : ∀ x ∈ r.v, x < 256) (hvl : r.v.length ≤ 16) (hb : Below wc.heap.size wc w1) (hh : w1.heap.size = h) :
    ∃ vs us, Tn wc ((w1.alloc (.cells #[.slice d.A0 r.s.reg.length d.c0, .slice d.A1 r.s.q.length d.c1, .slice d.A2 r.s.lk.length d.c2, .slice d.A3 r.s.mp.length d.c3] 32)).alloc (.cells #[.int .i64 r.e, .slice A r.v.length cc, .int .i64 r.n] 34)) h d r.s.reg.length r.s.q.length r.s.lk.length r.s.mp.length vs us r.s.lk A r.v.length cc r.e r.n := by
  subst hh
  obtain ⟨vs, hq1, hq2⟩ := ho.o1
  obtain ⟨us, hm1, hm2⟩ := ho.o3
  have b2 : Below w1.heap.size w1 ((w1.alloc (.cells #[.slice d.A0 r.s.reg.length d.c0, .slice d.A1 r.s.q.length d.c1, .slice d.A2 r.s.lk.length d.c2, .slice d.A3 r.s.mp.length d.c3] 32)).alloc (.cells #[.int .i64 r.e, .slice A r.v.length cc, .int .i64 r.n] 34)) := ((Below.refl _ _).alloc (Nat.le_refl _) _).alloc (by simp) _
  have hby : BytesL (flat r.s.mp) := fun l hl => by
    obtain ⟨p, hp, e⟩ := flat_mem hl
    have := hi.mp.byt p hp
    rcases e with rfl | rfl
    · exact this.1
    · exact this.2
  refine ⟨vs, us, (Blk.new _ _ _).alloc _, ?_, fun hp => (by obtain ⟨g, e, hg⟩ := soft_own ho.o0 hi.regb hp; exact ⟨g, e, hg.below b2⟩), ownsRow_below hq1 b2, (hq2.soft hi.qb).below b2, ownsRow_below ho.o2 b2, ownsRow_below hm1 b2, (hm2.soft hby).below b2,
    fun hp => (by obtain ⟨g, e, hg⟩ := soft_own hv hvb hp; exact ⟨g, e, hg.below b2⟩), hb.trans (b2.mono hb.size), ⟨hi.reg, hi.ql, hi.lkl, hi.mp.few, hvl⟩, owns_lim hq2 (fun l hl => by have := hi.qv l hl; omega), owns_lim hm2 (fun l hl => ?_)⟩
  · have := Blk.new (w1.alloc (.cells #[.slice d.A0 r.s.reg.length d.c0, .slice d.A1 r.s.q.length d.c1, .slice d.A2 r.s.lk.length d.c2, .slice d.A3 r.s.mp.length d.c3] 32)) 34 #[.int .i64 r.e, .slice A r.v.length cc, .int .i64 r.n]
    rwa [World.size_alloc] at this
  · obtain ⟨p, hp, e⟩ := flat_mem hl
    have := hi.mp.len p hp
    rcases e with rfl | rfl <;> omega
end Go.Proofs.Ytcmjpjhaaookfaa
namespace Go.Proofs.Ytcmjpjhaaookfaa
open Go.RowKit
set_option linter.unusedVariables false
theorem strB_sizeO (l : List Nat) : (strB l).size = l.length := by
  show (strB l).data.size = l.length
  unfold strB strOfNums; simp
set_option maxHeartbeats 8000000 in
set_option maxRecDepth 100000 in
theorem objsOwn_core (hC : ApplyC8) (hA : AwakeC8) (a0 : Option Addr) (len0 cap0 : Nat) (z0 : List Int) (nn : Int) (w : World) (w0 : IsRow .i64 w a0 len0 cap0 z0) :
    Calls Try.prog 4 #[.slice a0 len0 cap0, .int .i64 nn] w fun e w' => e = .returned (.bool true) ∧ Below w.heap.size w w' := by
  obtain ⟨hz, hzl, hle0, hcap0⟩ := w0.ints
  obtain ⟨zs, hzs⟩ : ∃ zs, zs = z0.take len0 := ⟨_, rfl⟩
  rw [← hzs] at hz hzl
  have hn0 : len0 ≤ 9223372036854775807 := Nat.le_trans hle0 hcap0
  have HZ := Lib.hid hz
  have HZL := Lib.hid hzl
  clear w0 hcap0 hzs hz hle0 hzl
  have HS0 : Hid (TwoS w ((w.alloc (.cells #[.slice none 0 0, .slice none 0 0, .slice none 0 0, .slice none 0 0] 32)).alloc (.cells #[.slice none 0 0, .slice none 0 0, .slice none 0 0, .slice none 0 0] 32)) w.heap.size ⟨none, 0, none, 0, none, 0, none, 0⟩ ⟨none, 0, none, 0, none, 0, none, 0⟩ ⟨[], [], [], []⟩ ⟨[], [], [], []⟩) := Lib.hid
    ⟨(Blk.new _ _ _).alloc _, by
      have := Blk.new (w.alloc (.cells #[.slice none 0 0, .slice none 0 0, .slice none 0 0, .slice none 0 0] 32)) 32 #[.slice none 0 0, .slice none 0 0, .slice none 0 0, .slice none 0 0]
      rwa [World.size_alloc] at this, ⟨own_nil _ _, OwnQ.nil _ _, ownI_nil _ _, OwnP.nil _ _⟩, ⟨own_nil _ _, OwnQ.nil _ _, ownI_nil _ _, OwnP.nil _ _⟩, Ob.Inv.nil, Ob.Inv.nil, ((Below.refl _ _).alloc (Nat.le_refl _) _).alloc (by simp) _, Nat.le_refl _⟩
  go_enter Try.func4, Try.ntmps4
  go_upto_block 0 with fail
  obtain ⟨g, hg⟩ : ∃ g, w.heap.size = g := ⟨_, rfl⟩
  rw [hg] at HS0 ⊢
  clear hg
  go_cut [7] from 20 to 49 (fun s7 wx => ∃ a a' s, Hid (TwoS w wx g a a' s s))
  case first =>
   go_wp2_with fail
   go_loopw [7] (fun s7 wr => ∃ (i : Nat) (a a' : OA) (s : Ob), i ≤ len0 ∧ s7 = .int .i64 (i : Int) ∧ Hid (TwoS w wr g a a' s s)) (fun s7 _ => len0 - (intOf s7).toNat)
   case atStart => exact ⟨0, _, _, _, Nat.zero_le _, rfl, HS0⟩
   case round =>
     clear HS0
     obtain ⟨i, a, a', s, hi, rfl, HS⟩ := hrel
     by_cases hlt : i < len0 ∧ i < 40
     · obtain ⟨hlt, h40⟩ := hlt
       have hk1 : (i : Int) < (len0 : Int) := by omega
       have hk2 : (i : Int) < 40 := by omega
       have hk0 : (0 : Int) ≤ (i : Int) := by omega
       have hwi : IntKind.i64.wrap ((i : Int) + 1) = (i : Int) + 1 := IntWalk.i64_in _ (by omega)
       obtain ⟨z, hz⟩ : ∃ z, zs[i]? = some z := ⟨_, List.getElem?_eq_getElem (by have := HZL.out; omega)⟩
       obtain ⟨b, o, rfl, _⟩ := HZ.out.int_at hlt
       have hzlt : b < w.heap.size := by obtain ⟨b', o', e1, h1, _⟩ := HZ.out.2 (by omega); injection e1 with e1; injection e1 with e1; omega
       have HZC : Hid (∀ wx, Below w.heap.size w wx → wx.cell? ⟨b, o + i, none⟩ = some (.int .i64 z)) := Lib.hid (fun wx hb => (hb.cell (p := ⟨b, o + i, none⟩) hzlt).trans (HZ.out.int_cell hlt hz))
       clear hz hzlt
       obtain ⟨c, hc⟩ : ∃ c, cmdOf z = c := ⟨_, rfl⟩
       have HD : Hid (∀ wx, Calls Try.prog 15 #[.int .i64 z] wx fun e w' => ∃ ca, e = .returned (.agg #[.int .i64 c.kind, .int .i64 c.who, .slice ca.Ak c.key.length ca.ck, .slice ca.Av c.val.length ca.cv, .slice ca.Ao c.old.length ca.co]) ∧ c.Fits ∧ RdC w' w'.heap.size ca c ∧ Below wx.heap.size wx w') := Lib.hid (fun wx => by
         have := cmd_det z wx
         rw [hc] at this
         exact this)
       obtain ⟨r, hr⟩ : ∃ r, s.apply c = r := ⟨_, rfl⟩
       have HR := Lib.hid hr
       clear hc hr
       go_upto_region 5 with fail
       go_cut [] from 30 to 39 (fun wx => ∃ d, Hid (TwoS w wx g d a' r.s s))
       case first =>
         refine wp_region_held_drew (S := fun w' => Below w.heap.size w w') (by kernel_rfl) (HS.out.bel.drew) (fun _ => ?_)
         have HT := Lib.hid (HS.out.below (Below.refl wr.heap.size wr).drew)
         generalize wr.drew = w2 at HT ⊢
         have hS := Lib.hid HT.out.bel
         refine wpAnyH_take (i := 1) (v := .slice (some ⟨b, o, none⟩) len0 cap0) rfl (by kernel_rfl) (by kernel_rfl) (by kernel_rfl) (fun _ _ _ h => h) (Or.inl ⟨by kernel_rfl, fun w _ => by go_simp⟩) hS.out ?_
         refine wpAnyH_take (i := 2) (v := .int .i64 (i : Int)) rfl (by kernel_rfl) (by kernel_rfl) (by kernel_rfl) (fun _ _ _ h => h) (Or.inl ⟨by kernel_rfl, fun w _ => by go_simp⟩) hS.out ?_
         refine wpAnyH_take (i := 3) (v := .pointer (some ⟨b, o + i, none⟩)) rfl (by kernel_rfl) (by kernel_rfl) (by kernel_rfl) (fun _ _ _ h => h) (Or.inl ⟨by kernel_rfl, fun w _ => by go_simp⟩) hS.out ?_
         refine wpAnyH_take (i := 4) (v := .int .i64 z) rfl (by kernel_rfl) (by kernel_rfl) (by kernel_rfl) (fun _ _ _ h => h) (Or.inl ⟨by kernel_rfl, fun w h => by have q := HZC.out _ h; go_simp⟩) hS.out ?_
         refine wpAnyH_ready (rs := [0, 5]) (by kernel_rfl) (by simp) ?_
         refine AllReadyH.cons rfl (fun K hK => ?_) (AllReadyH.cons rfl (fun K hK => ?_) AllReadyH.nil)
         · have hx := HT.out.b1
           simp only [objC] at hx
           obtain ⟨x0, x1, x2, x3, f0, f1, f2, f3⟩ := four hx
           clear hx
           go_simp
           refine hK.out _ _ hS.out (fun _ => ?_)
           clear hK K x0 x1 x2 x3 f0 f1 f2 f3
           refine wpAnyH_ready (rs := [5]) (by kernel_rfl) (by simp) ?_
           refine AllReadyH.cons rfl (fun K hK => ?_) AllReadyH.nil
           go_simp
           refine (HD.out _).mono ?_
           rintro e w3 ⟨ca, rfl, hF, hrc, hb3⟩
           have HT := Lib.hid (HT.out.below hb3)
           have hS := Lib.hid HT.out.bel
           have HRC := Lib.hid hrc
           have HF := Lib.hid hF
           go_simp
           refine hK.out _ _ hS.out (fun _ => ?_)
           clear hK K
           refine wpAnyH_ready (rs := [6]) (by kernel_rfl) (by simp) ?_
           refine AllReadyH.cons rfl (fun K hK => ?_) AllReadyH.nil
           have hIv := HT.out.i1.apply HF.out
           rw [HR.out] at hIv
           have hcall : Calls Try.prog 12 #[.agg #[.slice a.A0 s.reg.length a.c0, .slice a.A1 s.q.length a.c1, .slice a.A2 s.lk.length a.c2, .slice a.A3 s.mp.length a.c3], .agg #[.int .i64 c.kind, .int .i64 c.who, .slice ca.Ak c.key.length ca.ck, .slice ca.Av c.val.length ca.cv, .slice ca.Ao c.old.length ca.co]] w3 (GotO w w3 r) := by
             have := hC (W := w) HT.out.i1 HF.out HT.out.o1.rd HRC.out HT.out.bel
             rw [HR.out] at this
             exact this
           have HCALL := Lib.hid hcall
           have HIV := Lib.hid hIv
           clear hcall hIv
           go_simp
           refine HCALL.out.mono ?_
           rintro e w4 ⟨d, A4, c4, rfl, ho4, hv4, hB4, hb4⟩
           unfold objV resV
           simp only [objC]
           have HT := Lib.hid (HT.out.below hb4)
           have hS := Lib.hid HT.out.bel
           have HO4 := Lib.hid ho4
           clear ho4 hv4 hB4 hb4 HCALL
           go_simp
           refine hK.out _ _ hS.out (fun _ => ?_)
           clear hK K
           refine wpAnyH_take (i := 7) (v := .tuple #[.agg #[.slice d.A0 r.s.reg.length d.c0, .slice d.A1 r.s.q.length d.c1, .slice d.A2 r.s.lk.length d.c2, .slice d.A3 r.s.mp.length d.c3], .agg #[.int .i64 r.e, .slice A4 r.v.length c4, .int .i64 r.n]]) rfl (by kernel_rfl) (by kernel_rfl) (by kernel_rfl) (fun _ _ _ h => h) (Or.inl ⟨by kernel_rfl, fun w _ => by go_simp⟩) hS.out ?_
           refine wpAnyH_take (i := 8) (v := .agg #[.slice d.A0 r.s.reg.length d.c0, .slice d.A1 r.s.q.length d.c1, .slice d.A2 r.s.lk.length d.c2, .slice d.A3 r.s.mp.length d.c3]) rfl (by kernel_rfl) (by kernel_rfl) (by kernel_rfl) (fun _ _ _ h => h) (Or.inl ⟨by kernel_rfl, fun w _ => by go_simp⟩) hS.out ?_
           refine wpAnyH_take (i := 9) (v := .agg #[.int .i64 r.e, .slice A4 r.v.length c4, .int .i64 r.n]) rfl (by kernel_rfl) (by kernel_rfl) (by kernel_rfl) (fun _ _ _ h => h) (Or.inl ⟨by kernel_rfl, fun w _ => by go_simp⟩) hS.out ?_
           have hx := HT.out.b1
           simp only [objC] at hx
           obtain ⟨x0, x1, x2, x3, f0, f1, f2, f3⟩ := four hx
           clear hx
           have HN := Lib.hid (HT.out.set1 HO4.out HIV.out (.slice d.A0 r.s.reg.length d.c0) (.slice d.A1 r.s.q.length d.c1) (.slice d.A2 r.s.lk.length d.c2) (.slice d.A3 r.s.mp.length d.c3) rfl)
           have hS2 := Lib.hid HN.out.bel
           refine wpAnyH_ready (rs := [10]) (by kernel_rfl) (by simp) ?_
           refine AllReadyH.cons rfl (fun K hK => ?_) AllReadyH.nil
           go_simp
           refine hK.out _ _ hS2.out (fun _ => ?_)
           clear hK K x0 x1 x2 x3 f0 f1 f2 f3
           refine wpAnyH_done (by kernel_rfl) ?_ _
           go_wp2_with fail
           go_meet
           exact ⟨d, HN⟩
         · go_simp
           refine (HD.out _).mono ?_
           rintro e w3 ⟨ca, rfl, hF, hrc, hb3⟩
           have HT := Lib.hid (HT.out.below hb3)
           have hS := Lib.hid HT.out.bel
           have HRC := Lib.hid hrc
           have HF := Lib.hid hF
           go_simp
           refine hK.out _ _ hS.out (fun _ => ?_)
           clear hK K
           refine wpAnyH_ready (rs := [0]) (by kernel_rfl) (by simp) ?_
           refine AllReadyH.cons rfl (fun K hK => ?_) AllReadyH.nil
           have hx := HT.out.b1
           simp only [objC] at hx
           obtain ⟨x0, x1, x2, x3, f0, f1, f2, f3⟩ := four hx
           clear hx
           go_simp
           refine hK.out _ _ hS.out (fun _ => ?_)
           clear hK K x0 x1 x2 x3 f0 f1 f2 f3
           refine wpAnyH_ready (rs := [6]) (by kernel_rfl) (by simp) ?_
           refine AllReadyH.cons rfl (fun K hK => ?_) AllReadyH.nil
           have hIv := HT.out.i1.apply HF.out
           rw [HR.out] at hIv
           have hcall : Calls Try.prog 12 #[.agg #[.slice a.A0 s.reg.length a.c0, .slice a.A1 s.q.length a.c1, .slice a.A2 s.lk.length a.c2, .slice a.A3 s.mp.length a.c3], .agg #[.int .i64 c.kind, .int .i64 c.who, .slice ca.Ak c.key.length ca.ck, .slice ca.Av c.val.length ca.cv, .slice ca.Ao c.old.length ca.co]] w3 (GotO w w3 r) := by
             have := hC (W := w) HT.out.i1 HF.out HT.out.o1.rd HRC.out HT.out.bel
             rw [HR.out] at this
             exact this
           have HCALL := Lib.hid hcall
           have HIV := Lib.hid hIv
           clear hcall hIv
           go_simp
           refine HCALL.out.mono ?_
           rintro e w4 ⟨d, A4, c4, rfl, ho4, hv4, hB4, hb4⟩
           unfold objV resV
           simp only [objC]
           have HT := Lib.hid (HT.out.below hb4)
           have hS := Lib.hid HT.out.bel
           have HO4 := Lib.hid ho4
           clear ho4 hv4 hB4 hb4 HCALL
           go_simp
           refine hK.out _ _ hS.out (fun _ => ?_)
           clear hK K
           refine wpAnyH_take (i := 7) (v := .tuple #[.agg #[.slice d.A0 r.s.reg.length d.c0, .slice d.A1 r.s.q.length d.c1, .slice d.A2 r.s.lk.length d.c2, .slice d.A3 r.s.mp.length d.c3], .agg #[.int .i64 r.e, .slice A4 r.v.length c4, .int .i64 r.n]]) rfl (by kernel_rfl) (by kernel_rfl) (by kernel_rfl) (fun _ _ _ h => h) (Or.inl ⟨by kernel_rfl, fun w _ => by go_simp⟩) hS.out ?_
           refine wpAnyH_take (i := 8) (v := .agg #[.slice d.A0 r.s.reg.length d.c0, .slice d.A1 r.s.q.length d.c1, .slice d.A2 r.s.lk.length d.c2, .slice d.A3 r.s.mp.length d.c3]) rfl (by kernel_rfl) (by kernel_rfl) (by kernel_rfl) (fun _ _ _ h => h) (Or.inl ⟨by kernel_rfl, fun w _ => by go_simp⟩) hS.out ?_
           refine wpAnyH_take (i := 9) (v := .agg #[.int .i64 r.e, .slice A4 r.v.length c4, .int .i64 r.n]) rfl (by kernel_rfl) (by kernel_rfl) (by kernel_rfl) (fun _ _ _ h => h) (Or.inl ⟨by kernel_rfl, fun w _ => by go_simp⟩) hS.out ?_
           have hx := HT.out.b1
           simp only [objC] at hx
           obtain ⟨x0, x1, x2, x3, f0, f1, f2, f3⟩ := four hx
           clear hx
           have HN := Lib.hid (HT.out.set1 HO4.out HIV.out (.slice d.A0 r.s.reg.length d.c0) (.slice d.A1 r.s.q.length d.c1) (.slice d.A2 r.s.lk.length d.c2) (.slice d.A3 r.s.mp.length d.c3) rfl)
           have hS2 := Lib.hid HN.out.bel
           refine wpAnyH_ready (rs := [10]) (by kernel_rfl) (by simp) ?_
           refine AllReadyH.cons rfl (fun K hK => ?_) AllReadyH.nil
           go_simp
           refine hK.out _ _ hS2.out (fun _ => ?_)
           clear hK K x0 x1 x2 x3 f0 f1 f2 f3
           refine wpAnyH_done (by kernel_rfl) ?_ _
           go_wp2_with fail
           go_meet
           exact ⟨d, HN⟩
       case rest =>
       obtain ⟨d, HS5⟩ := hcut
       clear HS
       rename World => w5
       go_upto_region 6 with fail
       refine wp_region_held_drew (S := fun w' => Below w.heap.size w w') (by kernel_rfl) (HS5.out.bel.drew) (fun _ => ?_)
       have HT := Lib.hid (HS5.out.below (Below.refl w5.heap.size w5).drew)
       generalize w5.drew = w2 at HT ⊢
       have hS := Lib.hid HT.out.bel
       refine wpAnyH_take (i := 1) (v := .slice (some ⟨b, o, none⟩) len0 cap0) rfl (by kernel_rfl) (by kernel_rfl) (by kernel_rfl) (fun _ _ _ h => h) (Or.inl ⟨by kernel_rfl, fun w _ => by go_simp⟩) hS.out ?_
       refine wpAnyH_take (i := 2) (v := .int .i64 (i : Int)) rfl (by kernel_rfl) (by kernel_rfl) (by kernel_rfl) (fun _ _ _ h => h) (Or.inl ⟨by kernel_rfl, fun w _ => by go_simp⟩) hS.out ?_
       refine wpAnyH_take (i := 3) (v := .pointer (some ⟨b, o + i, none⟩)) rfl (by kernel_rfl) (by kernel_rfl) (by kernel_rfl) (fun _ _ _ h => h) (Or.inl ⟨by kernel_rfl, fun w _ => by go_simp⟩) hS.out ?_
       refine wpAnyH_take (i := 4) (v := .int .i64 z) rfl (by kernel_rfl) (by kernel_rfl) (by kernel_rfl) (fun _ _ _ h => h) (Or.inl ⟨by kernel_rfl, fun w h => by have q := HZC.out _ h; go_simp⟩) hS.out ?_
       refine wpAnyH_ready (rs := [0, 5]) (by kernel_rfl) (by simp) ?_
       refine AllReadyH.cons rfl (fun K hK => ?_) (AllReadyH.cons rfl (fun K hK => ?_) AllReadyH.nil)
       · have hx := HT.out.b2
         simp only [objC] at hx
         obtain ⟨x0, x1, x2, x3, f0, f1, f2, f3⟩ := four hx
         clear hx
         go_simp
         refine hK.out _ _ hS.out (fun _ => ?_)
         clear hK K x0 x1 x2 x3 f0 f1 f2 f3
         refine wpAnyH_ready (rs := [5]) (by kernel_rfl) (by simp) ?_
         refine AllReadyH.cons rfl (fun K hK => ?_) AllReadyH.nil
         go_simp
         refine (HD.out _).mono ?_
         rintro e w3 ⟨ca, rfl, hF, hrc, hb3⟩
         have HT := Lib.hid (HT.out.below hb3)
         have hS := Lib.hid HT.out.bel
         have HRC := Lib.hid hrc
         have HF := Lib.hid hF
         go_simp
         refine hK.out _ _ hS.out (fun _ => ?_)
         clear hK K
         refine wpAnyH_ready (rs := [6]) (by kernel_rfl) (by simp) ?_
         refine AllReadyH.cons rfl (fun K hK => ?_) AllReadyH.nil
         have hIv := HT.out.i2.apply HF.out
         rw [HR.out] at hIv
         have hcall : Calls Try.prog 16 #[.agg #[.slice a'.A0 s.reg.length a'.c0, .slice a'.A1 s.q.length a'.c1, .slice a'.A2 s.lk.length a'.c2, .slice a'.A3 s.mp.length a'.c3], .agg #[.int .i64 c.kind, .int .i64 c.who, .slice ca.Ak c.key.length ca.ck, .slice ca.Av c.val.length ca.cv, .slice ca.Ao c.old.length ca.co]] w3 (GotO w w3 r) := by
           have := refApply_any (W := w) HT.out.i2 HF.out HT.out.o2.rd HRC.out HT.out.bel
           rw [HR.out] at this
           exact this
         have HCALL := Lib.hid hcall
         have HIV := Lib.hid hIv
         clear hcall hIv
         go_simp
         refine HCALL.out.mono ?_
         rintro e w4 ⟨d', A4, c4, rfl, ho4, hv4, hB4, hb4⟩
         unfold objV resV
         simp only [objC]
         have HT := Lib.hid (HT.out.below hb4)
         have hS := Lib.hid HT.out.bel
         have HO4 := Lib.hid ho4
         clear ho4 hv4 hB4 hb4 HCALL
         go_simp
         refine hK.out _ _ hS.out (fun _ => ?_)
         clear hK K
         refine wpAnyH_take (i := 7) (v := .tuple #[.agg #[.slice d'.A0 r.s.reg.length d'.c0, .slice d'.A1 r.s.q.length d'.c1, .slice d'.A2 r.s.lk.length d'.c2, .slice d'.A3 r.s.mp.length d'.c3], .agg #[.int .i64 r.e, .slice A4 r.v.length c4, .int .i64 r.n]]) rfl (by kernel_rfl) (by kernel_rfl) (by kernel_rfl) (fun _ _ _ h => h) (Or.inl ⟨by kernel_rfl, fun w _ => by go_simp⟩) hS.out ?_
         refine wpAnyH_take (i := 8) (v := .agg #[.slice d'.A0 r.s.reg.length d'.c0, .slice d'.A1 r.s.q.length d'.c1, .slice d'.A2 r.s.lk.length d'.c2, .slice d'.A3 r.s.mp.length d'.c3]) rfl (by kernel_rfl) (by kernel_rfl) (by kernel_rfl) (fun _ _ _ h => h) (Or.inl ⟨by kernel_rfl, fun w _ => by go_simp⟩) hS.out ?_
         refine wpAnyH_take (i := 9) (v := .agg #[.int .i64 r.e, .slice A4 r.v.length c4, .int .i64 r.n]) rfl (by kernel_rfl) (by kernel_rfl) (by kernel_rfl) (fun _ _ _ h => h) (Or.inl ⟨by kernel_rfl, fun w _ => by go_simp⟩) hS.out ?_
         have hx := HT.out.b2
         simp only [objC] at hx
         obtain ⟨x0, x1, x2, x3, f0, f1, f2, f3⟩ := four hx
         clear hx
         have HN := Lib.hid (HT.out.set2 HO4.out HIV.out (.slice d'.A0 r.s.reg.length d'.c0) (.slice d'.A1 r.s.q.length d'.c1) (.slice d'.A2 r.s.lk.length d'.c2) (.slice d'.A3 r.s.mp.length d'.c3) rfl)
         have hS2 := Lib.hid HN.out.bel
         refine wpAnyH_ready (rs := [10]) (by kernel_rfl) (by simp) ?_
         refine AllReadyH.cons rfl (fun K hK => ?_) AllReadyH.nil
         go_simp
         refine hK.out _ _ hS2.out (fun _ => ?_)
         clear hK K x0 x1 x2 x3 f0 f1 f2 f3
         refine wpAnyH_done (by kernel_rfl) ?_ _
         go_wp2_with fail
         go_roundw
         case rel => exact ⟨i + 1, d, d', r.s, by omega, by go_num, HN⟩
         case measure => simp [intOf]; omega
       · go_simp
         refine (HD.out _).mono ?_
         rintro e w3 ⟨ca, rfl, hF, hrc, hb3⟩
         have HT := Lib.hid (HT.out.below hb3)
         have hS := Lib.hid HT.out.bel
         have HRC := Lib.hid hrc
         have HF := Lib.hid hF
         go_simp
         refine hK.out _ _ hS.out (fun _ => ?_)
         clear hK K
         refine wpAnyH_ready (rs := [0]) (by kernel_rfl) (by simp) ?_
         refine AllReadyH.cons rfl (fun K hK => ?_) AllReadyH.nil
         have hx := HT.out.b2
         simp only [objC] at hx
         obtain ⟨x0, x1, x2, x3, f0, f1, f2, f3⟩ := four hx
         clear hx
         go_simp
         refine hK.out _ _ hS.out (fun _ => ?_)
         clear hK K x0 x1 x2 x3 f0 f1 f2 f3
         refine wpAnyH_ready (rs := [6]) (by kernel_rfl) (by simp) ?_
         refine AllReadyH.cons rfl (fun K hK => ?_) AllReadyH.nil
         have hIv := HT.out.i2.apply HF.out
         rw [HR.out] at hIv
         have hcall : Calls Try.prog 16 #[.agg #[.slice a'.A0 s.reg.length a'.c0, .slice a'.A1 s.q.length a'.c1, .slice a'.A2 s.lk.length a'.c2, .slice a'.A3 s.mp.length a'.c3], .agg #[.int .i64 c.kind, .int .i64 c.who, .slice ca.Ak c.key.length ca.ck, .slice ca.Av c.val.length ca.cv, .slice ca.Ao c.old.length ca.co]] w3 (GotO w w3 r) := by
           have := refApply_any (W := w) HT.out.i2 HF.out HT.out.o2.rd HRC.out HT.out.bel
           rw [HR.out] at this
           exact this
         have HCALL := Lib.hid hcall
         have HIV := Lib.hid hIv
         clear hcall hIv
         go_simp
         refine HCALL.out.mono ?_
         rintro e w4 ⟨d', A4, c4, rfl, ho4, hv4, hB4, hb4⟩
         unfold objV resV
         simp only [objC]
         have HT := Lib.hid (HT.out.below hb4)
         have hS := Lib.hid HT.out.bel
         have HO4 := Lib.hid ho4
         clear ho4 hv4 hB4 hb4 HCALL
         go_simp
         refine hK.out _ _ hS.out (fun _ => ?_)
         clear hK K
         refine wpAnyH_take (i := 7) (v := .tuple #[.agg #[.slice d'.A0 r.s.reg.length d'.c0, .slice d'.A1 r.s.q.length d'.c1, .slice d'.A2 r.s.lk.length d'.c2, .slice d'.A3 r.s.mp.length d'.c3], .agg #[.int .i64 r.e, .slice A4 r.v.length c4, .int .i64 r.n]]) rfl (by kernel_rfl) (by kernel_rfl) (by kernel_rfl) (fun _ _ _ h => h) (Or.inl ⟨by kernel_rfl, fun w _ => by go_simp⟩) hS.out ?_
         refine wpAnyH_take (i := 8) (v := .agg #[.slice d'.A0 r.s.reg.length d'.c0, .slice d'.A1 r.s.q.length d'.c1, .slice d'.A2 r.s.lk.length d'.c2, .slice d'.A3 r.s.mp.length d'.c3]) rfl (by kernel_rfl) (by kernel_rfl) (by kernel_rfl) (fun _ _ _ h => h) (Or.inl ⟨by kernel_rfl, fun w _ => by go_simp⟩) hS.out ?_
         refine wpAnyH_take (i := 9) (v := .agg #[.int .i64 r.e, .slice A4 r.v.length c4, .int .i64 r.n]) rfl (by kernel_rfl) (by kernel_rfl) (by kernel_rfl) (fun _ _ _ h => h) (Or.inl ⟨by kernel_rfl, fun w _ => by go_simp⟩) hS.out ?_
         have hx := HT.out.b2
         simp only [objC] at hx
         obtain ⟨x0, x1, x2, x3, f0, f1, f2, f3⟩ := four hx
         clear hx
         have HN := Lib.hid (HT.out.set2 HO4.out HIV.out (.slice d'.A0 r.s.reg.length d'.c0) (.slice d'.A1 r.s.q.length d'.c1) (.slice d'.A2 r.s.lk.length d'.c2) (.slice d'.A3 r.s.mp.length d'.c3) rfl)
         have hS2 := Lib.hid HN.out.bel
         refine wpAnyH_ready (rs := [10]) (by kernel_rfl) (by simp) ?_
         refine AllReadyH.cons rfl (fun K hK => ?_) AllReadyH.nil
         go_simp
         refine hK.out _ _ hS2.out (fun _ => ?_)
         clear hK K x0 x1 x2 x3 f0 f1 f2 f3
         refine wpAnyH_done (by kernel_rfl) ?_ _
         go_wp2_with fail
         go_roundw
         case rel => exact ⟨i + 1, d, d', r.s, by omega, by go_num, HN⟩
         case measure => simp [intOf]; omega
     · by_cases h1 : i < len0
       · have h2 : ¬ (i : Int) < 40 := by omega
         have h3 : (i : Int) < (len0 : Int) := by omega
         go_wp2_with fail
         go_meet
         exact ⟨a, a', s, HS⟩
       · have h3 : ¬ (i : Int) < (len0 : Int) := by omega
         go_wp2_with fail
         go_meet
         exact ⟨a, a', s, HS⟩
  case rest =>
    obtain ⟨a, a', s, HS⟩ := hcut
    rename World => w1
    clear HS0
    go_upto_region 8 with (first
      | (go_at_call 15; refine (cmd_any _ _).mono ?_; rintro e w2 ⟨ca, c, rfl, hF, hrc, hb2⟩; unfold cmdV; simp only [cmdC])
      | fail)
    obtain ⟨k, hk⟩ : ∃ k, w2.heap.size = k := ⟨_, rfl⟩
    have b3 : Below w2.heap.size w2 (w2.alloc (.cells #[.int .i64 c.kind, .int .i64 c.who, .slice ca.Ak c.key.length ca.ck, .slice ca.Av c.val.length ca.cv, .slice ca.Ao c.old.length ca.co] 24)) := (Below.refl _ _).alloc (Nat.le_refl _) _
    have HS3 := Lib.hid (HS.out.below (hb2.trans (b3.mono hb2.size)))
    have HRC := Lib.hid (hrc.below' b3)
    have HF := Lib.hid hF
    have HK : Hid (Blk (w2.alloc (.cells #[.int .i64 c.kind, .int .i64 c.who, .slice ca.Ak c.key.length ca.ck, .slice ca.Av c.val.length ca.cv, .slice ca.Ao c.old.length ca.co] 24)) k 24 #[.int .i64 c.kind, .int .i64 c.who, .slice ca.Ak c.key.length ca.ck, .slice ca.Av c.val.length ca.cv, .slice ca.Ao c.old.length ca.co]) := Lib.hid (by subst hk; exact Blk.new _ _ _)
    obtain ⟨w3, hw3⟩ : ∃ x, w2.alloc (.cells #[.int .i64 c.kind, .int .i64 c.who, .slice ca.Ak c.key.length ca.ck, .slice ca.Av c.val.length ca.cv, .slice ca.Ao c.old.length ca.co] 24) = x := ⟨_, rfl⟩
    rw [hw3] at HS3 HRC HK
    rw [hw3, hk]
    clear hw3 hk b3 hrc hb2 hF HS
    go_cut [9] from 52 to 59 (fun s9 wx => s9 = .string (strB c.val ++ ⟨#[124]⟩ ++ strB c.key) ∧ wx = w3)
    case first =>
      obtain ⟨y0, y1, y2, y3, y4⟩ := five HK.out
      have k1 := str_of (c := ca.cv) HRC.out.rv
      have k2 := str_of (c := ca.ck) HRC.out.rk
      have n1 : ¬ 9223372036854775807 < (strB c.val).size + 1 := by rw [strB_sizeO]; have := HF.out.val.1; omega
      have n2 : ¬ 9223372036854775807 < (strB c.val).size + 1 + (strB c.key).size := by rw [strB_sizeO, strB_sizeO]; have h1 := HF.out.val.1; have h2 := HF.out.key.1; omega
      go_wp2_with fail
      go_meet
      exact ⟨rfl, rfl⟩
    case rest =>
    obtain ⟨rfl, hq⟩ := hcut
    subst hq
    rename World => w3
    obtain ⟨was, hwas⟩ : ∃ x, strB c.val ++ ⟨#[124]⟩ ++ strB c.key = x := ⟨_, rfl⟩
    have HWAS := Lib.hid hwas
    rw [hwas]
    clear hwas
    have hx := HS3.out.b1
    simp only [objC] at hx
    obtain ⟨x0, x1, x2, x3, _, _, _, _⟩ := four hx
    obtain ⟨y0, y1, y2, y3, y4⟩ := five HK.out
    clear hx
    have hcall := hC (W := w3) HS3.out.i1 HF.out HS3.out.o1.rd HRC.out (Below.refl _ _)
    have hiv := HS3.out.i1.apply HF.out
    have hvb := Ob.apply_vb (c := c) HS3.out.i1
    have hvl := Ob.apply_vlen (c := c) HS3.out.i1
    obtain ⟨r, hr⟩ : ∃ r, s.apply c = r := ⟨_, rfl⟩
    rw [hr] at hcall hiv hvb hvl
    have HCALL : Hid (Calls Try.prog 12 #[.agg #[.slice a.A0 s.reg.length a.c0, .slice a.A1 s.q.length a.c1, .slice a.A2 s.lk.length a.c2, .slice a.A3 s.mp.length a.c3], .agg #[.int .i64 c.kind, .int .i64 c.who, .slice ca.Ak c.key.length ca.ck, .slice ca.Av c.val.length ca.cv, .slice ca.Ao c.old.length ca.co]] w3 (GotO w3 w3 r)) := Lib.hid hcall
    have HIV := Lib.hid hiv
    have HVB := Lib.hid hvb
    have HVL := Lib.hid hvl
    clear hcall hiv hvb hvl hr
    go_upto_region 10 with (first
      | (go_at_call 12; refine HCALL.out.mono ?_; rintro e w4 ⟨d, A4, c4, rfl, ho4, hv4, hB4, hb4⟩; unfold objV resV; simp only [objC])
      | fail)
    obtain ⟨h, hh⟩ : ∃ h, w4.heap.size = h := ⟨_, rfl⟩
    obtain ⟨vs, us, HT0⟩ := Tn.start ho4 hv4 HIV.out HVB.out HVL.out hB4 hh
    obtain ⟨w5, hw5⟩ : ∃ x, (w4.alloc (.cells #[.slice d.A0 r.s.reg.length d.c0, .slice d.A1 r.s.q.length d.c1, .slice d.A2 r.s.lk.length d.c2, .slice d.A3 r.s.mp.length d.c3] 32)).alloc (.cells #[.int .i64 r.e, .slice A4 r.v.length c4, .int .i64 r.n] 34) = x := ⟨_, rfl⟩
    rw [hw5] at HT0 ⊢
    rw [hh]
    obtain ⟨m0, hm0⟩ : ∃ x, r.s.reg.length = x := ⟨_, rfl⟩
    obtain ⟨m1, hm1⟩ : ∃ x, r.s.q.length = x := ⟨_, rfl⟩
    obtain ⟨m2, hm2⟩ : ∃ x, r.s.lk.length = x := ⟨_, rfl⟩
    obtain ⟨m3, hm3⟩ : ∃ x, r.s.mp.length = x := ⟨_, rfl⟩
    obtain ⟨m4, hm4⟩ : ∃ x, r.v.length = x := ⟨_, rfl⟩
    obtain ⟨ls, hls⟩ : ∃ x, r.s.lk = x := ⟨_, rfl⟩
    rw [hm0, hm1, hm2, hm3, hm4, hls] at HT0
    have HT := Lib.hid HT0
    clear HT0 hw5 hh ho4 hv4 hB4 hb4 HCALL HIV HVB HVL x0 x1 x2 x3 y0 y1 y2 y3 y4
    rw [hm0, hm1, hm2, hm3, hm4]
    clear hm0 hm1 hm2 hm3 hm4 hls
    obtain ⟨x0, x1, x2, x3, _, _, _, _⟩ := four HT.out.tb
    go_wp2_with fail
    clear x0 x1 x2 x3
    go_loopw [69] (fun s69 wr => ∃ (j : Nat) (ls : List Int), j ≤ m0 ∧ s69 = .int .i64 (j : Int) ∧ Hid (Tn w3 wr h d m0 m1 m2 m3 vs us ls A4 m4 c4 r.e r.n)) (fun s69 _ => m0 - (intOf s69).toNat)
    case atStart => exact ⟨0, _, Nat.zero_le _, rfl, HT⟩
    case round =>
      clear HT
      obtain ⟨j, ls, hj, rfl, HT⟩ := hrel
      by_cases hlt : j < m0
      · obtain ⟨gb, hgb, hb⟩ := HT.out.reg (by omega)
        obtain ⟨hg1, hf, x, hx0, hx1, hc⟩ := hb.at hlt
        have hu := up8 x hx0 hx1
        have hji : (j : Int) < (m0 : Int) := by omega
        have hwj : IntKind.i64.wrap ((j : Int) + 1) = (j : Int) + 1 := IntWalk.i64_in _ (by have := HT.out.len; omega)
        obtain ⟨x0, x1, x2, x3, _, _, _, _⟩ := four HT.out.tb
        have HS := Lib.hid (HT.out.set_ (i := j) hb (show 0 ≤ (x + 1) % 256 by omega) (by omega))
        rw [hgb] at x0
        clear HT hb hg1
        go_wp2_with fail
        go_roundw
        case rel => exact ⟨j + 1, ls, by omega, by go_num, HS⟩
        case measure => simp only [intOf]; omega
      · obtain rfl : m0 = j := by omega
        clear hlt hj
        rename World => wr
        obtain ⟨x0, x1, x2, x3, _, _, _, _⟩ := four HT.out.tb
        go_wp2_with fail
        clear x0 x1 x2 x3
        go_loopw [83] (fun s83 wr => ∃ (j : Nat) (ls : List Int), j ≤ m1 ∧ s83 = .int .i64 (j : Int) ∧ Hid (Tn w3 wr h d m0 m1 m2 m3 vs us ls A4 m4 c4 r.e r.n)) (fun s83 _ => m1 - (intOf s83).toNat)
        case atStart => exact ⟨0, _, Nat.zero_le _, rfl, HT⟩
        case round =>
          clear HT
          obtain ⟨j, ls, hj, rfl, HT⟩ := hrel
          by_cases hlt : j < m1
          · obtain ⟨gr, hgr, _, _⟩ := own_addr HT.out.qrow (by omega)
            have hji : (j : Int) < (m1 : Int) := by omega
            have hwj : IntKind.i64.wrap ((j : Int) + 1) = (j : Int) + 1 := IntWalk.i64_in _ (by have := HT.out.len; omega)
            obtain ⟨v0, hv0⟩ : ∃ v, vs[j]? = some v := ⟨_, List.getElem?_eq_getElem (by have := HT.out.qrow.1; omega)⟩
            obtain ⟨A90, m90, c90, rfl, _⟩ := HT.out.qs v0 (List.mem_of_getElem? hv0)
            have HM0 := Lib.hid (HT.out.ql _ _ _ (List.mem_of_getElem? hv0))
            have HV0 := Lib.hid hv0
            clear hv0
            obtain ⟨x0, x1, x2, x3, _, _, _, _⟩ := four HT.out.tb
            rw [hgr] at x1
            have hq := HT.out.qrow
            rw [hgr] at hq
            have hck := (hq.cellAt j (by have := HT.out.qrow.1; omega)).trans HV0.out
            clear hq
            go_wp2_with fail
            clear x0 x1 x2 x3 hck
            go_loopw [92] (fun s92 wr => ∃ (l : Nat), l ≤ m90 ∧ s92 = .int .i64 (l : Int) ∧ Hid (Tn w3 wr h d m0 m1 m2 m3 vs us ls A4 m4 c4 r.e r.n)) (fun s92 _ => m90 - (intOf s92).toNat)
            case atStart => exact ⟨0, Nat.zero_le _, rfl, HT⟩
            case round =>
              clear HT
              obtain ⟨l, hl, rfl, HT⟩ := hrel
              by_cases hlt : l < m90
              · have hq := HT.out.qrow
                rw [hgr] at hq
                have hck := (hq.cellAt j (by have := HT.out.qrow.1; omega)).trans HV0.out
                obtain ⟨_, _, _, e9, hm⟩ := HT.out.qs _ (List.mem_of_getElem? HV0.out)
                injection e9 with e1 e2 e3
                subst e1 e2 e3
                obtain ⟨gb, hgb, hb⟩ := hm (by omega)
                rw [hgb] at hck
                obtain ⟨hg1, hf, x, hx0, hx1, hc⟩ := hb.at hlt
                have hu := up8 x hx0 hx1
                have hli : (l : Int) < (m90 : Int) := by omega
                have hwl : IntKind.i64.wrap ((l : Int) + 1) = (l : Int) + 1 := IntWalk.i64_in _ (by have := HM0.out; omega)
                obtain ⟨x0, x1, x2, x3, _, _, _, _⟩ := four HT.out.tb
                rw [hgr] at x1
                have HS := Lib.hid (HT.out.set_ (i := l) hb (show 0 ≤ (x + 1) % 256 by omega) (by omega))
                clear HT hb hg1 hq hm hgb
                go_wp2_with fail
                go_roundw
                case rel => exact ⟨l + 1, by omega, by go_num, HS⟩
                case measure => simp only [intOf]; omega
              · obtain rfl : m90 = l := by omega
                clear hlt hl
                rename World => wr
                obtain ⟨x0, x1, x2, x3, _, _, _, _⟩ := four HT.out.tb
                go_wp2_with fail
                go_roundw
                case rel => exact ⟨j + 1, ls, by omega, by go_num, HT⟩
                case measure => simp only [intOf]; omega
          · obtain rfl : m1 = j := by omega
            clear hlt hj
            rename World => wr
            obtain ⟨x0, x1, x2, x3, _, _, _, _⟩ := four HT.out.tb
            go_wp2_with fail
            clear x0 x1 x2 x3
            go_loopw [110] (fun s110 wr => ∃ (j : Nat) (ls : List Int), j ≤ m2 ∧ s110 = .int .i64 (j : Int) ∧ Hid (Tn w3 wr h d m0 m1 m2 m3 vs us ls A4 m4 c4 r.e r.n)) (fun s110 _ => m2 - (intOf s110).toNat)
            case atStart => exact ⟨0, _, Nat.zero_le _, rfl, HT⟩
            case round =>
              clear HT
              obtain ⟨j, ls, hj, rfl, HT⟩ := hrel
              by_cases hlt : j < m2
              · obtain ⟨gl, zl, hgl, hf, hc, hset⟩ := HT.out.lock hlt
                have hji : (j : Int) < (m2 : Int) := by omega
                have hwj : IntKind.i64.wrap ((j : Int) + 1) = (j : Int) + 1 := IntWalk.i64_in _ (by have := HT.out.len; omega)
                obtain ⟨x0, x1, x2, x3, _, _, _, _⟩ := four HT.out.tb
                rw [hgl] at x2
                have HS := Lib.hid (hset (wrap64 (zl + 1)))
                clear HT hset hgl
                go_wp2_with fail
                go_roundw
                case rel => exact ⟨j + 1, _, by omega, by go_num, HS⟩
                case measure => simp only [intOf]; omega
              · obtain rfl : m2 = j := by omega
                clear hlt hj
                rename World => wr
                obtain ⟨x0, x1, x2, x3, _, _, _, _⟩ := four HT.out.tb
                go_wp2_with fail
                clear x0 x1 x2 x3
                go_loopw [124] (fun s124 wr => ∃ (j : Nat) (ls : List Int), j ≤ m3 ∧ s124 = .int .i64 (j : Int) ∧ Hid (Tn w3 wr h d m0 m1 m2 m3 vs us ls A4 m4 c4 r.e r.n)) (fun s124 _ => m3 - (intOf s124).toNat)
                case atStart => exact ⟨0, _, Nat.zero_le _, rfl, HT⟩
                case round =>
                  clear HT
                  obtain ⟨j, ls, hj, rfl, HT⟩ := hrel
                  by_cases hlt : j < m3
                  · obtain ⟨gr, hgr, _, _⟩ := own_addrS HT.out.mrow (by omega)
                    have hji : (j : Int) < (m3 : Int) := by omega
                    have hwj : IntKind.i64.wrap ((j : Int) + 1) = (j : Int) + 1 := IntWalk.i64_in _ (by have := HT.out.len; omega)
                    obtain ⟨v0, hv0⟩ : ∃ v, us[(j * 2)]? = some v := ⟨_, List.getElem?_eq_getElem (by have := HT.out.mrow.1; omega)⟩
                    obtain ⟨A90, m90, c90, rfl, _⟩ := HT.out.ms v0 (List.mem_of_getElem? hv0)
                    have HM0 := Lib.hid (HT.out.ml _ _ _ (List.mem_of_getElem? hv0))
                    have HV0 := Lib.hid hv0
                    clear hv0
                    obtain ⟨v1, hv1⟩ : ∃ v, us[(j * 2 + 1)]? = some v := ⟨_, List.getElem?_eq_getElem (by have := HT.out.mrow.1; omega)⟩
                    obtain ⟨A91, m91, c91, rfl, _⟩ := HT.out.ms v1 (List.mem_of_getElem? hv1)
                    have HM1 := Lib.hid (HT.out.ml _ _ _ (List.mem_of_getElem? hv1))
                    have HV1 := Lib.hid hv1
                    clear hv1
                    obtain ⟨x0, x1, x2, x3, _, _, _, _⟩ := four HT.out.tb
                    rw [hgr] at x3
                    have hq := HT.out.mrow
                    rw [hgr] at hq
                    have hck := (hq.cellAt (j * 2) (by have := HT.out.mrow.1; omega)).trans HV0.out
                    clear hq
                    go_wp2_with fail
                    clear x0 x1 x2 x3 hck
                    go_loopw [134] (fun s134 wr => ∃ (l : Nat), l ≤ m90 ∧ s134 = .int .i64 (l : Int) ∧ Hid (Tn w3 wr h d m0 m1 m2 m3 vs us ls A4 m4 c4 r.e r.n)) (fun s134 _ => m90 - (intOf s134).toNat)
                    case atStart => exact ⟨0, Nat.zero_le _, rfl, HT⟩
                    case round =>
                      clear HT
                      obtain ⟨l, hl, rfl, HT⟩ := hrel
                      by_cases hlt : l < m90
                      · have hq := HT.out.mrow
                        rw [hgr] at hq
                        have hck := (hq.cellAt (j * 2) (by have := HT.out.mrow.1; omega)).trans HV0.out
                        obtain ⟨_, _, _, e9, hm⟩ := HT.out.ms _ (List.mem_of_getElem? HV0.out)
                        injection e9 with e1 e2 e3
                        subst e1 e2 e3
                        obtain ⟨gb, hgb, hb⟩ := hm (by omega)
                        rw [hgb] at hck
                        obtain ⟨hg1, hf, x, hx0, hx1, hc⟩ := hb.at hlt
                        have hu := up8 x hx0 hx1
                        have hli : (l : Int) < (m90 : Int) := by omega
                        have hwl : IntKind.i64.wrap ((l : Int) + 1) = (l : Int) + 1 := IntWalk.i64_in _ (by have := HM0.out; omega)
                        obtain ⟨x0, x1, x2, x3, _, _, _, _⟩ := four HT.out.tb
                        rw [hgr] at x3
                        have HS := Lib.hid (HT.out.set_ (i := l) hb (show 0 ≤ (x + 1) % 256 by omega) (by omega))
                        clear HT hb hg1 hq hm hgb
                        go_wp2_with fail
                        go_roundw
                        case rel => exact ⟨l + 1, by omega, by go_num, HS⟩
                        case measure => simp only [intOf]; omega
                      · obtain rfl : m90 = l := by omega
                        clear hlt hl
                        rename World => wr
                        obtain ⟨x0, x1, x2, x3, _, _, _, _⟩ := four HT.out.tb
                        rw [hgr] at x3
                        have hq := HT.out.mrow
                        rw [hgr] at hq
                        have hck := (hq.cellAt (j * 2 + 1) (by have := HT.out.mrow.1; omega)).trans HV1.out
                        clear hq
                        go_wp2_with fail
                        clear x0 x1 x2 x3 hck
                        go_loopw [156] (fun s156 wr => ∃ (l : Nat), l ≤ m91 ∧ s156 = .int .i64 (l : Int) ∧ Hid (Tn w3 wr h d m0 m1 m2 m3 vs us ls A4 m4 c4 r.e r.n)) (fun s156 _ => m91 - (intOf s156).toNat)
                        case atStart => exact ⟨0, Nat.zero_le _, rfl, HT⟩
                        case round =>
                          clear HT
                          obtain ⟨l, hl, rfl, HT⟩ := hrel
                          by_cases hlt : l < m91
                          · have hq := HT.out.mrow
                            rw [hgr] at hq
                            have hck := (hq.cellAt (j * 2 + 1) (by have := HT.out.mrow.1; omega)).trans HV1.out
                            obtain ⟨_, _, _, e9, hm⟩ := HT.out.ms _ (List.mem_of_getElem? HV1.out)
                            injection e9 with e1 e2 e3
                            subst e1 e2 e3
                            obtain ⟨gb, hgb, hb⟩ := hm (by omega)
                            rw [hgb] at hck
                            obtain ⟨hg1, hf, x, hx0, hx1, hc⟩ := hb.at hlt
                            have hu := up8 x hx0 hx1
                            have hli : (l : Int) < (m91 : Int) := by omega
                            have hwl : IntKind.i64.wrap ((l : Int) + 1) = (l : Int) + 1 := IntWalk.i64_in _ (by have := HM1.out; omega)
                            obtain ⟨x0, x1, x2, x3, _, _, _, _⟩ := four HT.out.tb
                            rw [hgr] at x3
                            have HS := Lib.hid (HT.out.set_ (i := l) hb (show 0 ≤ (x + 1) % 256 by omega) (by omega))
                            clear HT hb hg1 hq hm hgb
                            go_wp2_with fail
                            go_roundw
                            case rel => exact ⟨l + 1, by omega, by go_num, HS⟩
                            case measure => simp only [intOf]; omega
                          · obtain rfl : m91 = l := by omega
                            clear hlt hl
                            rename World => wr
                            obtain ⟨x0, x1, x2, x3, _, _, _, _⟩ := four HT.out.tb
                            go_wp2_with fail
                            go_roundw
                            case rel => exact ⟨j + 1, ls, by omega, by go_num, HT⟩
                            case measure => simp only [intOf]; omega
                  · obtain rfl : m3 = j := by omega
                    clear hlt hj
                    rename World => wr
                    obtain ⟨x0, x1, x2, _, _, _⟩ := three HT.out.rb
                    go_wp2_with fail
                    clear x0 x1 x2
                    go_loopw [175] (fun s175 wr => ∃ (j : Nat) (ls : List Int), j ≤ m4 ∧ s175 = .int .i64 (j : Int) ∧ Hid (Tn w3 wr h d m0 m1 m2 m3 vs us ls A4 m4 c4 r.e r.n)) (fun s175 _ => m4 - (intOf s175).toNat)
                    case atStart => exact ⟨0, _, Nat.zero_le _, rfl, HT⟩
                    case round =>
                      clear HT
                      obtain ⟨j, ls, hj, rfl, HT⟩ := hrel
                      by_cases hlt : j < m4
                      · obtain ⟨gb, hgb, hb⟩ := HT.out.val (by omega)
                        obtain ⟨hg1, hf, x, hx0, hx1, hc⟩ := hb.at hlt
                        have hu := up8 x hx0 hx1
                        have hji : (j : Int) < (m4 : Int) := by omega
                        have hwj : IntKind.i64.wrap ((j : Int) + 1) = (j : Int) + 1 := IntWalk.i64_in _ (by have := HT.out.len; omega)
                        obtain ⟨x0, x1, x2, _, _, _⟩ := three HT.out.rb
                        have HS := Lib.hid (HT.out.set_ (i := j) hb (show 0 ≤ (x + 1) % 256 by omega) (by omega))
                        rw [hgb] at x1
                        clear HT hb hg1
                        go_wp2_with fail
                        go_roundw
                        case rel => exact ⟨j + 1, ls, by omega, by go_num, HS⟩
                        case measure => simp only [intOf]; omega
                      · obtain rfl : m4 = j := by omega
                        clear hlt hj
                        rename World => wr
                        have HS9 := Lib.hid (HS3.out.below HT.out.bel)
                        have HK9 := Lib.hid (HK.out.below HT.out.bel)
                        have HRC9 := Lib.hid (HRC.out.below' HT.out.bel)
                        obtain ⟨x0, x1, x2, _, _, _⟩ := three HT.out.rb
                        go_upto_region 48 with fail
                        clear x0 x1 x2 HT
                        rw [← HWAS.out]
                        clear HWAS
                        have hx := HS9.out.b1
                        simp only [objC] at hx
                        obtain ⟨x0, x1, x2, x3, _, _, _, _⟩ := four hx
                        have hy := HS9.out.b2
                        simp only [objC] at hy
                        obtain ⟨v0, v1, v2, v3, _, _, _, _⟩ := four hy
                        clear hx hy
                        have hsame := sameO_any wr HS9.out.i1 HS9.out.i2 HS9.out.o1.rd HS9.out.o2.rd
                        rw [Ob.same_self] at hsame
                        have HSA := Lib.hid hsame
                        clear hsame
                        go_wp2_with fail
                        refine HSA.out.mono ?_
                        rintro e w8 ⟨rfl, hb8⟩
                        have HK8 := Lib.hid (HK9.out.below hb8)
                        have HRC8 := Lib.hid (HRC9.out.below' hb8)
                        have HB8 := Lib.hid (HS9.out.bel.trans (hb8.mono HS9.out.bel.size))
                        clear hb8 x0 x1 x2 x3 v0 v1 v2 v3 HSA
                        obtain ⟨y0, y1, y2, y3, y4⟩ := five HK8.out
                        have k1 := str_of (c := ca.cv) HRC8.out.rv
                        have k2 := str_of (c := ca.ck) HRC8.out.rk
                        have n1 : ¬ 9223372036854775807 < (strB c.val).size + 1 := by rw [strB_sizeO]; have := HF.out.val.1; omega
                        have n2 : ¬ 9223372036854775807 < (strB c.val).size + 1 + (strB c.key).size := by rw [strB_sizeO, strB_sizeO]; have h1 := HF.out.val.1; have h2 := HF.out.key.1; omega
                        go_wp2_with fail
                        refine (hA _).mono ?_
                        rintro e w9 ⟨rfl, hb9⟩
                        go_wp2_with fail
                        go_ret
                        exact ⟨rfl, HB8.out.trans (hb9.mono HB8.out.size)⟩
end Go.Proofs.Ytcmjpjhaaookfaa
namespace Go.Proofs.Ytcmjpjhaaookfaa
open Go.RowKit
set_option linter.unusedVariables false
theorem cm_fits {k who : Int} {v : List Nat} (h : v = [] ∨ v = [97]) : Cm.Fits ⟨k, who, [], v, []⟩ := by
  refine ⟨⟨by simp, by simp⟩, ?_, ⟨by simp, by simp⟩⟩
  rcases h with rfl | rfl
  · exact ⟨by simp, by simp⟩
  · exact ⟨by simp, by simp⟩
theorem rdC_nil (w : World) (k who : Int) : RdC w 0 ⟨none, 0, none, 0, none, 0⟩ ⟨k, who, [], [], []⟩ := ⟨Rd.none_ _ _ _, Rd.none_ _ _ _, Rd.none_ _ _ _⟩
/-- s and the first result, in blocks g and g + 1 -/
structure AwSt (w wx : World) (g : Nat) (cs : Array Value) (A : Option Addr) (c : Nat) : Prop where
  b1 : Blk wx g 32 cs
  b2 : Blk wx (g + 1) 34 #[.int .i64 0, .slice A 0 c, .int .i64 0]
  bel : Below w.heap.size w wx
theorem AwSt.below {w wx wy : World} {g c : Nat} {cs : Array Value} {A : Option Addr} (h : AwSt w wx g cs A c) (hb : Below wx.heap.size wx wy) : AwSt w wy g cs A c :=
  ⟨h.b1.below hb, h.b2.below hb, h.bel.trans (hb.mono h.bel.size)⟩
theorem aw_put {w wq : World} {g k c : Nat} {A : Option Addr} {u0 u1 u2 u3 : Value} (H : AwSt w wq g #[u0, u1, u2, u3] A c) (hg : w.heap.size ≤ g) (hk : Blk wq k 34 zeroR) (hgk : g + 1 < k) {a : OA} {s : Ob} (ho : OwnO w wq a s) (x0 x1 x2 x3 y0 y1 y2 : Value) :
    let wy := (((((((wq.setCell ⟨g, 0, none⟩ x0).setCell ⟨g, 1, none⟩ x1).setCell ⟨g, 2, none⟩ x2).setCell ⟨g, 3, none⟩ x3).setCell ⟨k, 0, none⟩ y0).setCell ⟨k, 1, none⟩ y1).setCell ⟨k, 2, none⟩ y2)
    AwSt w wy g #[x0, x1, x2, x3] A c ∧ Blk wy k 34 #[y0, y1, y2] ∧ OwnO w wy a s := by
  intro wy
  have k0 := H.b1
  have k1 := k0.set_ 0 x0
  have k2 := k1.set_ 1 x1
  have k3 := k2.set_ 2 x2
  have k4 := k3.set_ 3 x3
  have l0 := (((hk.set_other (i := 0) (u := x0) (b := g) (by omega)).set_other (i := 1) (u := x1) (b := g) (by omega)).set_other (i := 2) (u := x2) (b := g) (by omega)).set_other (i := 3) (u := x3) (b := g) (by omega)
  have l1 := l0.set_ 0 y0
  have l2 := l1.set_ 1 y1
  have l3 := l2.set_ 2 y2
  have q1 : 5 ≠ 32 := by decide
  have q2 : 22 ≠ 32 := by decide
  have q3 : 3 ≠ 32 := by decide
  have q4 : 42 ≠ 32 := by decide
  have r1 : 5 ≠ 34 := by decide
  have r2 : 22 ≠ 34 := by decide
  have r3 : 3 ≠ 34 := by decide
  have r4 : 42 ≠ 34 := by decide
  have hwk : w.heap.size ≤ k := by omega
  refine ⟨⟨((k4.set_other (i := 0) (u := y0) (b := k) (by omega)).set_other (i := 1) (u := y1) (b := k) (by omega)).set_other (i := 2) (u := y2) (b := k) (by omega), ?_,
    ((((((H.bel.setCell (p := ⟨g, 0, none⟩) hg _).setCell (p := ⟨g, 1, none⟩) hg _).setCell (p := ⟨g, 2, none⟩) hg _).setCell (p := ⟨g, 3, none⟩) hg _).setCell (p := ⟨k, 0, none⟩) hwk _).setCell (p := ⟨k, 1, none⟩) hwk _).setCell (p := ⟨k, 2, none⟩) hwk _⟩, l3,
    ((((((ho.set_t k0 q1 q2 q3 q4).set_t k1 q1 q2 q3 q4).set_t k2 q1 q2 q3 q4).set_t k3 q1 q2 q3 q4).set_t l0 r1 r2 r3 r4).set_t l1 r1 r2 r3 r4).set_t l2 r1 r2 r3 r4⟩
  exact ((((((H.b2.set_other (by omega)).set_other (by omega)).set_other (by omega)).set_other (by omega)).set_other (by omega)).set_other (by omega)).set_other (by omega)
set_option maxHeartbeats 4000000 in
set_option maxRecDepth 100000 in
theorem objsAwake (hA : ApplyC8) (hO : OkC8) (hS : SameC8) (hR : SameResC8) : AwakeC8 := by
  intro w
  have kc := const1
  obtain ⟨g, hg⟩ : ∃ g, w.heap.size = g := ⟨_, rfl⟩
  have hB0 : Below w.heap.size w (w.alloc (.cells #[.int .u8 97] 5 (1, 2))) := (Below.refl _ _).alloc (Nat.le_refl _) _
  have hr97 : Rd (w.alloc (.cells #[.int .u8 97] 5 (1, 2))) (w.heap.size + 1) (some ⟨w.heap.size, 0, none⟩) 1 (bv [97]) := Rd.made w #[.int .u8 97] 5 (1, 2) 1 rfl
  have h1 := hA (W := w) (w := w.alloc (.cells #[.int .u8 97] 5 (1, 2))) (a := ⟨none, 0, none, 0, none, 0, none, 0⟩) (ca := ⟨none, 0, some ⟨w.heap.size, 0, none⟩, 1, none, 0⟩) (s := ⟨[], [], [], []⟩) (c := ⟨2, 0, [], [97], []⟩) Ob.Inv.nil (cm_fits (.inr rfl)) (RdO.nil _ 0) ⟨Rd.none_ _ _ _, hr97, Rd.none_ _ _ _⟩ hB0
  rw [show Ob.apply ⟨[], [], [], []⟩ ⟨2, 0, [], [97], []⟩ = ⟨⟨[97], [], [], []⟩, 0, [], 0⟩ from rfl] at h1
  have H1 := Lib.hid h1
  have i1 : Ob.Inv ⟨[97], [], [], []⟩ := ⟨by simp, by simp, by simp, by simp, by intro l h; simp at h, by simp, by simp, Mp.Inv.nil⟩
  have I1 := Lib.hid i1
  clear h1 hB0 hr97 hg i1
  go_enter Try.func14, Try.ntmps14
  go_upto_region 2 with (first
    | (go_at_call 12; refine H1.out.mono ?_; rintro e w1 ⟨a1, A1, c1, he1, ho1, hv1, hB1, hb1⟩
       have he2 : e = .returned (.tuple #[.agg #[.slice a1.A0 1 a1.c0, .slice a1.A1 0 a1.c1, .slice a1.A2 0 a1.c2, .slice a1.A3 0 a1.c3], .agg #[.int .i64 0, .slice A1 0 c1, .int .i64 0]]) := he1
       clear he1 hb1 hv1; subst he2)
    | fail)
  obtain ⟨g, hg⟩ : ∃ g, w1.heap.size = g := ⟨_, rfl⟩
  have b2 : Below w1.heap.size w1 ((w1.alloc (.cells #[.slice a1.A0 1 a1.c0, .slice a1.A1 0 a1.c1, .slice a1.A2 0 a1.c2, .slice a1.A3 0 a1.c3] 32)).alloc (.cells #[.int .i64 0, .slice A1 0 c1, .int .i64 0] 34)) := ((Below.refl _ _).alloc (Nat.le_refl _) _).alloc (by simp) _
  have HM1 : Hid (∃ (_ : w.heap.size ≤ g) (_ : OwnO w ((w1.alloc (.cells #[.slice a1.A0 1 a1.c0, .slice a1.A1 0 a1.c1, .slice a1.A2 0 a1.c2, .slice a1.A3 0 a1.c3] 32)).alloc (.cells #[.int .i64 0, .slice A1 0 c1, .int .i64 0] 34)) a1 ⟨[97], [], [], []⟩), AwSt w ((w1.alloc (.cells #[.slice a1.A0 1 a1.c0, .slice a1.A1 0 a1.c1, .slice a1.A2 0 a1.c2, .slice a1.A3 0 a1.c3] 32)).alloc (.cells #[.int .i64 0, .slice A1 0 c1, .int .i64 0] 34)) g #[.slice a1.A0 1 a1.c0, .slice a1.A1 0 a1.c1, .slice a1.A2 0 a1.c2, .slice a1.A3 0 a1.c3] A1 c1) := Lib.hid ⟨by have := hB1.size; omega, ho1.below b2, by
      subst hg
      refine ⟨(Blk.new _ _ _).alloc _, ?_, hB1.trans (b2.mono hB1.size)⟩
      have := Blk.new (w1.alloc (.cells #[.slice a1.A0 1 a1.c0, .slice a1.A1 0 a1.c1, .slice a1.A2 0 a1.c2, .slice a1.A3 0 a1.c3] 32)) 34 #[.int .i64 0, .slice A1 0 c1, .int .i64 0]
      rwa [World.size_alloc] at this⟩
  rw [hg]
  obtain ⟨wz, hwz⟩ : ∃ x, (w1.alloc (.cells #[.slice a1.A0 1 a1.c0, .slice a1.A1 0 a1.c1, .slice a1.A2 0 a1.c2, .slice a1.A3 0 a1.c3] 32)).alloc (.cells #[.int .i64 0, .slice A1 0 c1, .int .i64 0] 34) = x := ⟨_, rfl⟩
  rw [hwz] at HM1 ⊢
  clear hwz b2 ho1 hB1 hg kc
  obtain ⟨hgw, ho, hst⟩ := HM1.out
  have h2 := hA (W := w) (w := wz) (a := a1) (ca := ⟨none, 0, none, 0, none, 0⟩) (s := ⟨[97], [], [], []⟩) (c := ⟨6, 7, [], [], []⟩) I1.out (cm_fits (.inl rfl)) ho.rd (rdC_nil _ _ _) hst.bel
  rw [show Ob.apply ⟨[97], [], [], []⟩ ⟨6, 7, [], [], []⟩ = ⟨⟨[97], [], [7], []⟩, 0, [], 0⟩ from rfl] at h2
  have H2 := Lib.hid h2
  obtain ⟨x0, x1, x2, x3, f0, f1, f2, f3⟩ := four hst.b1
  clear h2 ho hst
  go_upto_region 3 with (first
    | (go_at_call 12; refine H2.out.mono ?_; rintro e w2 ⟨a2, A2, c2, he1, ho2, hv2, hB2, hb2⟩
       have he2 : e = .returned (.tuple #[.agg #[.slice a2.A0 1 a2.c0, .slice a2.A1 0 a2.c1, .slice a2.A2 1 a2.c2, .slice a2.A3 0 a2.c3], .agg #[.int .i64 0, .slice A2 0 c2, .int .i64 0]]) := he1
       have hst2 := (HM1.out.2.2.below hb2).below ((Below.refl w2.heap.size w2).alloc (Nat.le_refl _) (.cells zeroR 34))
       obtain ⟨x0, x1, x2, x3, f0, f1, f2, f3⟩ := four hst2.b1
       have hgl := (HM1.out.2.2.below hb2).b2.lt
       obtain ⟨k, hk⟩ : ∃ k, w2.heap.size = k := ⟨_, rfl⟩
       have n1 : g ≠ k := by omega
       have n2 : k ≠ g := by omega
       have HK : Hid (Blk (w2.alloc (.cells zeroR 34)) k 34 zeroR) := Lib.hid (by subst hk; exact Blk.new _ _ _)
       obtain ⟨z0, z1, z2, d0, d1, d2⟩ := three HK.out
       have HK' := Lib.hid hk
       have HGL := Lib.hid hgl
       have HST2 := Lib.hid hst2
       have HO2 := Lib.hid (ho2.below ((Below.refl w2.heap.size w2).alloc (Nat.le_refl _) (.cells zeroR 34)))
       clear he1 hv2 hgl hst2 ho2 hB2 hb2; subst he2)
    | fail)
  have hp := aw_put HST2.out HM1.out.1 HK.out (by have h1 := HGL.out; have h2 := HK'.out; omega) HO2.out (.slice a2.A0 1 a2.c0) (.slice a2.A1 0 a2.c1) (.slice a2.A2 1 a2.c2) (.slice a2.A3 0 a2.c3) (.int .i64 0) (.slice A2 0 c2) (.int .i64 0)
  simp only at hp
  obtain ⟨wz2, hwz2⟩ : ∃ x, (((((((w2.alloc (.cells zeroR 34)).setCell ⟨g, 0, none⟩ (.slice a2.A0 1 a2.c0)).setCell ⟨g, 1, none⟩ (.slice a2.A1 0 a2.c1)).setCell ⟨g, 2, none⟩ (.slice a2.A2 1 a2.c2)).setCell ⟨g, 3, none⟩ (.slice a2.A3 0 a2.c3)).setCell ⟨k, 0, none⟩ (.int .i64 0)).setCell ⟨k, 1, none⟩ (.slice A2 0 c2)).setCell ⟨k, 2, none⟩ (.int .i64 0) = x := ⟨_, rfl⟩
  rw [hwz2] at hp ⊢
  have HM2 := Lib.hid hp
  have HW1 := Lib.hid HM1.out.1
  clear hwz2 HM1 HST2 HK HK' HO2 HGL x0 x1 x2 x3 f0 f1 f2 f3 z0 z1 z2 d0 d1 d2 hp n1 n2
  have i2 : Ob.Inv ⟨[97], [], [7], []⟩ := ⟨by simp, by simp, by simp, by simp, by intro l h; simp at h, by simp, by simp, Mp.Inv.nil⟩
  have I2 := Lib.hid i2
  clear i2
  have h3 := hA (W := w) (w := wz2) (a := a2) (ca := ⟨none, 0, none, 0, none, 0⟩) (s := ⟨[97], [], [7], []⟩) (c := ⟨0, 0, [], [], []⟩) I2.out (cm_fits (.inl rfl)) HM2.out.2.2.rd (rdC_nil _ _ _) HM2.out.1.bel
  rw [show Ob.apply ⟨[97], [], [7], []⟩ ⟨0, 0, [], [], []⟩ = ⟨⟨[97], [], [7], []⟩, 7, [], 0⟩ from rfl] at h3
  have H3 := Lib.hid h3
  obtain ⟨x0, x1, x2, x3, f0, f1, f2, f3⟩ := four HM2.out.1.b1
  clear h3
  go_upto_region 4 with (first
    | (go_at_call 12; refine H3.out.mono ?_; rintro e w3 ⟨a3, A3, c3, he1, ho3, hv3, hB3, hb3⟩
       have he2 : e = .returned (.tuple #[.agg #[.slice a3.A0 1 a3.c0, .slice a3.A1 0 a3.c1, .slice a3.A2 1 a3.c2, .slice a3.A3 0 a3.c3], .agg #[.int .i64 7, .slice A3 0 c3, .int .i64 0]]) := he1
       clear he1 hv3 hB3 ho3; subst he2)
    | fail)
  have b3 : Below w3.heap.size w3 ((w3.alloc (.cells #[.slice a3.A0 1 a3.c0, .slice a3.A1 0 a3.c1, .slice a3.A2 1 a3.c2, .slice a3.A3 0 a3.c3] 32)).alloc (.cells #[.int .i64 7, .slice A3 0 c3, .int .i64 0] 34)) := ((Below.refl _ _).alloc (Nat.le_refl _) _).alloc (by simp) _
  have hbb := hb3.trans (b3.mono hb3.size)
  have hp := And.intro (HM2.out.1.below hbb) (And.intro (HM2.out.2.1.below hbb) (HM2.out.2.2.below hbb))
  have hr3 : Blk ((w3.alloc (.cells #[.slice a3.A0 1 a3.c0, .slice a3.A1 0 a3.c1, .slice a3.A2 1 a3.c2, .slice a3.A3 0 a3.c3] 32)).alloc (.cells #[.int .i64 7, .slice A3 0 c3, .int .i64 0] 34)) (w3.heap.size + 1) 34 #[.int .i64 7, .slice A3 0 c3, .int .i64 0] := by
    have := Blk.new (w3.alloc (.cells #[.slice a3.A0 1 a3.c0, .slice a3.A1 0 a3.c1, .slice a3.A2 1 a3.c2, .slice a3.A3 0 a3.c3] 32)) 34 #[.int .i64 7, .slice A3 0 c3, .int .i64 0]
    rwa [World.size_alloc] at this
  obtain ⟨wz3, hwz3⟩ : ∃ x, (w3.alloc (.cells #[.slice a3.A0 1 a3.c0, .slice a3.A1 0 a3.c1, .slice a3.A2 1 a3.c2, .slice a3.A3 0 a3.c3] 32)).alloc (.cells #[.int .i64 7, .slice A3 0 c3, .int .i64 0] 34) = x := ⟨_, rfl⟩
  obtain ⟨g3, hg3⟩ : ∃ x, w3.heap.size = x := ⟨_, rfl⟩
  rw [hwz3] at hp hr3 ⊢
  rw [hg3] at hr3 ⊢
  have HM3 := Lib.hid hp
  have HR3 := Lib.hid hr3
  clear hwz3 hg3 hp hr3 HM2 H3 b3 hbb hb3 x0 x1 x2 x3 f0 f1 f2 f3
  have h4 := hA (W := w) (w := wz3) (a := a2) (ca := ⟨none, 0, none, 0, none, 0⟩) (s := ⟨[97], [], [7], []⟩) (c := ⟨6, 1000, [], [], []⟩) I2.out (cm_fits (.inl rfl)) HM3.out.2.2.rd (rdC_nil _ _ _) HM3.out.1.bel
  rw [show Ob.apply ⟨[97], [], [7], []⟩ ⟨6, 1000, [], [], []⟩ = ⟨⟨[97], [], [7], []⟩, 7, [], 0⟩ from rfl] at h4
  have H4 := Lib.hid h4
  obtain ⟨x0, x1, x2, x3, f0, f1, f2, f3⟩ := four HM3.out.1.b1
  clear h4
  go_upto_region 5 with (first
    | (go_at_call 12; refine H4.out.mono ?_; rintro e w4 ⟨a4, A4, c4, he1, ho4, hv4, hB4, hb4⟩
       have he2 : e = .returned (.tuple #[.agg #[.slice a4.A0 1 a4.c0, .slice a4.A1 0 a4.c1, .slice a4.A2 1 a4.c2, .slice a4.A3 0 a4.c3], .agg #[.int .i64 7, .slice A4 0 c4, .int .i64 0]]) := he1
       clear he1 hv4 hB4 ho4; subst he2)
    | fail)
  have b4 : Below w4.heap.size w4 ((w4.alloc (.cells #[.slice a4.A0 1 a4.c0, .slice a4.A1 0 a4.c1, .slice a4.A2 1 a4.c2, .slice a4.A3 0 a4.c3] 32)).alloc (.cells #[.int .i64 7, .slice A4 0 c4, .int .i64 0] 34)) := ((Below.refl _ _).alloc (Nat.le_refl _) _).alloc (by simp) _
  have hbb := hb4.trans (b4.mono hb4.size)
  have hp := And.intro (HM3.out.1.below hbb) (And.intro (HM3.out.2.1.below hbb) (HM3.out.2.2.below hbb))
  have hr3 := HR3.out.below hbb
  have hr4 : Blk ((w4.alloc (.cells #[.slice a4.A0 1 a4.c0, .slice a4.A1 0 a4.c1, .slice a4.A2 1 a4.c2, .slice a4.A3 0 a4.c3] 32)).alloc (.cells #[.int .i64 7, .slice A4 0 c4, .int .i64 0] 34)) (w4.heap.size + 1) 34 #[.int .i64 7, .slice A4 0 c4, .int .i64 0] := by
    have := Blk.new (w4.alloc (.cells #[.slice a4.A0 1 a4.c0, .slice a4.A1 0 a4.c1, .slice a4.A2 1 a4.c2, .slice a4.A3 0 a4.c3] 32)) 34 #[.int .i64 7, .slice A4 0 c4, .int .i64 0]
    rwa [World.size_alloc] at this
  obtain ⟨wz4, hwz4⟩ : ∃ x, (w4.alloc (.cells #[.slice a4.A0 1 a4.c0, .slice a4.A1 0 a4.c1, .slice a4.A2 1 a4.c2, .slice a4.A3 0 a4.c3] 32)).alloc (.cells #[.int .i64 7, .slice A4 0 c4, .int .i64 0] 34) = x := ⟨_, rfl⟩
  obtain ⟨g4, hg4⟩ : ∃ x, w4.heap.size = x := ⟨_, rfl⟩
  rw [hwz4] at hp hr3 hr4 ⊢
  rw [hg4] at hr4 ⊢
  have HM4 := Lib.hid hp
  have HR4 := Lib.hid (And.intro hr3 hr4)
  clear hwz4 hg4 hp hr3 hr4 HM3 HR3 H4 b4 hbb hb4 x0 x1 x2 x3 f0 f1 f2 f3
  have p1 : (strB [97] == ⟨#[97]⟩) = true := by decide
  have p2 : ((strB [97]).toList == [97]) = true := by rw [ByteArray.toList_eq]; decide
  have k1 := fun w (h : OwnO w wz4 a2 ⟨[97], [], [7], []⟩) => str_of (n := 1) (c := a2.c0) h.rd.r0
  have k1 := k1 w HM4.out.2.2
  obtain ⟨x0, x1, x2, x3, _, _, _, _⟩ := four HM4.out.1.b1
  obtain ⟨y0, y1, y2, _, _, _⟩ := three HM4.out.1.b2
  obtain ⟨z0, z1, z2, _, _, _⟩ := three HM4.out.2.1
  obtain ⟨v0, v1, v2, _, _, _⟩ := three HR4.out.1
  obtain ⟨t0, t1, t2, _, _, _⟩ := three HR4.out.2
  have O1 : ∀ w, Calls Try.prog 13 #[.agg #[.int .i64 5, .int .i64 0, .slice none 0 0, .slice none 0 0, .slice none 0 0]] w fun e w' => e = .returned (.bool true) ∧ Below w.heap.size w w' := fun w => hO w ⟨none, 0, none, 0, none, 0⟩ ⟨5, 0, [], [], []⟩
  have O2 : ∀ w, Calls Try.prog 13 #[.agg #[.int .i64 12, .int .i64 0, .slice none 0 0, .slice none 0 0, .slice none 0 0]] w fun e w' => e = .returned (.bool false) ∧ Below w.heap.size w w' := fun w => hO w ⟨none, 0, none, 0, none, 0⟩ ⟨12, 0, [], [], []⟩
  have S1 : ∀ wx, OwnO w wx a2 ⟨[97], [], [7], []⟩ → Calls Try.prog 19 #[.agg #[.slice a2.A0 1 a2.c0, .slice a2.A1 0 a2.c1, .slice a2.A2 1 a2.c2, .slice a2.A3 0 a2.c3], .agg #[.slice a2.A0 1 a2.c0, .slice a2.A1 0 a2.c1, .slice a2.A2 1 a2.c2, .slice a2.A3 0 a2.c3]] wx fun e w' => e = .returned (.bool true) ∧ Below wx.heap.size wx w' := fun wx h => hS wx I2.out I2.out h.rd h.rd
  have S2 : ∀ wx, OwnO w wx a2 ⟨[97], [], [7], []⟩ → Calls Try.prog 19 #[.agg #[.slice a2.A0 1 a2.c0, .slice a2.A1 0 a2.c1, .slice a2.A2 1 a2.c2, .slice a2.A3 0 a2.c3], .agg #[.slice none 0 0, .slice none 0 0, .slice none 0 0, .slice none 0 0]] wx fun e w' => e = .returned (.bool false) ∧ Below wx.heap.size wx w' := fun wx h => hS wx (a' := ⟨none, 0, none, 0, none, 0, none, 0⟩) I2.out Ob.Inv.nil h.rd (RdO.nil _ 0)
  have R1 : ∀ wx, Calls Try.prog 21 #[.agg #[.int .i64 0, .slice A1 0 c1, .int .i64 0], .agg #[.int .i64 7, .slice A3 0 c3, .int .i64 0]] wx fun e w' => e = .returned (.bool false) ∧ Below wx.heap.size wx w' := fun wx => hR wx (l := []) (l' := []) 0 7 0 0 (by simp) (by simp) (Rd.none_ wx 0 _) (Rd.none_ wx 0 _)
  have P1 := Lib.hid O1
  have P2 := Lib.hid O2
  have P3 := Lib.hid S1
  have P4 := Lib.hid S2
  have P5 := Lib.hid R1
  clear O1 O2 S1 S2 R1
  go_wp2_with fail
  refine (P1.out _).mono ?_
  rintro e w5 ⟨rfl, hb5⟩
  go_wp2_with fail
  refine (P2.out _).mono ?_
  rintro e w6 ⟨rfl, hb6⟩
  have hb6' := hb5.trans (hb6.mono hb5.size)
  have HM6 := Lib.hid (HM4.out.1.below hb6')
  have HO6 := Lib.hid (HM4.out.2.2.below hb6')
  have HR6 := Lib.hid (HR4.out.1.below hb6')
  clear x0 x1 x2 x3 hb5 hb6 hb6' y0 y1 y2 z0 z1 z2 v0 v1 v2 t0 t1 t2 k1
  obtain ⟨x0, x1, x2, x3, _, _, _, _⟩ := four HM6.out.b1
  go_wp2_with fail
  refine (P3.out _ HO6.out).mono ?_
  rintro e w7 ⟨rfl, hb7⟩
  have HM7 := Lib.hid (HM6.out.below hb7)
  have HO7 := Lib.hid (HO6.out.below hb7)
  have HR7 := Lib.hid (HR6.out.below hb7)
  clear x0 x1 x2 x3 hb7
  obtain ⟨x0, x1, x2, x3, _, _, _, _⟩ := four HM7.out.b1
  go_wp2_with fail
  refine (P4.out _ HO7.out).mono ?_
  rintro e w8 ⟨rfl, hb8⟩
  have HM8 := Lib.hid (HM7.out.below hb8)
  have HR8 := Lib.hid (HR7.out.below hb8)
  clear x0 x1 x2 x3 hb8
  obtain ⟨y0, y1, y2, _, _, _⟩ := three HM8.out.b2
  obtain ⟨v0, v1, v2, _, _, _⟩ := three HR8.out
  go_wp2_with fail
  refine (P5.out _).mono ?_
  rintro e w9 ⟨rfl, hb9⟩
  go_wp2_with fail
  go_ret
  exact ⟨rfl, HM8.out.bel.trans (hb9.mono HM8.out.bel.size)⟩
end Go.Proofs.Ytcmjpjhaaookfaa
namespace Go.Proofs.Ytcmjpjhaaookfaa
open Go.RowKit
set_option linter.unusedVariables false
theorem isKind_any (w : World) (k : Int) : Calls Try.prog 43 #[.int .i64 k] w fun e w' => e = .returned (.bool (decide (1 ≤ k ∧ k ≤ 11))) ∧ w' = w := by
  by_cases h1 : 1 ≤ k
  · by_cases h2 : k ≤ 11
    · rw [decide_eq_true (show 1 ≤ k ∧ k ≤ 11 from ⟨h1, h2⟩)]
      go_enter Try.func43, Try.ntmps43
      go_wp2_with fail
      go_ret
      exact ⟨rfl, rfl⟩
    · rw [decide_eq_false (show ¬ (1 ≤ k ∧ k ≤ 11) by omega)]
      go_enter Try.func43, Try.ntmps43
      go_wp2_with fail
      go_ret
      exact ⟨rfl, rfl⟩
  · rw [decide_eq_false (show ¬ (1 ≤ k ∧ k ≤ 11) by omega)]
    go_enter Try.func43, Try.ntmps43
    go_wp2_with fail
    go_ret
    exact ⟨rfl, rfl⟩
theorem isWho_any (w : World) (k : Int) : Calls Try.prog 44 #[.int .i64 k] w fun e w' => e = .returned (.bool (decide (0 ≤ k ∧ k ≤ 999))) ∧ w' = w := by
  by_cases h1 : 0 ≤ k
  · by_cases h2 : k ≤ 999
    · rw [decide_eq_true (show 0 ≤ k ∧ k ≤ 999 from ⟨h1, h2⟩)]
      go_enter Try.func44, Try.ntmps44
      go_wp2_with fail
      go_ret
      exact ⟨rfl, rfl⟩
    · rw [decide_eq_false (show ¬ (0 ≤ k ∧ k ≤ 999) by omega)]
      go_enter Try.func44, Try.ntmps44
      go_wp2_with fail
      go_ret
      exact ⟨rfl, rfl⟩
  · rw [decide_eq_false (show ¬ (0 ≤ k ∧ k ≤ 999) by omega)]
    go_enter Try.func44, Try.ntmps44
    go_wp2_with fail
    go_ret
    exact ⟨rfl, rfl⟩
theorem isKind_yes (w : World) {k : Int} (h : 1 ≤ k ∧ k ≤ 11) : Calls Try.prog 43 #[.int .i64 k] w fun e w' => e = .returned (.bool true) ∧ w' = w := by
  have := isKind_any w k; rwa [decide_eq_true h] at this
theorem isKind_no (w : World) {k : Int} (h : ¬ (1 ≤ k ∧ k ≤ 11)) : Calls Try.prog 43 #[.int .i64 k] w fun e w' => e = .returned (.bool false) ∧ w' = w := by
  have := isKind_any w k; rwa [decide_eq_false h] at this
theorem isWho_yes (w : World) {k : Int} (h : 0 ≤ k ∧ k ≤ 999) : Calls Try.prog 44 #[.int .i64 k] w fun e w' => e = .returned (.bool true) ∧ w' = w := by
  have := isWho_any w k; rwa [decide_eq_true h] at this
theorem isWho_no (w : World) {k : Int} (h : ¬ (0 ≤ k ∧ k ≤ 999)) : Calls Try.prog 44 #[.int .i64 k] w fun e w' => e = .returned (.bool false) ∧ w' = w := by
  have := isWho_any w k; rwa [decide_eq_false h] at this
/-- may a command be handed on? -/
def Cm.known (c : Cm) : Bool := decide (1 ≤ c.kind ∧ c.kind ≤ 11 ∧ (c.kind = 6 ∨ c.kind = 7 → 0 ≤ c.who ∧ c.who ≤ 999))
set_option maxRecDepth 100000 in
set_option maxHeartbeats 2000000 in
theorem isKnown_any (w : World) (ca : CA) (c : Cm) : Calls Try.prog 31 #[cmdV ca c] w fun e w' => e = .returned (.bool c.known) ∧ Below w.heap.size w w' := by
  have b0 : Below w.heap.size w (w.alloc (.cells (cmdC ca c) 24)) := (Below.refl _ _).alloc (Nat.le_refl _) _
  obtain ⟨Ak, ck, Av, cv, Ao, co⟩ := ca
  obtain ⟨kind, who, key, val, old⟩ := c
  unfold cmdV
  simp only [cmdC] at b0 ⊢
  have bad : ¬ (1 ≤ kind ∧ kind ≤ 11 ∧ (kind = 6 ∨ kind = 7 → 0 ≤ who ∧ who ≤ 999)) → Cm.known ⟨kind, who, key, val, old⟩ = false := fun h => decide_eq_false h
  have good : (1 ≤ kind ∧ kind ≤ 11 ∧ (kind = 6 ∨ kind = 7 → 0 ≤ who ∧ who ≤ 999)) → Cm.known ⟨kind, who, key, val, old⟩ = true := fun h => decide_eq_true h
  by_cases h1 : 1 ≤ kind ∧ kind ≤ 11
  · have HK := Lib.hid (fun w => isKind_yes w h1)
    by_cases h2 : 0 ≤ who ∧ who ≤ 999
    · have HW := Lib.hid (fun w => isWho_yes w h2)
      rw [good ⟨h1.1, h1.2, fun _ => h2⟩]
      clear bad good
      by_cases h6 : kind = 6
      · subst h6
        clear h1 h2
        go_enter Try.func31, Try.ntmps31
        go_wp2_with (first
          | (go_at_call 43; refine (HK.out _).mono ?_; rintro e w1 ⟨rfl, rfl⟩)
          | (go_at_call 44; refine (HW.out _).mono ?_; rintro e w1 ⟨rfl, rfl⟩)
          | fail)
        go_ret
        exact ⟨rfl, b0⟩
      · have k6 : (kind == 6) = false := by simp; omega
        clear h1 h2 h6
        go_enter Try.func31, Try.ntmps31
        go_wp2_with (first
          | (go_at_call 43; refine (HK.out _).mono ?_; rintro e w1 ⟨rfl, rfl⟩)
          | (go_at_call 44; refine (HW.out _).mono ?_; rintro e w1 ⟨rfl, rfl⟩)
          | fail)
        go_ret
        exact ⟨rfl, b0⟩
    · have HW := Lib.hid (fun w => isWho_no w h2)
      by_cases h6 : kind = 6
      · rw [bad (by omega)]
        subst h6
        clear h1 h2 bad good
        go_enter Try.func31, Try.ntmps31
        go_wp2_with (first
          | (go_at_call 43; refine (HK.out _).mono ?_; rintro e w1 ⟨rfl, rfl⟩)
          | (go_at_call 44; refine (HW.out _).mono ?_; rintro e w1 ⟨rfl, rfl⟩)
          | fail)
        go_ret
        exact ⟨rfl, b0⟩
      · have k6 : (kind == 6) = false := by simp; omega
        by_cases h7 : kind = 7
        · rw [bad (by omega)]
          subst h7
          clear h1 h2 bad good
          go_enter Try.func31, Try.ntmps31
          go_wp2_with (first
            | (go_at_call 43; refine (HK.out _).mono ?_; rintro e w1 ⟨rfl, rfl⟩)
            | (go_at_call 44; refine (HW.out _).mono ?_; rintro e w1 ⟨rfl, rfl⟩)
            | fail)
          go_ret
          exact ⟨rfl, b0⟩
        · have k7 : (kind == 7) = false := by simp; omega
          rw [good ⟨h1.1, h1.2, fun h => by omega⟩]
          clear h1 h2 h6 h7 bad good
          go_enter Try.func31, Try.ntmps31
          go_wp2_with (first
            | (go_at_call 43; refine (HK.out _).mono ?_; rintro e w1 ⟨rfl, rfl⟩)
            | (go_at_call 44; refine (HW.out _).mono ?_; rintro e w1 ⟨rfl, rfl⟩)
            | fail)
          go_ret
          exact ⟨rfl, b0⟩
  · have HK := Lib.hid (fun w => isKind_no w h1)
    rw [bad (by omega)]
    clear h1 bad good
    by_cases h6 : kind = 6
    · subst h6
      go_enter Try.func31, Try.ntmps31
      go_wp2_with (first
        | (go_at_call 43; refine (HK.out _).mono ?_; rintro e w1 ⟨rfl, rfl⟩)
        | fail)
      go_ret
      exact ⟨rfl, b0⟩
    · have k6 : (kind == 6) = false := by simp; omega
      clear h6
      go_enter Try.func31, Try.ntmps31
      go_wp2_with (first
        | (go_at_call 43; refine (HK.out _).mono ?_; rintro e w1 ⟨rfl, rfl⟩)
        | fail)
      go_ret
      exact ⟨rfl, b0⟩
end Go.Proofs.Ytcmjpjhaaookfaa
namespace Go.Proofs.Ytcmjpjhaaookfaa
open Go.RowKit
set_option linter.unusedVariables false
theorem copiedM_any {W w : World} {ps : List Pr} {A : Option Addr} {n c B : Nat} (hn : n ≤ 100000) (hL : LimP ps) (hr : RdP w B A n ps) (hB : Below W.heap.size W w) :
    Calls Try.prog 88 #[.slice A n c] w fun e w' => ∃ g, e = .returned (.slice (some ⟨g, 0, none⟩) ps.length (ps.length + 1)) ∧ OwnP W w' (some ⟨g, 0, none⟩) ps.length (ps.length + 1) ps ∧ Below W.heap.size W w' ∧ Below w.heap.size w w' :=
  (copiedM_raw ps A n c B hn hL w hr).mono fun e w' ⟨g, h1, h2, h3⟩ => ⟨g, h1, h2.of hB.size, hB.trans (h3.mono hB.size), h3⟩
set_option maxHeartbeats 1000000 in
theorem indexFunc_any (w : World) {kb n c n' c' B B' : Nat} {A A' : Option Addr} {ps : List Pr} {k : List Nat} (hn : n ≤ 100000) (hb : BytesP ps) (hbk : ∀ x ∈ k, x < 256) (h : RdP w B A n ps) (hc : w.cell? ⟨kb, 0, none⟩ = some (.slice A' n' c')) (h' : Rd w B' A' n' (bv k)) :
    Calls Try.prog 104 #[.slice A n c, .func (.func 99) #[] #[.pointer (some ⟨kb, 0, none⟩)]] w fun e w' => e = .returned (.int .i64 (Mp.place (Mp.keys ps) k)) ∧ Below w.heap.size w w' := by
  have hlen := h.length
  have hlt0 := World.block_lt_of_cell? _ _ hc
  have H := Lib.hid h.fit
  have H' := Lib.hid h'.fit
  have HB := Lib.hid hb
  have HBK := Lib.hid hbk
  have HC : Hid (∀ wx, Below w.heap.size w wx → wx.cell? ⟨kb, 0, none⟩ = some (.slice A' n' c')) := Lib.hid (fun wx hb => (hb.cell (p := ⟨kb, 0, none⟩) hlt0).trans hc)
  clear h h' hb hbk hc hlt0
  go_enter Try.func104, Try.ntmps104
  go_wp2_with fail
  go_loopw [5, 8] (fun s5 s8 wr => ∃ j : Nat, j ≤ n ∧ s8 = .int .i64 j ∧ Hid (∀ i, i < j → (Mp.keys ps)[i]? ≠ some k) ∧ Hid (Below w.heap.size w wr)) (fun _ s8 _ => n - (intOf s8).toNat)
  case atStart => exact ⟨0, Nat.zero_le _, rfl, Lib.hid (fun i hi => absurd hi (by omega)), Lib.hid (Below.refl _ _)⟩
  case round =>
    obtain ⟨j, hj, rfl, HS, HB0⟩ := hrel
    by_cases hlt : j < n
    · obtain ⟨b, o, p, A1, c1, A2, c2, rfl, hp, hcell1, hcell2, hrd1, hrd2⟩ := ((H.out.below HB0.out).fit).at hlt
      have HP := Lib.hid hp
      have HR1 := Lib.hid hrd1
      have HBP := Lib.hid (HB.out p (List.mem_of_getElem? hp)).1
      clear hp hrd1 hrd2
      by_cases he : p.1 = k
      · have HE := Lib.hid he
        have HD := Lib.hid (decide_eq_true he)
        clear he
        go_wp2_with (first
          | (go_at_call 99; refine (pred_any _ HBK.out HBP.out (HC.out _ HB0.out) (H'.out.below HB0.out) HR1.out).mono ?_; rw [HD.out]; rintro e w2 ⟨rfl, hb2⟩)
          | fail)
        go_ret
        exact ⟨ret_int (Mp.place_first (by rw [keys_at HP.out, HE.out]) HS.out).symm, HB0.out.trans (hb2.mono HB0.out.size)⟩
      · have HE := Lib.hid he
        have HD := Lib.hid (decide_eq_false he)
        clear he
        go_wp2_with (first
          | (go_at_call 99; refine (pred_any _ HBK.out HBP.out (HC.out _ HB0.out) (H'.out.below HB0.out) HR1.out).mono ?_; rw [HD.out]; rintro e w2 ⟨rfl, hb2⟩)
          | fail)
        go_roundw
        case rel =>
          refine ⟨j + 1, by omega, by go_num, Lib.hid (fun i hi => ?_), Lib.hid (HB0.out.trans (hb2.mono HB0.out.size))⟩
          rcases Nat.lt_or_ge i j with h1 | h1
          · exact HS.out i h1
          · obtain rfl : i = j := by omega
            rw [keys_at HP.out]
            intro h; injection h with h; exact HE.out h
        case measure => simp [intOf]; omega
    · obtain rfl : j = n := by omega
      have HPL := Lib.hid (Mp.place_none (s := Mp.keys ps) (x := k) (by rw [keys_length, hlen]; exact HS.out))
      go_wp2_with fail
      go_ret
      exact ⟨ret_int HPL.out.symm, HB0.out⟩
/-- what the sweep keeps: behind place i0 all that stood ahead of i + 1 went down by one -/
def Swept (ps : List Pr) (i0 i : Nat) (qs : List Pr) : Prop := ∀ t, qs[t]? = if t < i0 then ps[t]? else if t < i then ps[t + 1]? else ps[t]?
theorem Swept.start (ps : List Pr) (i0 : Nat) : Swept ps i0 i0 ps := fun t => by split <;> rfl
theorem Swept.next {ps : List Pr} {i0 i : Nat} {qs : List Pr} {p : Pr} (h : Swept ps i0 i qs) (hi : i0 ≤ i) (hlt : i + 1 < ps.length) (hp : ps[i + 1]? = some p) : Swept ps i0 (i + 1) (qs.set i p) := fun t => by
  have hl : i < qs.length := by
    have h1 : qs[i]? = ps[i]? := by rw [h i, if_neg (by omega), if_neg (by omega)]
    have h2 : ps[i]? = some ps[i] := List.getElem?_eq_getElem (by omega)
    rw [h2] at h1
    exact (List.getElem?_eq_some_iff.1 h1).1
  by_cases hit : i = t
  · subst hit
    rw [List.getElem?_set_self hl, if_neg (by omega), if_pos (by omega), hp]
  · rw [List.getElem?_set_ne hit, h t]
    by_cases h1 : t < i0
    · rw [if_pos h1, if_pos h1]
    · rw [if_neg h1, if_neg h1]
      by_cases h2 : t < i
      · rw [if_pos h2, if_pos (by omega)]
      · rw [if_neg h2, if_neg (by omega)]
theorem Swept.at {ps : List Pr} {i0 i : Nat} {qs : List Pr} (h : Swept ps i0 i qs) (hi : i0 ≤ i) : qs[i + 1]? = ps[i + 1]? := by rw [h, if_neg (by omega), if_neg (by omega)]
theorem Swept.done {ps : List Pr} {i0 i : Nat} {qs : List Pr} (h : Swept ps i0 i qs) (hi : i0 ≤ i) (hl : i + 1 = ps.length) : qs.take i = ps.eraseIdx i0 := by
  apply List.ext_getElem?
  intro t
  rw [List.getElem?_eraseIdx]
  rcases Nat.lt_or_ge t i with h1 | h1
  · rw [List.getElem?_take_of_lt h1, h t]
    by_cases h2 : t < i0
    · rw [if_pos h2, if_pos h2]
    · rw [if_neg h2, if_neg h2, if_pos h1]
  · rw [List.getElem?_eq_none (by simp; omega), if_neg (by omega), List.getElem?_eq_none (by omega)]
theorem flat_set {ps : List Pr} {i : Nat} {p : Pr} (hi : i < ps.length) : flat (ps.set i p) = ((flat ps).set (i * 2) p.1).set (i * 2 + 1) p.2 := by
  induction ps generalizing i with
  | nil => simp at hi
  | cons q ps ih =>
    cases i with
    | zero => rfl
    | succ i =>
      rw [List.set_cons_succ, flat_cons, flat_cons, ih (by simpa using hi), show (i + 1) * 2 + 1 = (i * 2 + 1) + 1 + 1 by omega, show (i + 1) * 2 = i * 2 + 1 + 1 by omega]; rfl
theorem rises_other {ps : List Pr} {i j : Nat} {p q : Pr} (h : Mp.Rises ps) (hi : ps[i]? = some p) (hj : ps[j]? = some q) (hij : i < j) : q.1 ≠ p.1 := by
  obtain ⟨h1, e1⟩ := List.getElem?_eq_some_iff.1 hi
  obtain ⟨h2, e2⟩ := List.getElem?_eq_some_iff.1 hj
  have := List.pairwise_iff_getElem.1 h i j h1 h2 hij
  rw [e1, e2] at this
  intro h; rw [h, Mp.ltB_irrefl] at this; cases this
set_option maxHeartbeats 4000000 in
set_option maxRecDepth 100000 in
theorem deleteFunc_any {W w : World} {kb g n c n' c' B' : Nat} {A' : Option Addr} {ps : List Pr} {k : List Nat} (hn : n ≤ 100000) (hnc : n < c) (hb : BytesP ps) (hbk : ∀ x ∈ k, x < 256) (hrise : Mp.Rises ps)
    (h : OwnP W w (some ⟨g, 0, none⟩) n c ps) (hc : W.cell? ⟨kb, 0, none⟩ = some (.slice A' n' c')) (h' : Rd W B' A' n' (bv k)) (hB : Below W.heap.size W w) :
    Calls Try.prog 98 #[.slice (some ⟨g, 0, none⟩) n c, .func (.func 99) #[] #[.pointer (some ⟨kb, 0, none⟩)]] w fun e w' => e = .returned (.slice (some ⟨g, 0, none⟩) (Mp.delS ps k).length c) ∧ OwnP W w' (some ⟨g, 0, none⟩) (Mp.delS ps k).length c (Mp.delS ps k) ∧ Below W.heap.size W w' := by
  obtain rfl := h.length
  have hlt0 := World.block_lt_of_cell? _ _ hc
  have H := Lib.hid h
  have H' := Lib.hid h'.fit
  have HB := Lib.hid hb
  have HBK := Lib.hid hbk
  have HR := Lib.hid hrise
  have HBW := Lib.hid hB
  have HC : Hid (∀ wx, Below W.heap.size W wx → wx.cell? ⟨kb, 0, none⟩ = some (.slice A' n' c')) := Lib.hid (fun wx hb => (hb.cell (p := ⟨kb, 0, none⟩) hlt0).trans hc)
  have HI := Lib.hid (indexFunc_any w (A := some ⟨g, 0, none⟩) (c := c) hn hb hbk h.rd (HC.out w hB) (h'.fit.below hB))
  clear h h' hb hbk hc hlt0 hrise hB
  unfold Mp.delS
  by_cases hk : k ∈ Mp.keys ps
  · rw [if_pos hk]
    obtain ⟨i0, ei, hi, hix⟩ := Mp.place_lt hk
    rw [hix]
    rw [ei] at HI
    have hin : i0 < ps.length := by
      have h1 : i0 < (Mp.keys ps).length := by
        rcases Nat.lt_or_ge i0 (Mp.keys ps).length with h | h
        · exact h
        · rw [List.getElem?_eq_none h] at hi; cases hi
      rwa [keys_length] at h1
    obtain ⟨p0, hp0⟩ : ∃ p, ps[i0]? = some p := ⟨_, List.getElem?_eq_getElem hin⟩
    have hk0 : p0.1 = k := by
      rw [keys_at hp0] at hi; injection hi
    have HP0 := Lib.hid hp0
    have HK0 := Lib.hid hk0
    have hne1 : ((i0 : Int) == -1) = false := beq_eq_false_iff_ne.2 (by omega)
    have hel : (ps.eraseIdx i0).length = ps.length - 1 := by rw [List.length_eraseIdx_of_lt hin]
    rw [hel]
    have HEL := Lib.hid hel
    clear hk ei hi hix hp0 hk0 hel
    go_enter Try.func98, Try.ntmps98
    go_wp2_with (first
      | (go_at_call 104; refine HI.out.mono ?_; rintro e w1 ⟨rfl, hb1⟩)
      | fail)
    have HO1 := Lib.hid (H.out.below hb1)
    have HB1 := Lib.hid (HBW.out.trans (hb1.mono HBW.out.size))
    clear hb1 HI H
    go_loopw [5, 6, 7] (fun s5 s6 s7 wr => ∃ (i : Nat) (qs : List Pr), i0 ≤ i ∧ i + 1 ≤ ps.length ∧ s5 = .int .i64 (i : Int) ∧ s6 = .int .i64 ((i : Int) + 1) ∧ Hid (OwnP W wr (some ⟨g, 0, none⟩) ps.length c qs) ∧ Hid (Swept ps i0 i qs) ∧ Hid (Below W.heap.size W wr)) (fun s5 _ _ _ => ps.length - (intOf s5).toNat)
    case atStart => exact ⟨i0, ps, Nat.le_refl _, by omega, rfl, by go_num, HO1, Lib.hid (Swept.start _ _), HB1⟩
    case round =>
      obtain ⟨i, qs, hi0, hi1, rfl, rfl, HO, HS, HBR⟩ := hrel
      obtain ⟨vs, hrow, hown⟩ := HO.out
      have hql : qs.length = ps.length := HO.out.length
      by_cases hlt : i + 1 < ps.length
      · obtain ⟨p, hp⟩ : ∃ p, ps[i + 1]? = some p := ⟨_, List.getElem?_eq_getElem hlt⟩
        have hqp : qs[i + 1]? = some p := by rw [HS.out.at hi0, hp]
        obtain ⟨A1, c1, e1, ho1⟩ := hown.cell ((i + 1) * 2) p.1 (by rw [flat_key, hqp]; rfl)
        obtain ⟨A2, c2, e2, ho2⟩ := hown.cell ((i + 1) * 2 + 1) p.2 (by rw [flat_val, hqp]; rfl)
        have hcx := (hrow.cellAt ((i + 1) * 2) (by omega)).trans e1
        have hcy := (hrow.cellAt ((i + 1) * 2 + 1) (by omega)).trans e2
        have hne := rises_other HR.out HP0.out hp (by omega)
        rw [HK0.out] at hne
        have HD := Lib.hid (decide_eq_false hne)
        have hltz : (i : Int) + 1 < (ps.length : Int) := by omega
        have b1 : Below wr.heap.size wr (wr.alloc (.cells #[.slice A1 p.1.length c1, .slice A2 p.2.length c2] 42)) := (Below.refl _ _).alloc (Nat.le_refl _) _
        have bw1 := HBR.out.trans (b1.mono HBR.out.size)
        have HPR : Hid (Calls Try.prog 99 #[.agg #[.slice A1 p.1.length c1, .slice A2 p.2.length c2], .pointer (some ⟨kb, 0, none⟩)] (wr.alloc (.cells #[.slice A1 p.1.length c1, .slice A2 p.2.length c2] 42)) fun e w' => e = .returned (.bool false) ∧ Below (wr.heap.size + 1) (wr.alloc (.cells #[.slice A1 p.1.length c1, .slice A2 p.2.length c2] 42)) w') := Lib.hid (by
          have := pred_any (wr.alloc (.cells #[.slice A1 p.1.length c1, .slice A2 p.2.length c2] 42)) (A2 := A2) (c1 := c1) (n2 := p.2.length) (c2 := c2) HBK.out (HB.out p (List.mem_of_getElem? hp)).1 (HC.out _ bw1) (H'.out.below bw1) ((Rd.own_ ho1).below b1)
          rw [HD.out] at this
          simpa using this)
        have HROW := Lib.hid hrow
        have HOWN := Lib.hid hown
        have HO1 := Lib.hid ho1
        have HO2 := Lib.hid ho2
        have HB1 := Lib.hid b1
        have HP := Lib.hid hp
        clear hrow hown ho1 ho2 hp hqp e1 e2 hne b1 bw1
        go_wp2_with (first
          | (go_at_call 99; refine HPR.out.mono ?_; rintro e w2 ⟨rfl, hb2⟩
             have hbox0 := (hb2.cell (p := ⟨wr.heap.size, 0, none⟩) (by simp)).trans ((Blk.new wr 42 #[.slice A1 p.1.length c1, .slice A2 p.2.length c2]).cell 0)
             have hbox1 := (hb2.cell (p := ⟨wr.heap.size, 1, none⟩) (by simp)).trans ((Blk.new wr 42 #[.slice A1 p.1.length c1, .slice A2 p.2.length c2]).cell 1)
             have hb3 : Below wr.heap.size wr w2 := HB1.out.trans (hb2.mono (by simp))
             have hrow2 := ownsRow_below HROW.out hb3
             have hf0 := own_frozenS hrow2 (i * 2)
             have hf1 := own_frozenS hrow2 (i * 2 + 1)
             obtain ⟨u0, hu0⟩ : ∃ u, w2.cell? ⟨g, i * 2, none⟩ = some u := ⟨_, (hrow2.cellAt (i * 2) (by omega)).trans (List.getElem?_eq_getElem (by rw [hrow2.1]; omega))⟩
             obtain ⟨u1, hu1⟩ : ∃ u, w2.cell? ⟨g, i * 2 + 1, none⟩ = some u := ⟨_, (hrow2.cellAt (i * 2 + 1) (by omega)).trans (List.getElem?_eq_getElem (by rw [hrow2.1]; omega))⟩
             have HROW2 := Lib.hid hrow2
             have HB3 := Lib.hid hb3
             clear hrow2 hb2 hb3)
          | fail)
        go_roundw
        case rel =>
          obtain ⟨cur, hbk, _, _, _, hbase⟩ := own_cur HROW2.out
          refine ⟨i + 1, qs.set i p, by omega, by omega, by go_num, by go_num, Lib.hid ⟨(vs.set (i * 2) (.slice A1 p.1.length c1)).set (i * 2 + 1) (.slice A2 p.2.length c2), ((HROW2.out.stored (i * 2) _).1.stored (i * 2 + 1) _).1, ?_⟩, Lib.hid (HS.out.next hi0 hlt HP.out), Lib.hid (((HBR.out.trans (HB3.out.mono HBR.out.size)).setCell (p := ⟨g, i * 2, none⟩) hbase _).setCell (p := ⟨g, i * 2 + 1, none⟩) hbase _)⟩
          rw [flat_set (by omega)]
          have q1 : 5 ≠ 42 := by decide
          have s0 := ((HOWN.out.below HB3.out).set_t hbk (i := i * 2) (u := .slice A1 p.1.length c1) q1).set_t (hbk.set_ _ _) (i := i * 2 + 1) (u := .slice A2 p.2.length c2) q1
          exact (s0.set (own_set_t (own_set_t (own_below HO1.out HB3.out) hbk q1) (hbk.set_ _ _) q1) _).set (own_set_t (own_set_t (own_below HO2.out HB3.out) hbk q1) (hbk.set_ _ _) q1) _
        case measure => simp [intOf]; omega
      · obtain ⟨cur, hbk, hcs, htk, _, hbase⟩ := own_cur hrow
        have hie : i + 1 = ps.length := by omega
        have hltz : ¬ (i : Int) + 1 < (ps.length : Int) := by omega
        obtain ⟨t0, ht0, htz, hts, _⟩ := info_parts cellP.info
        have hsl1 : ∀ w : World, (Instr.slice 30 (.slice (some ⟨g, 0, none⟩) ps.length c) (some (.int .i64 (i : Int))) none none).run Try.prog w = .ok (.slice (some ⟨g, i * 2, none⟩) 1 (c - i)) w := fun w => by
          have := run_slice_fromS_ (P := Try.prog) Try.underlying30 ht0 hts (some ⟨g, 0, none⟩) ps.length c i (by omega) w
          unfold cutS at this
          rw [if_neg (by omega), Option.map_some, adr_add, Nat.zero_add, show ps.length - i = 1 by omega] at this
          exact this
        have hsl2 := run_slice_to (P := Try.prog) (t := 30) Try.underlying30 ht0 (some ⟨g, 0, none⟩) ps.length c i (by omega)
        have hcl := fun ty => run_clear_one (P := Try.prog) wr 30 ty 42 t0 _ Try.underlying30 ht0 htz (by intro u hu; simp [Value.cells] at hu; subst hu; rfl) g (i * 2) (c - i) cur hbk (by simp [Value.cells]; omega)
        obtain ⟨wz, hwz⟩ : ∃ wz, wr.setRow g (cur.toList.take (i * 2) ++ (Value.agg #[.slice none 0 0, .slice none 0 0]).cells.toList ++ cur.toList.drop (i * 2 + (Value.agg #[.slice none 0 0, .slice none 0 0]).cells.size)).toArray = wz := ⟨_, rfl⟩
        rw [hwz] at hcl
        have HWZ := Lib.hid hwz
        have HHROW := Lib.hid hrow
        have HOWN := Lib.hid hown
        have HCS := Lib.hid hcs
        have HTK := Lib.hid htk
        have HBK2 := Lib.hid hbk
        clear hwz hrow hown hbk hcs htk ht0 htz hts
        go_wp2_with fail
        go_ret
        have hz2 : (Value.agg #[.slice none 0 0, .slice none 0 0]).cells = #[.slice none 0 0, .slice none 0 0] := rfl
        have hwz := HWZ.out
        rw [hz2] at hwz
        obtain ⟨r1, r2⟩ := own_written HHROW.out (n' := i) (vs' := vs.take (i * 2)) (cur.toList.take (i * 2) ++ [Value.slice none 0 0, Value.slice none 0 0] ++ cur.toList.drop (i * 2 + 2)).toArray (by have := HCS.out; simp; omega) (by omega) (by rw [List.length_take, HHROW.out.1]; omega) (by
          have := HCS.out
          rw [List.append_assoc, List.take_append_of_le_length (by simp; omega), List.take_take, Nat.min_self, ← HTK.out, List.take_take, Nat.min_eq_left (by omega)])
        rw [show wr.setRow g (cur.toList.take (i * 2) ++ [Value.slice none 0 0, Value.slice none 0 0] ++ cur.toList.drop (i * 2 + 2)).toArray = wz from hwz] at r1 r2
        refine ⟨?_, ⟨_, by rw [show ps.length - 1 = i by omega]; exact r1, ?_⟩, HBR.out.grown r2 HBR.out.size (fun k hk => by injection hk with hk; omega)⟩
        · rw [show ps.length - 1 = i by omega]; rfl
        · rw [← HS.out.done hi0 hie, flat_take]
          exact (HOWN.out.take (i * 2)).grownP HHROW.out r2
  · rw [if_neg hk]
    have hpn := Mp.place_no hk
    rw [hpn] at HI
    clear hk hpn
    go_enter Try.func98, Try.ntmps98
    go_wp2_with (first
      | (go_at_call 104; refine HI.out.mono ?_; rintro e w1 ⟨rfl, hb1⟩)
      | fail)
    go_ret
    exact ⟨rfl, H.out.below hb1, HBW.out.trans (hb1.mono HBW.out.size)⟩
end Go.Proofs.Ytcmjpjhaaookfaa
namespace Go.Proofs.Ytcmjpjhaaookfaa
open Go.RowKit
set_option linter.unusedVariables false
set_option maxHeartbeats 1000000 in
theorem withoutM_raw {w : World} {ps : List Pr} {k : List Nat} {A A' : Option Addr} {n c n' c' B B' : Nat} (hn : n ≤ 100000) (hL : LimP ps) (hb : BytesP ps) (hbk : ∀ x ∈ k, x < 256) (hrise : Mp.Rises ps) (h : RdP w B A n ps) (h' : Rd w B' A' n' (bv k)) :
    Calls Try.prog 89 #[.slice A n c, .slice A' n' c'] w fun e w' => ∃ g c2, e = .returned (.slice (some ⟨g, 0, none⟩) (Mp.delS ps k).length c2) ∧ (Mp.delS ps k).length < c2 ∧ OwnP w w' (some ⟨g, 0, none⟩) (Mp.delS ps k).length c2 (Mp.delS ps k) ∧ Below w.heap.size w w' := by
  obtain rfl := h.length
  have b1 : Below w.heap.size w (w.alloc (.cells #[.slice A' n' c'] 22)) := (Below.refl _ _).alloc (Nat.le_refl _) _
  have H := Lib.hid (h.fit.below b1)
  have H' := Lib.hid (h'.fit.below b1)
  have HL := Lib.hid hL
  have HB := Lib.hid hb
  have HBK := Lib.hid hbk
  have HR := Lib.hid hrise
  have HC := Lib.hid ((Blk.new w 22 #[.slice A' n' c']).cell 0)
  have HB1 := Lib.hid b1
  obtain ⟨wb, hwb⟩ : ∃ wb, w.alloc (.cells #[.slice A' n' c'] 22) = wb := ⟨_, rfl⟩
  rw [hwb] at H H' HC HB1
  have HW := Lib.hid hwb
  clear h h' hL hb hbk hrise b1 hwb
  go_enter Try.func89, Try.ntmps89
  go_wp2_with (first
    | (go_at_call 88; rw [HW.out]; refine (copiedM_any (W := wb) hn HL.out H.out (Below.refl _ _)).mono ?_; rintro e w1 ⟨g, rfl, ho1, hB1, _⟩
       have HD := Lib.hid (deleteFunc_any (W := wb) (kb := w.heap.size) hn (by omega) HB.out HBK.out HR.out ho1 HC.out H'.out hB1))
    | (go_at_call 98; refine HD.out.mono ?_; rintro e w2 ⟨rfl, ho2, hB2⟩)
    | fail)
  go_ret
  have hs : w.heap.size ≤ wb.heap.size := HB1.out.size
  refine ⟨g, ps.length + 1, rfl, ?_, ho2.of hs, HB1.out.trans (hB2.mono hs)⟩
  unfold Mp.delS
  split
  · have := (List.eraseIdx_sublist ps (Mp.idx (Mp.keys ps) k)).length_le; omega
  · omega
theorem withoutM_any {W w : World} {ps : List Pr} {k : List Nat} {A A' : Option Addr} {n c n' c' B B' : Nat} (hn : n ≤ 100000) (hL : LimP ps) (hb : BytesP ps) (hbk : ∀ x ∈ k, x < 256) (hrise : Mp.Rises ps) (h : RdP w B A n ps) (h' : Rd w B' A' n' (bv k)) (hB : Below W.heap.size W w) :
    Calls Try.prog 89 #[.slice A n c, .slice A' n' c'] w fun e w' => ∃ g c2, e = .returned (.slice (some ⟨g, 0, none⟩) (Mp.delS ps k).length c2) ∧ (Mp.delS ps k).length < c2 ∧ OwnP W w' (some ⟨g, 0, none⟩) (Mp.delS ps k).length c2 (Mp.delS ps k) ∧ Below W.heap.size W w' ∧ Below w.heap.size w w' :=
  (withoutM_raw hn hL hb hbk hrise h h').mono fun e w' ⟨g, c2, h1, h2, h3, h4⟩ => ⟨g, c2, h1, h2, h3.of hB.size, hB.trans (h4.mono hB.size), h4⟩
section
variable {P : Program}
/-- a copy whose run is known -/
theorem wp_copy_known (w : World) {o : Oper} {a : Act} {K : Act → World → Prop} {Q : Exit → Act → World → Prop} (d s : Operand) (t u : TypeId)
    (ho : o.op = .call { callee := .builtin .copy, args := #[d, s], argTypes := #[t, u] }) (x y : Value) (hd : a.eval d = x) (hs : a.eval s = y) {v : Value} {w' : World}
    (hr : (Builtin.copy_ #[t, u] o.type #[x, y]).run P w = .ok v w') (h : K (a.put o.dst v) w') : o.wp P a w K Q := by
  unfold Oper.wp execOp
  simp only [ho, resolve, invoke, builtin, Sem.run_bind, Sem.run_pure, Result.andThen_ok, List.map_toArray, List.map_cons, List.map_nil, hd, hs, hr]
  exact h
theorem step_copy_known {ops : Array Oper} {o : Oper} {a : Act} {w : World} {K : Act → World → Prop} {Q : Exit → Act → World → Prop} {E : Prop} (hg : o.guard = none) (d s : Operand) (t u : TypeId)
    (ho : o.op = .call { callee := .builtin .copy, args := #[d, s], argTypes := #[t, u] }) (x y : Value) (hd : a.eval d = x) (hs : a.eval s = y) {v : Value} {w' : World}
    (hr : (Builtin.copy_ #[t, u] o.type #[x, y]).run P w = .ok v w') (h : K (a.put o.dst v) w') : if Region.wanted o (yielded ops a.tmps) = true then Oper.wp P o a w K Q else E := by
  rw [if_pos (by simp [Region.wanted, hg])]
  exact wp_copy_known w d s t u ho x y hd hs hr h
theorem wpList_copy_known (w : World) {ops : Array Oper} {rest : List Oper} {o : Oper} {a : Act} {Q : Exit → Act → World → Prop} (hg : o.guard = none) (d s : Operand) (t u : TypeId)
    (ho : o.op = .call { callee := .builtin .copy, args := #[d, s], argTypes := #[t, u] }) (x y : Value) (hd : a.eval d = x) (hs : a.eval s = y) {v : Value} {w' : World}
    (hr : (Builtin.copy_ #[t, u] o.type #[x, y]).run P w = .ok v w') (h : wpList P ops Q rest (a.put o.dst v) w') : wpList P ops Q (o :: rest) a w := by
  unfold wpList
  rw [if_pos (by simp [Region.wanted, hg])]
  exact .inl (wp_copy_known w d s t u ho x y hd hs hr h)
end
set_option maxHeartbeats 4000000 in
set_option maxRecDepth 100000 in
theorem insert_any {W w : World} {g n c i vb c1 c2 : Nat} {A1 A2 : Option Addr} {ps : List Pr} {k v : List Nat} (hn : n ≤ 100000) (hin : i ≤ n) (hnc : n < c) (hgv : vb ≠ g)
    (h : OwnP W w (some ⟨g, 0, none⟩) n c ps) (hvb : Blk w vb 42 #[.slice A1 k.length c1, .slice A2 v.length c2]) (ho1 : OwnB W w A1 k.length c1 k) (ho2 : OwnB W w A2 v.length c2 v) (hB : Below W.heap.size W w) :
    Calls Try.prog 90 #[.slice (some ⟨g, 0, none⟩) n c, .int .i64 (i : Int), .slice (some ⟨vb, 0, none⟩) 1 1] w fun e w' => e = .returned (.slice (some ⟨g, 0, none⟩) (n + 1) c) ∧ OwnP W w' (some ⟨g, 0, none⟩) (n + 1) c (ps.take i ++ (k, v) :: ps.drop i) ∧ Below W.heap.size W w' := by
  obtain rfl := h.length
  obtain ⟨vs, hrow, hown⟩ := h
  have hvl : vs.length = ps.length * 2 := hrow.1
  obtain ⟨cur, hbk, hcs, htk, _, hbase⟩ := own_cur hrow
  obtain ⟨t0, ht0, htz, hts, _⟩ := info_parts cellP.info
  have hcmax : c ≤ 9223372036854775807 := by have := (own_cap hrow).2; unfold maxLen at this; omega
  have hsl := fun (m j : Nat) (hj : j ≤ m) (w : World) => run_slice_fromS_ (P := Try.prog) Try.underlying30 ht0 hts (some ⟨g, 0, none⟩) m c j hj w
  have hcut : ∀ j, j < c → cutS (some ⟨g, 0, none⟩) c j 2 = some ⟨g, j * 2, none⟩ := fun j hj => by
    unfold cutS; rw [if_neg (by omega), Option.map_some, adr_add, Nat.zero_add]
  have hs1 := hsl ps.length i hin
  rw [hcut i (by omega)] at hs1
  have hz1 : ¬ (1 : Int) = 0 := by omega
  rcases Nat.lt_or_ge i ps.length with hlt | hge
  · have hne : ¬ ((i : Int) = (ps.length : Int)) := by omega
    have hs2 := hsl (ps.length + 1) (i + 1) (by omega)
    rw [hcut (i + 1) (by omega), show ps.length + 1 - (i + 1) = ps.length - i by omega] at hs2
    have hs3 := hsl (ps.length + 1) i (by omega)
    rw [hcut i (by omega)] at hs3
    have hs4 := run_slice_to (P := Try.prog) (t := 30) Try.underlying30 ht0 (some ⟨g, 0, none⟩) ps.length c (ps.length + 1) (by omega)
    rw [show (((i + 1 : Nat)) : Int) = (i : Int) + 1 by omega] at hs2
    rw [show (((ps.length + 1 : Nat)) : Int) = (ps.length : Int) + 1 by omega] at hs4
    have hw1 : IntKind.i64.wrap ((ps.length : Int) + 1) = (ps.length : Int) + 1 := IntWalk.i64_in _ (by omega)
    have hw2 : IntKind.i64.wrap ((i : Int) + 1) = (i : Int) + 1 := IntWalk.i64_in _ (by omega)
    have hroom : ¬ (c : Int) < (ps.length : Int) + 1 := by omega
    have hcur2 : cur.size = c * 2 := hcs
    have hdl : (vs.drop (i * 2)).length = (ps.length - i) * 2 := by rw [List.length_drop, hvl]; omega
    have hcp1 : ∀ ty dc sc, (Builtin.copy_ #[30, 30] ty #[.slice (some ⟨g, (i + 1) * 2, none⟩) (ps.length - i) dc, .slice (some ⟨g, i * 2, none⟩) (ps.length + 1 - i) sc]).run Try.prog w.drew = .ok (.int .i64 ((ps.length - i : Nat) : Int)) (w.drew.setRow g (cur.toList.take ((i + 1) * 2) ++ vs.drop (i * 2) ++ cur.toList.drop ((i + 1) * 2 + (vs.drop (i * 2)).length)).toArray) := fun ty dc sc =>
      run_copy_blk (P := Try.prog) w.drew _ _ ty 42 g ((i + 1) * 2) (ps.length - i) dc ⟨g, i * 2, none⟩ (ps.length + 1 - i) sc cur 42 (vs.drop (i * 2)) 2 (ps.length - i) Try.underlying30 (by rw [ht0]; simp [hts]) hbk (by simp only [Nat.min_def]; split <;> omega) hdl
        (fun j u hj => by
          rw [List.getElem?_drop] at hj
          rw [adr_add, ← hj]
          have hjl : i * 2 + j < vs.length := (List.getElem?_eq_some_iff.1 hj).1
          exact hrow.cellAt (i * 2 + j) (by omega)) (by rw [hdl]; omega) (fun u hu => hown.one u (List.mem_of_mem_drop hu))
    obtain ⟨cs1, hcs1⟩ : ∃ cs1, (cur.toList.take ((i + 1) * 2) ++ vs.drop (i * 2) ++ cur.toList.drop ((i + 1) * 2 + (vs.drop (i * 2)).length)) = cs1 := ⟨_, rfl⟩
    rw [hcs1] at hcp1
    have hcs1l : cs1.length = c * 2 := by rw [← hcs1]; simp [hdl]; omega
    obtain ⟨W1, hW1⟩ : ∃ W1, w.drew.setRow g cs1.toArray = W1 := ⟨_, rfl⟩
    rw [hW1] at hcp1
    have hbk1 : Blk W1 g 42 cs1.toArray := by rw [← hW1]; exact setRow_heap w.drew g cur _ _ _ hbk
    have hvb1 : Blk W1 vb 42 #[.slice A1 k.length c1, .slice A2 v.length c2] := by rw [← hW1]; exact (setRow_other w.drew g vb _ hgv).trans hvb
    have hcp2 : ∀ ty dc, (Builtin.copy_ #[30, 30] ty #[.slice (some ⟨g, i * 2, none⟩) (ps.length + 1 - i) dc, .slice (some ⟨vb, 0, none⟩) 1 1]).run Try.prog W1 = .ok (.int .i64 ((1 : Nat) : Int)) (W1.setRow g (cs1.toArray.toList.take (i * 2) ++ [Value.slice A1 k.length c1, Value.slice A2 v.length c2] ++ cs1.toArray.toList.drop (i * 2 + 2)).toArray) := fun ty dc =>
      run_copy_blk (P := Try.prog) W1 _ _ ty 42 g (i * 2) (ps.length + 1 - i) dc ⟨vb, 0, none⟩ 1 1 cs1.toArray 42 [Value.slice A1 k.length c1, Value.slice A2 v.length c2] 2 1 Try.underlying30 (by rw [ht0]; simp [hts]) hbk1 (by simp only [Nat.min_def]; split <;> omega) rfl
        (fun j u hj => by rw [adr_add, hvb1.cell, Nat.zero_add]; simpa using hj) (by simp; omega) (by intro u hu; simp at hu; rcases hu with rfl | rfl <;> rfl)
    obtain ⟨cs2, hcs2⟩ : ∃ cs2, (cs1.toArray.toList.take (i * 2) ++ [Value.slice A1 k.length c1, Value.slice A2 v.length c2] ++ cs1.toArray.toList.drop (i * 2 + 2)) = cs2 := ⟨_, rfl⟩
    rw [hcs2] at hcp2
    obtain ⟨W2, hW2⟩ : ∃ W2, W1.setRow g cs2.toArray = W2 := ⟨_, rfl⟩
    rw [hW2] at hcp2
    have hov : ∀ lb cb, (callFunc 100 #[.slice (some ⟨vb, 0, none⟩) 1 1, .slice (some ⟨g, (i + 1) * 2, none⟩) lb cb]).run Try.prog w = .ok (.value (.bool false)) w := fun lb cb => by
      rw [run_callFunc_extern Try.func100 (by kernel_rfl) (by kernel_rfl) (by kernel_rfl) (e := Extern.SlicesOverlaps.overlaps #[30, 30] #[4]) (by kernel_rfl),
        Lib.run_overlaps_apart w 30 4 42 Try.underlying30 2 (fun w => by simp [sizeOf, typeInfo, ht0, hts]) ⟨vb, 0, none⟩ ⟨g, (i + 1) * 2, none⟩ 1 1 lb cb hgv 42 42 2 cur.size
          (by unfold Blk at hvb; simp [World.shape?, hvb]) (by unfold Blk at hbk; simp [World.shape?, hbk]) (by omega) (hvb.frozen 0) (hvb.frozen 2)]
      rfl
    have HFIN : Hid (OwnP W W2 (some ⟨g, 0, none⟩) (ps.length + 1) c (ps.take i ++ (k, v) :: ps.drop i) ∧ Below W.heap.size W W2) := Lib.hid (by
      have hW : W2 = w.drew.setRow g cs2.toArray := by rw [← hW2, ← hW1, setRow_setRow]
      have hc2l : cs2.length = c * 2 := by rw [← hcs2]; simp; omega
      have htk2 : cs2.take ((ps.length + 1) * 2) = vs.take (i * 2) ++ [Value.slice A1 k.length c1, Value.slice A2 v.length c2] ++ vs.drop (i * 2) := by
        have hxl : (cur.toList.take ((i + 1) * 2)).length = (i + 1) * 2 := by simp; omega
        have e1 : cs1.take (i * 2) = vs.take (i * 2) := by
          rw [← hcs1, List.append_assoc, List.take_append_of_le_length (by omega), List.take_take, Nat.min_eq_left (by omega), ← htk, List.take_take, Nat.min_eq_left (by omega)]
        have e2 : cs1.drop (i * 2 + 2) = vs.drop (i * 2) ++ cur.toList.drop ((i + 1) * 2 + (vs.drop (i * 2)).length) := by
          rw [← hcs1, List.append_assoc, show i * 2 + 2 = (i + 1) * 2 by omega, List.drop_append_of_le_length (by omega), List.drop_of_length_le (by omega)]; rfl
        rw [← hcs2]
        rw [e1, e2, ← List.append_assoc, List.take_append_of_le_length (by simp; omega), List.take_of_length_le (by simp; omega)]
      obtain ⟨r1, r2⟩ := own_written (w := w.drew) (own_drew hrow) (n' := ps.length + 1) (vs' := vs.take (i * 2) ++ [Value.slice A1 k.length c1, Value.slice A2 v.length c2] ++ vs.drop (i * 2)) cs2.toArray (by simpa using hc2l) (by omega) (by simp [hvl]; omega) (by simpa using htk2)
      rw [← hW] at r1 r2
      refine ⟨⟨_, r1, ?_⟩, hB.drew.grown r2 hB.size (fun k hk => by injection hk with hk; omega)⟩
      rw [flat_insert]
      have hd : Below w.heap.size w w.drew := (Below.refl _ _).drew
      have hmid : Owns W w.drew [Value.slice A1 k.length c1, Value.slice A2 v.length c2] [k, v] := by
        have := (Owns.nil W w.drew).two (own_below ho1 hd) (own_below ho2 hd)
        simpa using this
      exact ((((hown.below hd).take (i * 2)).append hmid).append ((hown.below hd).drop (i * 2))).grownP (own_drew hrow) r2)
    clear hbk hcs htk ht0 htz hts hsl hcut hrow hown hvb ho1 ho2 hB hdl hcs1 hcs1l hW1 hbk1 hvb1 hcs2 hW2 hcur2 hvl hbase
    go_enter Try.func90, Try.ntmps90
    go_wp2_with (simp only [hov])
    go_region_law (refine step_copy_known rfl _ _ 30 30 rfl _ _ (by simp [Act.eval, Act.put]) (by simp [Act.eval, Act.put]) (hcp1 _ _ _) ?_)
    go_wp2_with (at_builtin; refine wpList_copy_known _ rfl _ _ 30 30 rfl _ _ rfl rfl (hcp2 _ _) ?_)
    go_ret
    exact ⟨rfl, HFIN.out⟩
  · obtain rfl : i = ps.length := by omega
    have HROW := Lib.hid hrow
    have HOWN := Lib.hid hown
    have HVB := Lib.hid hvb
    have HO1 := Lib.hid ho1
    have HO2 := Lib.hid ho2
    have HBW := Lib.hid hB
    have HSRC : Hid (Rd w w.heap.size (some ⟨vb, 0, none⟩) (1 * 2) [Value.slice A1 k.length c1, Value.slice A2 v.length c2]) := Lib.hid ⟨rfl, fun _ => ⟨vb, 0, rfl, hvb.lt, fun j hj => by rw [Nat.zero_add, hvb.cell]; simp⟩⟩
    clear hbk hcs htk ht0 htz hts hsl hcut hrow hown hvb ho1 ho2 hB hvl hbase
    go_enter Try.func90, Try.ntmps90
    go_wp2_with (first
      | (at_builtin
         refine wpList_append_fits (W := W) cellP (.tmp 23) (.tmp 24) rfl (by rfl) rfl HROW.out rfl HSRC.out (by intro u hu; simp at hu; rcases hu with rfl | rfl <;> rfl) (by omega) (by omega) HBW.out ?_
         intro w2 hown2 hB2 hg2)
      | fail)
    go_ret
    refine ⟨rfl, ⟨_, hown2, ?_⟩, hB2⟩
    rw [List.take_length, List.drop_length, flat_append]
    exact (HOWN.out.two HO1.out HO2.out).grownP HROW.out hg2
end Go.Proofs.Ytcmjpjhaaookfaa
namespace Go.Proofs.Ytcmjpjhaaookfaa
open Go.RowKit
set_option linter.unusedVariables false
set_option maxHeartbeats 1000000 in
theorem del_raw {w : World} {ps : List Pr} {k : List Nat} {A A' : Option Addr} {n c n' c' B B' : Nat} (hn : n ≤ 100000) (hL : LimP ps) (hb : BytesP ps) (hbk : ∀ x ∈ k, x < 256) (hrise : Mp.Rises ps) (h : RdP w B A n ps) (h' : Rd w B' A' n' (bv k)) :
    Calls Try.prog 42 #[.slice A n c, .slice A' n' c'] w (GotPR w w (Mp.delS ps k) (Mp.getE ps k) (Mp.getV ps k) 0) := by
  have H := Lib.hid h.fit
  have H' := Lib.hid h'.fit
  have HL := Lib.hid hL
  have HB := Lib.hid hb
  have HBK := Lib.hid hbk
  have HR := Lib.hid hrise
  have b0 : Below w.heap.size w (w.alloc (.cells zeroR 34)) := (Below.refl _ _).alloc (Nat.le_refl _) _
  clear h h' hL hb hbk hrise
  obtain ⟨E, hE⟩ : ∃ E, Mp.getE ps k = E := ⟨_, rfl⟩
  rw [hE]
  have HE := Lib.hid hE
  clear hE
  go_enter Try.func42, Try.ntmps42
  go_wp2_with (first
    | (go_at_call 89; refine (withoutM_any (W := w) hn HL.out HB.out HBK.out HR.out (H.out.below b0) (H'.out.below b0) b0).mono ?_; rintro e w1 ⟨g, c1, rfl, _, ho1, hB1, hb1⟩)
    | (go_at_call 41; refine (get_any (W := w) hn HL.out HB.out HBK.out (H.out.below hB1) (H'.out.below hB1) hB1).mono ?_; rw [HE.out]; rintro e w2 ⟨A2, c2, rfl, ho2, hB2, hb2⟩; unfold resV; have HK := Lib.hid (((Blk.new w 34 zeroR).below hb1).below hb2); obtain ⟨x0, x1, x2, f0, f1, f2⟩ := three HK.out)
    | fail)
  obtain ⟨k1, k2, k3⟩ := put3 HK.out (.int .i64 E) (.slice A2 (Mp.getV ps k).length c2) (.int .i64 0)
  refine bodyPost_ret (results_tmp_cell_row rfl _ _ _ _ _ _ rfl k1 Try.underlying34 rfl (by kernel_rfl)) rfl ?_
  have h3 := k2 w (Nat.le_refl _) hB2
  exact ⟨some ⟨g, 0, none⟩, c1, A2, c2, rfl, (ho1.below hb2).put3 HK.out (by decide) (by decide) _ _ _, k3 _ _ _ _ _ _ ho2 (by decide), h3, h3⟩
theorem delC7 : DelC7 := fun {W w ps k A A' n c n' c' B B'} hnc hI hk hn' h h' hB =>
  (del_raw (w := w) (by have := h.length; have := hI.few; omega) (inv_lim hI) hI.byt hk hI.rise h h').mono fun e w' h => GotPR.of hB h
theorem getC7 : GetC7 := fun {W w ps k A A' n c n' c' B B'} hnc hI hk hn' h h' hB =>
  get_any (W := W) (by have := h.length; have := hI.few; omega) (inv_lim hI) hI.byt hk h h' hB
namespace Mp
theorem idx_at {ps : List Pr} {k : List Nat} (hk : k ∈ keys ps) : ∃ (i : Nat) (p : Pr), idx (keys ps) k = i ∧ i < ps.length ∧ ps[i]? = some p ∧ p.1 = k := by
  obtain ⟨i, _, hi, hix⟩ := place_lt hk
  have h1 : i < ps.length := by
    have h1 : i < (keys ps).length := by
      rcases Nat.lt_or_ge i (keys ps).length with h | h
      · exact h
      · rw [List.getElem?_eq_none h] at hi; cases hi
    simpa [keys] using h1
  have h2 := List.getElem?_eq_getElem h1
  rw [keys_at h2] at hi
  exact ⟨i, ps[i], hix, h1, h2, by injection hi⟩
theorem del_no {ps : List Pr} {k : List Nat} (hr : Rises ps) : k ∉ keys (delS ps k) := by
  unfold delS
  by_cases hk : k ∈ keys ps
  · rw [if_pos hk]
    obtain ⟨i, p, e, hl, hp, hpk⟩ := idx_at hk
    rw [e]
    intro h
    unfold keys at h
    obtain ⟨q, hq, hqk⟩ := List.mem_map.1 h
    obtain ⟨j, hj, hqj⟩ := List.getElem_of_mem hq
    have hj2 : (ps.eraseIdx i)[j]? = some q := by rw [List.getElem?_eq_getElem hj, hqj]
    rw [List.getElem?_eraseIdx] at hj2
    split at hj2
    · rename_i hji
      exact rises_other hr hj2 hp hji (by rw [hpk, hqk])
    · rename_i hji
      exact rises_other hr hp hj2 (by omega) (by rw [hpk, hqk])
  · rw [if_neg hk]; exact hk
/-- what Put leaves, as the code makes it -/
theorem put_made {ps : List Pr} {k v : List Nat} (hr : Rises ps) (hlong : ¬ (8 < k.length ∨ 16 < v.length)) (hf : k ∈ keys ps ∨ ps.length < 8) :
    (delS ps k).take (cut (delS ps k) k) ++ (k, v) :: (delS ps k).drop (cut (delS ps k) k) = putS ps k v ∧ putE ps k v = 0 ∧ putV ps k v = getV ps k ∧ putN ps k v = (((delS ps k).length + 1 : Nat) : Int) := by
  unfold putS putE putV putN getV delS
  rw [if_neg hlong, if_neg hlong, if_neg hlong, if_neg hlong]
  by_cases hk : k ∈ keys ps
  · simp only [if_pos hk]
    obtain ⟨i, p, e, hl, hp, hpk⟩ := idx_at hk
    rw [e]
    have hc : cut (ps.eraseIdx i) k = i := by
      refine cut_is (by rw [List.length_eraseIdx_of_lt hl]; omega) (fun j q hj hq => ?_) (fun q hq => ?_)
      · rw [List.getElem?_eraseIdx, if_pos hj] at hq
        obtain ⟨h1, e1⟩ := List.getElem?_eq_some_iff.1 hq
        obtain ⟨h2, e2⟩ := List.getElem?_eq_some_iff.1 hp
        have := List.pairwise_iff_getElem.1 hr j i h1 h2 hj
        rw [e1, e2, hpk] at this
        exact this
      · rw [List.getElem?_eraseIdx, if_neg (by omega)] at hq
        obtain ⟨h1, e1⟩ := List.getElem?_eq_some_iff.1 hq
        obtain ⟨h2, e2⟩ := List.getElem?_eq_some_iff.1 hp
        have := List.pairwise_iff_getElem.1 hr i (i + 1) h2 h1 (by omega)
        rw [e1, e2, hpk] at this
        exact ltB_asymm this
    rw [hc]
    refine ⟨?_, trivial, trivial, by rw [List.length_eraseIdx_of_lt hl]; omega⟩
    rw [List.set_eq_take_append_cons_drop, if_pos hl, List.eraseIdx_eq_take_drop_succ]
    have h1 : (ps.take i).length = i := by rw [List.length_take]; omega
    rw [List.take_append_of_le_length (by omega), List.take_of_length_le (by omega), List.drop_append_of_le_length (by omega), List.drop_of_length_le (by omega)]
    rfl
  · have h8 : ¬ 8 ≤ ps.length := by rcases hf with h | h; exact absurd h hk; omega
    simp only [if_neg hk, if_neg h8]
    exact ⟨trivial, trivial, trivial, trivial⟩
end Mp
set_option maxHeartbeats 4000000 in
set_option maxRecDepth 100000 in
theorem put_refused {w : World} {ps : List Pr} {k v : List Nat} {A A' A'' : Option Addr} {n c n' c' n'' c'' B B' B'' : Nat} (hn : n ≤ 100000) (hL : LimP ps) (hb : BytesP ps) (hbk : ∀ x ∈ k, x < 256) (hno : (8 < k.length ∨ 16 < v.length) ∨ (k ∉ Mp.keys ps ∧ 8 ≤ ps.length))
    (h : RdP w B A n ps) (h' : Rd w B' A' n' (bv k)) (h'' : Rd w B'' A'' n'' (bv v)) :
    Calls Try.prog 40 #[.slice A n c, .slice A' n' c', .slice A'' n'' c''] w (GotPR w w ps (if 8 < k.length ∨ 16 < v.length then 1 else 3) [] 0) := by
  obtain rfl := h.length
  obtain rfl := h'.length
  obtain rfl := h''.length
  have H := Lib.hid h.fit
  have H' := Lib.hid h'.fit
  have H'' := Lib.hid h''.fit
  have HL := Lib.hid hL
  have HB := Lib.hid hb
  have HBK := Lib.hid hbk
  have b0 : Below w.heap.size w (w.alloc (.cells zeroR 34)) := (Below.refl _ _).alloc (Nat.le_refl _) _
  clear h h' h'' hL hb hbk
  by_cases h8 : 8 < k.length
  · rw [if_pos (.inl h8)]
    have h8i : (8 : Int) < (k.length : Int) := by omega
    clear hno
    go_enter Try.func40, Try.ntmps40
    go_wp2_with (first
      | (go_at_call 88; refine (copiedM_any (W := w) hn HL.out (H.out.below b0) b0).mono ?_; rintro e w1 ⟨g, rfl, ho1, hB1, hb1⟩; have HK := Lib.hid ((Blk.new w 34 zeroR).below hb1); obtain ⟨x0, x1, x2, f0, f1, f2⟩ := three HK.out)
      | fail)
    obtain ⟨k1, k2, k3⟩ := put3 HK.out (.int .i64 1) (.slice none 0 0) (.int .i64 0)
    refine bodyPost_ret (results_tmp_cell_row rfl _ _ _ _ _ _ rfl k1 Try.underlying34 rfl (by kernel_rfl)) rfl ?_
    have h3 := k2 w (Nat.le_refl _) hB1
    exact ⟨some ⟨g, 0, none⟩, _, none, 0, rfl, ho1.put3 HK.out (by decide) (by decide) _ _ _, own_nil _ _, h3, h3⟩
  · have h8i : ¬ (8 : Int) < (k.length : Int) := by omega
    by_cases h16 : 16 < v.length
    · rw [if_pos (.inr h16)]
      have h16i : (16 : Int) < (v.length : Int) := by omega
      clear hno
      go_enter Try.func40, Try.ntmps40
      go_wp2_with (first
        | (go_at_call 88; refine (copiedM_any (W := w) hn HL.out (H.out.below b0) b0).mono ?_; rintro e w1 ⟨g, rfl, ho1, hB1, hb1⟩; have HK := Lib.hid ((Blk.new w 34 zeroR).below hb1); obtain ⟨x0, x1, x2, f0, f1, f2⟩ := three HK.out)
        | fail)
      obtain ⟨k1, k2, k3⟩ := put3 HK.out (.int .i64 1) (.slice none 0 0) (.int .i64 0)
      refine bodyPost_ret (results_tmp_cell_row rfl _ _ _ _ _ _ rfl k1 Try.underlying34 rfl (by kernel_rfl)) rfl ?_
      have h3 := k2 w (Nat.le_refl _) hB1
      exact ⟨some ⟨g, 0, none⟩, _, none, 0, rfl, ho1.put3 HK.out (by decide) (by decide) _ _ _, own_nil _ _, h3, h3⟩
    · rw [if_neg (by omega)]
      have h16i : ¬ (16 : Int) < (v.length : Int) := by omega
      obtain ⟨hnk, hfull⟩ : k ∉ Mp.keys ps ∧ 8 ≤ ps.length := by rcases hno with h | h; omega; exact h
      have hfi : (8 : Int) ≤ (ps.length : Int) := by omega
      have HE := Lib.hid (show Mp.getE ps k = 5 from by unfold Mp.getE; rw [if_neg hnk])
      clear hno hnk
      go_enter Try.func40, Try.ntmps40
      go_wp2_with (first
        | (go_at_call 41; refine (get_any (W := w) hn HL.out HB.out HBK.out (H.out.below b0) (H'.out.below b0) b0).mono ?_; rw [HE.out]; rintro e w1 ⟨A1, c1, rfl, ho1, hB1, hb1⟩; unfold resV
           have hbd : Below w1.heap.size w1 (w1.alloc (.cells #[.int .i64 5, .slice A1 (Mp.getV ps k).length c1, .int .i64 0] 34)) := (Below.refl _ _).alloc (Nat.le_refl _) _)
        | (go_at_call 88; refine (copiedM_any (W := w) hn HL.out (H.out.below (hB1.alloc hB1.size _)) (hB1.alloc hB1.size _)).mono ?_; rintro e w2 ⟨g, rfl, ho2, hB2, hb2⟩; have HK := Lib.hid ((((Blk.new w 34 zeroR).below hb1).below hbd).below hb2); obtain ⟨x0, x1, x2, f0, f1, f2⟩ := three HK.out)
        | fail)
      obtain ⟨k1, k2, k3⟩ := put3 HK.out (.int .i64 3) (.slice none 0 0) (.int .i64 0)
      refine bodyPost_ret (results_tmp_cell_row rfl _ _ _ _ _ _ rfl k1 Try.underlying34 rfl (by kernel_rfl)) rfl ?_
      have h3 := k2 w (Nat.le_refl _) hB2
      exact ⟨some ⟨g, 0, none⟩, _, none, 0, rfl, ho2.put3 HK.out (by decide) (by decide) _ _ _, own_nil _ _, h3, h3⟩
set_option maxHeartbeats 4000000 in
set_option maxRecDepth 100000 in
theorem put_done {w : World} {ps : List Pr} {k v : List Nat} {A A' A'' : Option Addr} {n c n' c' n'' c'' B B' B'' : Nat} (hn : n ≤ 1000) (hL : LimP ps) (hb : BytesP ps) (hbk : ∀ x ∈ k, x < 256) (hr : Mp.Rises ps) (hlong : ¬ (8 < k.length ∨ 16 < v.length)) (hf : k ∈ Mp.keys ps ∨ ps.length < 8)
    (h : RdP w B A n ps) (h' : Rd w B' A' n' (bv k)) (h'' : Rd w B'' A'' n'' (bv v)) :
    Calls Try.prog 40 #[.slice A n c, .slice A' n' c', .slice A'' n'' c''] w (GotPR w w (Mp.putS ps k v) 0 (Mp.getV ps k) (((Mp.delS ps k).length + 1 : Nat) : Int)) := by
  obtain rfl := h.length
  obtain rfl := h'.length
  obtain rfl := h''.length
  have H := Lib.hid h.fit
  have H' := Lib.hid h'.fit
  have H'' := Lib.hid h''.fit
  have HL := Lib.hid hL
  have HB := Lib.hid hb
  have HBK := Lib.hid hbk
  have HR := Lib.hid hr
  have b0 : Below w.heap.size w (w.alloc (.cells zeroR 34)) := (Below.refl _ _).alloc (Nat.le_refl _) _
  have h8i : ¬ (8 : Int) < (k.length : Int) := by omega
  have h16i : ¬ (16 : Int) < (v.length : Int) := by omega
  have hlk : Lim 0 k.length := by unfold Lim; omega
  have hlv : Lim 0 v.length := by unfold Lim; omega
  have hn5 : ps.length ≤ 100000 := by omega
  obtain ⟨hm, _, _, _⟩ := Mp.put_made (v := v) hr hlong hf
  obtain ⟨D, hD⟩ : ∃ D, Mp.delS ps k = D := ⟨_, rfl⟩
  have hDl : D.length ≤ ps.length := by
    rw [← hD]; unfold Mp.delS; split
    · exact (List.eraseIdx_sublist ps _).length_le
    · exact Nat.le_refl _
  have hno := Mp.del_no (k := k) hr
  have hDb : BytesP D := by
    rw [← hD]; unfold Mp.delS; split
    · intro p hp; exact hb p ((List.eraseIdx_sublist ps _).subset hp)
    · exact hb
  rw [hD] at hm hno
  have hPl : (Mp.putS ps k v).length = D.length + 1 := by
    rw [← hm]; have := Mp.cut_le D k; simp; omega
  have HM := Lib.hid hm
  have HNO := Lib.hid hno
  have HD := Lib.hid hD
  have HDB := Lib.hid hDb
  have HPL := Lib.hid hPl
  have hDn : D.length ≤ 100000 := by omega
  rw [hD]
  clear h h' h'' hL hb hbk hr hlong hm hno hDb hD hPl
  by_cases hk : k ∈ Mp.keys ps
  · have HE := Lib.hid (show Mp.getE ps k = 0 from by unfold Mp.getE; rw [if_pos hk])
    clear hk hf
    go_enter Try.func40, Try.ntmps40
    go_wp2_with (first
      | (go_at_call 41; refine (get_any (W := w) hn5 HL.out HB.out HBK.out (H.out.below b0) (H'.out.below b0) b0).mono ?_; rw [HE.out]; rintro e w1 ⟨A1, c1, rfl, ho1, hB1, hb1⟩; unfold resV
         have hbd : Below w1.heap.size w1 (w1.alloc (.cells #[.int .i64 0, .slice A1 (Mp.getV ps k).length c1, .int .i64 0] 34)) := (Below.refl _ _).alloc (Nat.le_refl _) _
         have hBD := hB1.trans (hbd.mono hB1.size)
         have HK := Lib.hid (((Blk.new w 34 zeroR).below hb1).below hbd)
         have HW8 := Lib.hid (Blk.new w1 34 #[.int .i64 0, .slice A1 (Mp.getV ps k).length c1, .int .i64 0]))
      | (go_at_call 89; refine (withoutM_any (W := w1.alloc (.cells #[.int .i64 0, .slice A1 (Mp.getV ps k).length c1, .int .i64 0] 34)) hn5 HL.out HB.out HBK.out HR.out (H.out.below hBD) (H'.out.below hBD) (Below.refl _ _)).mono ?_; rw [HD.out]; rintro e w2 ⟨g, c2, rfl, hroom, ho2, hB2, _⟩)
      | (go_at_call 91; refine (placeM_any w2 hDn HDB.out HBK.out HNO.out ho2.rd (H'.out.below (hBD.trans (hB2.mono hBD.size)))).mono ?_; rintro e w3 ⟨rfl, hb3⟩; have hB3 := hB2.trans (hb3.mono hB2.size))
      | (go_at_call_of 80 A'; refine (clone_any (W := w1.alloc (.cells #[.int .i64 0, .slice A1 (Mp.getV ps k).length c1, .int .i64 0] 34)) hlk (H'.out.below (hBD.trans (hB3.mono hBD.size))) hB3).mono ?_; rintro e w4 ⟨A4, c4, rfl, ho4, hB4, hb4⟩)
      | (go_at_call_of 80 A''; refine (clone_any (W := w1.alloc (.cells #[.int .i64 0, .slice A1 (Mp.getV ps k).length c1, .int .i64 0] 34)) hlv (H''.out.below (hBD.trans (hB4.mono hBD.size))) hB4).mono ?_; rintro e w5 ⟨A5, c5, rfl, ho5, hB5, hb5⟩
         have b6 : Below w5.heap.size w5 (w5.alloc (.cells #[.slice A4 k.length c4, .slice A5 v.length c5] 42)) := (Below.refl _ _).alloc (Nat.le_refl _) _
         have ho2' := ((ho2.below hb3).below hb4).below hb5)
      | (go_at_call 90
         refine (insert_any (W := w1.alloc (.cells #[.int .i64 0, .slice A1 (Mp.getV ps k).length c1, .int .i64 0] 34)) hDn (Mp.cut_le D k) hroom (by obtain ⟨q, q1, _⟩ := ho2'; obtain ⟨_, q2, _⟩ := own_cur q1; have := q2.lt; omega) (ho2'.below b6) (Blk.new w5 42 #[.slice A4 k.length c4, .slice A5 v.length c5]) (own_below (own_below ho4 hb5) b6) (own_below ho5 b6) (hB5.trans (b6.mono hB5.size))).mono ?_
         rintro e w6 ⟨rfl, ho6, hB6⟩
         have HO6 := Lib.hid ho6
         have HBD := Lib.hid hBD
         have HB6 := Lib.hid hB6
         have HK6 := Lib.hid (HK.out.below hB6)
         have HW6 := Lib.hid (HW8.out.below hB6)
         have HV6 := Lib.hid (own_below (own_below ho1 hbd) hB6)
         clear ho6 hBD hB6 HK HW8 ho1 hbd hB1 hb1 ho2 hB2 hb3 hB3 ho4 hB4 hb4 ho5 hB5 hb5 b6 ho2' H H' H''
         obtain ⟨x0, x1, x2, f0, f1, f2⟩ := three HK6.out
         obtain ⟨y0, y1, y2, h0, h1, h2⟩ := three HW6.out)
      | fail)
    go_region
    go_wp2_with fail
    obtain ⟨k1, k2, k3⟩ := put3 HK6.out (.int .i64 0) (.slice A1 (Mp.getV ps k).length c1) (.int .i64 ((D.length : Int) + 1))
    refine bodyPost_ret (results_tmp_cell_row rfl _ _ _ _ _ _ rfl k1.drew Try.underlying34 rfl (by kernel_rfl)) rfl ?_
    have hB7 := HBD.out.trans (HB6.out.mono HBD.out.size)
    have h3 := (k2 w (Nat.le_refl _) hB7).drew
    have ho7 := (HO6.out.of HBD.out.size).put3 HK6.out (by decide) (by decide) (.int .i64 0) (.slice A1 (Mp.getV ps k).length c1) (.int .i64 ((D.length : Int) + 1))
    rw [HM.out] at ho7
    exact ⟨some ⟨g, 0, none⟩, c2, A1, c1, by rw [HPL.out]; push_cast; rfl, by rw [HPL.out]; exact ho7.below (Below.refl _ _).drew, own_below (k3 _ _ _ _ _ _ HV6.out (by decide)) (Below.refl _ _).drew, h3, h3⟩
  · have HE := Lib.hid (show Mp.getE ps k = 5 from by unfold Mp.getE; rw [if_neg hk])
    have h8n : ¬ (8 : Int) ≤ (ps.length : Int) := by rcases hf with h | h; exact absurd h hk; omega
    clear hk hf
    go_enter Try.func40, Try.ntmps40
    go_wp2_with (first
      | (go_at_call 41; refine (get_any (W := w) hn5 HL.out HB.out HBK.out (H.out.below b0) (H'.out.below b0) b0).mono ?_; rw [HE.out]; rintro e w1 ⟨A1, c1, rfl, ho1, hB1, hb1⟩; unfold resV
         have hbd : Below w1.heap.size w1 (w1.alloc (.cells #[.int .i64 5, .slice A1 (Mp.getV ps k).length c1, .int .i64 0] 34)) := (Below.refl _ _).alloc (Nat.le_refl _) _
         have hBD := hB1.trans (hbd.mono hB1.size)
         have HK := Lib.hid (((Blk.new w 34 zeroR).below hb1).below hbd)
         have HW8 := Lib.hid (Blk.new w1 34 #[.int .i64 5, .slice A1 (Mp.getV ps k).length c1, .int .i64 0]))
      | (go_at_call 89; refine (withoutM_any (W := w1.alloc (.cells #[.int .i64 5, .slice A1 (Mp.getV ps k).length c1, .int .i64 0] 34)) hn5 HL.out HB.out HBK.out HR.out (H.out.below hBD) (H'.out.below hBD) (Below.refl _ _)).mono ?_; rw [HD.out]; rintro e w2 ⟨g, c2, rfl, hroom, ho2, hB2, _⟩)
      | (go_at_call 91; refine (placeM_any w2 hDn HDB.out HBK.out HNO.out ho2.rd (H'.out.below (hBD.trans (hB2.mono hBD.size)))).mono ?_; rintro e w3 ⟨rfl, hb3⟩; have hB3 := hB2.trans (hb3.mono hB2.size))
      | (go_at_call_of 80 A'; refine (clone_any (W := w1.alloc (.cells #[.int .i64 5, .slice A1 (Mp.getV ps k).length c1, .int .i64 0] 34)) hlk (H'.out.below (hBD.trans (hB3.mono hBD.size))) hB3).mono ?_; rintro e w4 ⟨A4, c4, rfl, ho4, hB4, hb4⟩)
      | (go_at_call_of 80 A''; refine (clone_any (W := w1.alloc (.cells #[.int .i64 5, .slice A1 (Mp.getV ps k).length c1, .int .i64 0] 34)) hlv (H''.out.below (hBD.trans (hB4.mono hBD.size))) hB4).mono ?_; rintro e w5 ⟨A5, c5, rfl, ho5, hB5, hb5⟩
         have b6 : Below w5.heap.size w5 (w5.alloc (.cells #[.slice A4 k.length c4, .slice A5 v.length c5] 42)) := (Below.refl _ _).alloc (Nat.le_refl _) _
         have ho2' := ((ho2.below hb3).below hb4).below hb5)
      | (go_at_call 90
         refine (insert_any (W := w1.alloc (.cells #[.int .i64 5, .slice A1 (Mp.getV ps k).length c1, .int .i64 0] 34)) hDn (Mp.cut_le D k) hroom (by obtain ⟨q, q1, _⟩ := ho2'; obtain ⟨_, q2, _⟩ := own_cur q1; have := q2.lt; omega) (ho2'.below b6) (Blk.new w5 42 #[.slice A4 k.length c4, .slice A5 v.length c5]) (own_below (own_below ho4 hb5) b6) (own_below ho5 b6) (hB5.trans (b6.mono hB5.size))).mono ?_
         rintro e w6 ⟨rfl, ho6, hB6⟩
         have HO6 := Lib.hid ho6
         have HBD := Lib.hid hBD
         have HB6 := Lib.hid hB6
         have HK6 := Lib.hid (HK.out.below hB6)
         have HW6 := Lib.hid (HW8.out.below hB6)
         have HV6 := Lib.hid (own_below (own_below ho1 hbd) hB6)
         clear ho6 hBD hB6 HK HW8 ho1 hbd hB1 hb1 ho2 hB2 hb3 hB3 ho4 hB4 hb4 ho5 hB5 hb5 b6 ho2' H H' H''
         obtain ⟨x0, x1, x2, f0, f1, f2⟩ := three HK6.out
         obtain ⟨y0, y1, y2, h0, h1, h2⟩ := three HW6.out)
      | fail)
    go_region
    go_wp2_with fail
    obtain ⟨k1, k2, k3⟩ := put3 HK6.out (.int .i64 0) (.slice A1 (Mp.getV ps k).length c1) (.int .i64 ((D.length : Int) + 1))
    refine bodyPost_ret (results_tmp_cell_row rfl _ _ _ _ _ _ rfl k1.drew Try.underlying34 rfl (by kernel_rfl)) rfl ?_
    have hB7 := HBD.out.trans (HB6.out.mono HBD.out.size)
    have h3 := (k2 w (Nat.le_refl _) hB7).drew
    have ho7 := (HO6.out.of HBD.out.size).put3 HK6.out (by decide) (by decide) (.int .i64 0) (.slice A1 (Mp.getV ps k).length c1) (.int .i64 ((D.length : Int) + 1))
    rw [HM.out] at ho7
    exact ⟨some ⟨g, 0, none⟩, c2, A1, c1, by rw [HPL.out]; push_cast; rfl, by rw [HPL.out]; exact ho7.below (Below.refl _ _).drew, own_below (k3 _ _ _ _ _ _ HV6.out (by decide)) (Below.refl _ _).drew, h3, h3⟩
theorem putC7 : PutC7 := fun {W w ps k v A A' A'' n c n' c' n'' c'' B B' B''} hnc hI hk hv hn' hn'' h h' h'' hB => by
  have hn : n ≤ 8 := by have := h.length; have := hI.few; omega
  by_cases hlong : 8 < k.length ∨ 16 < v.length
  · have := put_refused (c := c) (c' := c') (c'' := c'') (by omega) (inv_lim hI) hI.byt hk (.inl hlong) h h' h''
    rw [if_pos hlong] at this
    have e1 : Mp.putS ps k v = ps := by unfold Mp.putS; rw [if_pos hlong]
    have e2 : Mp.putE ps k v = 1 := by unfold Mp.putE; rw [if_pos hlong]
    have e3 : Mp.putV ps k v = [] := by unfold Mp.putV; rw [if_pos hlong]
    have e4 : Mp.putN ps k v = 0 := by unfold Mp.putN; rw [if_pos hlong]
    rw [e1, e2, e3, e4]
    exact this.mono fun e w' h => GotPR.of hB h
  · by_cases hf : k ∉ Mp.keys ps ∧ 8 ≤ ps.length
    · have := put_refused (c := c) (c' := c') (c'' := c'') (by omega) (inv_lim hI) hI.byt hk (.inr hf) h h' h''
      rw [if_neg hlong] at this
      have e1 : Mp.putS ps k v = ps := by unfold Mp.putS; rw [if_neg hlong, if_neg hf.1, if_pos hf.2]
      have e2 : Mp.putE ps k v = 3 := by unfold Mp.putE; rw [if_neg hlong, if_neg hf.1, if_pos hf.2]
      have e3 : Mp.putV ps k v = [] := by unfold Mp.putV; rw [if_neg hlong, if_neg hf.1]
      have e4 : Mp.putN ps k v = 0 := by unfold Mp.putN; rw [if_neg hlong, if_neg hf.1, if_pos hf.2]
      rw [e1, e2, e3, e4]
      exact this.mono fun e w' h => GotPR.of hB h
    · have hf' : k ∈ Mp.keys ps ∨ ps.length < 8 := by
        by_cases hk : k ∈ Mp.keys ps
        · exact .inl hk
        · refine .inr ?_
          rcases Nat.lt_or_ge ps.length 8 with h | h
          · exact h
          · exact absurd ⟨hk, h⟩ hf
      obtain ⟨_, e2, e3, e4⟩ := Mp.put_made (v := v) hI.rise hlong hf'
      rw [e2, e3, e4]
      exact (put_done (c := c) (c' := c') (c'' := c'') (by omega) (inv_lim hI) hI.byt hk hI.rise hlong hf' h h' h'').mono fun e w' h => GotPR.of hB h
end Go.Proofs.Ytcmjpjhaaookfaa
namespace Go.Proofs.Ytcmjpjhaaookfaa
open Go.RowKit
set_option linter.unusedVariables false
/-- the variables of Apply: s, c, the two answers', next -/
structure VarsN (w wx : World) (b h : Nat) (a0 : OA) (s0 : Ob) (a : OA) (s : Ob) (ca : CA) (c : Cm) : Prop where
  vs : Blk wx b 32 (objC a0 s0)
  vc : Blk wx (b + 1) 24 (cmdC ca c)
  v2 : Blk wx (b + 1 + 1) 32 #[.slice none 0 0, .slice none 0 0, .slice none 0 0, .slice none 0 0]
  v3 : Blk wx (b + 1 + 1 + 1) 34 zeroR
  nx : Blk wx h 32 (objC a s)
  own : OwnO w wx a s
  bel : Below w.heap.size w wx
  lt : b + 1 + 1 + 1 < h
theorem VarsN.below {w wx wy : World} {b h : Nat} {a0 a : OA} {s0 s : Ob} {ca : CA} {c : Cm} (H : VarsN w wx b h a0 s0 a s ca c) (hb : Below wx.heap.size wx wy) : VarsN w wy b h a0 s0 a s ca c :=
  ⟨H.vs.below hb, H.vc.below hb, H.v2.below hb, H.v3.below hb, H.nx.below hb, H.own.below hb, H.bel.trans (hb.mono H.bel.size), H.lt⟩
section
variable {w wx : World} {b h g : Nat} {a0 a : OA} {s0 s : Ob} {ca : CA} {c : Cm} {x0 x1 x2 : Value}
/-- one cell of the answer's variable is written -/
theorem VarsN.res0 (H : VarsN w wx b h a0 s0 a s ca c) (hw : w.heap.size ≤ g) (hk : Blk wx g 34 #[x0, x1, x2]) (hg : g ≠ b + 1 + 1 + 1) (x : Value) :
    VarsN w (wx.setCell ⟨g, 0, none⟩ x) b h a0 s0 a s ca c ∧ Blk (wx.setCell ⟨g, 0, none⟩ x) g 34 #[x, x1, x2] := by
  have q1 : 5 ≠ 34 := by decide
  have q2 : 22 ≠ 34 := by decide
  have q3 : 3 ≠ 34 := by decide
  have q4 : 42 ≠ 34 := by decide
  have n0 : b ≠ g := H.vs.apart hk (by decide)
  have n1 : b + 1 ≠ g := H.vc.apart hk (by decide)
  have n2 : b + 1 + 1 ≠ g := H.v2.apart hk (by decide)
  have n3 : h ≠ g := H.nx.apart hk (by decide)
  exact ⟨⟨H.vs.set_other n0, H.vc.set_other n1, H.v2.set_other n2, H.v3.set_other hg.symm, H.nx.set_other n3,
    H.own.set_t hk q1 q2 q3 q4, H.bel.setCell (p := ⟨g, 0, none⟩) hw _, H.lt⟩, hk.set_ 0 x⟩
/-- the answer's variable is written -/
theorem VarsN.res (H : VarsN w wx b h a0 s0 a s ca c) (hw : w.heap.size ≤ g) (hk : Blk wx g 34 #[x0, x1, x2]) (hg : g ≠ b + 1 + 1 + 1) (x y z : Value) :
    VarsN w (((wx.setCell ⟨g, 0, none⟩ x).setCell ⟨g, 1, none⟩ y).setCell ⟨g, 2, none⟩ z) b h a0 s0 a s ca c ∧ Blk (((wx.setCell ⟨g, 0, none⟩ x).setCell ⟨g, 1, none⟩ y).setCell ⟨g, 2, none⟩ z) g 34 #[x, y, z] := by
  have q1 : 5 ≠ 34 := by decide
  have q2 : 22 ≠ 34 := by decide
  have q3 : 3 ≠ 34 := by decide
  have q4 : 42 ≠ 34 := by decide
  have n0 : b ≠ g := H.vs.apart hk (by decide)
  have n1 : b + 1 ≠ g := H.vc.apart hk (by decide)
  have n2 : b + 1 + 1 ≠ g := H.v2.apart hk (by decide)
  have n3 : h ≠ g := H.nx.apart hk (by decide)
  have k1 := hk.set_ 0 x
  have k2 := k1.set_ 1 y
  exact ⟨⟨((H.vs.set_other n0).set_other n0).set_other n0, ((H.vc.set_other n1).set_other n1).set_other n1, ((H.v2.set_other n2).set_other n2).set_other n2, ((H.v3.set_other hg.symm).set_other hg.symm).set_other hg.symm, ((H.nx.set_other n3).set_other n3).set_other n3,
    ((H.own.set_t hk q1 q2 q3 q4).set_t k1 q1 q2 q3 q4).set_t k2 q1 q2 q3 q4, ((H.bel.setCell (p := ⟨g, 0, none⟩) hw _).setCell (p := ⟨g, 1, none⟩) hw _).setCell (p := ⟨g, 2, none⟩) hw _, H.lt⟩, k2.set_ 2 z⟩
/-- next is written -/
theorem VarsN.set (H : VarsN w wx b h a0 s0 a s ca c) (hw : w.heap.size ≤ b) (i : Nat) (u : Value) {a' : OA} {s' : Ob} (hc : (objC a s).setIfInBounds i u = objC a' s') (ho : OwnO w wx a' s') : VarsN w (wx.setCell ⟨h, i, none⟩ u) b h a0 s0 a' s' ca c := by
  have q1 : 5 ≠ 32 := by decide
  have k1 := H.nx.set_ i u
  rw [hc] at k1
  have hl := H.lt
  have hwh : w.heap.size ≤ h := by omega
  exact ⟨H.vs.set_other (by omega), H.vc.set_other (by omega), H.v2.set_other (by omega), H.v3.set_other (by omega), k1, ho.set_t H.nx q1 (by decide) (by decide) (by decide), H.bel.setCell (p := ⟨h, i, none⟩) hwh _, hl⟩
/-- the walk's end behind a call that only answers -/
theorem VarsN.done (H : VarsN w wx b h a0 s0 a s ca c) (hk : Blk wx g 34 #[x0, x1, x2]) (hg : h ≠ g ∧ w.heap.size ≤ g ∧ g ≠ b + 1 + 1 + 1) {Ar : Option Addr} {cr : Nat} {v : List Nat} {e n : Int} (hv : OwnB w wx Ar v.length cr v) {r : Ans} (hr : r = ⟨s, e, v, n⟩) :
    ∃ a' Ar' cr', Hid (VarsN w (((wx.setCell ⟨g, 0, none⟩ (.int .i64 e)).setCell ⟨g, 1, none⟩ (.slice Ar v.length cr)).setCell ⟨g, 2, none⟩ (.int .i64 n)) b h a0 s0 a' r.s ca c) ∧
      Hid (Blk (((wx.setCell ⟨g, 0, none⟩ (.int .i64 e)).setCell ⟨g, 1, none⟩ (.slice Ar v.length cr)).setCell ⟨g, 2, none⟩ (.int .i64 n)) g 34 #[.int .i64 r.e, .slice Ar' r.v.length cr', .int .i64 r.n]) ∧
      Hid (OwnB w (((wx.setCell ⟨g, 0, none⟩ (.int .i64 e)).setCell ⟨g, 1, none⟩ (.slice Ar v.length cr)).setCell ⟨g, 2, none⟩ (.int .i64 n)) Ar' r.v.length cr' r.v) := by
  subst hr
  obtain ⟨q1, q2⟩ := H.res hg.2.1 hk hg.2.2 (.int .i64 e) (.slice Ar v.length cr) (.int .i64 n)
  exact ⟨a, Ar, cr, Lib.hid q1, Lib.hid q2, Lib.hid (own_res hv hk _ _ _)⟩
/-- .. that makes one of the objects anew -/
theorem VarsN.doneSet (H : VarsN w wx b h a0 s0 a s ca c) (hk : Blk wx g 34 #[x0, x1, x2]) (hg : h ≠ g ∧ w.heap.size ≤ g ∧ g ≠ b + 1 + 1 + 1) (hw : w.heap.size ≤ b) (i : Nat) (u : Value) (a' : OA) (s' : Ob) (hc : (objC a s).setIfInBounds i u = objC a' s') (ho : OwnO w wx a' s')
    {Ar : Option Addr} {cr : Nat} {v : List Nat} {e n : Int} (hv : OwnB w wx Ar v.length cr v) {r : Ans} (hr : r = ⟨s', e, v, n⟩) :
    ∃ a' Ar' cr', Hid (VarsN w ((((wx.setCell ⟨h, i, none⟩ u).setCell ⟨g, 0, none⟩ (.int .i64 e)).setCell ⟨g, 1, none⟩ (.slice Ar v.length cr)).setCell ⟨g, 2, none⟩ (.int .i64 n)) b h a0 s0 a' r.s ca c) ∧
      Hid (Blk ((((wx.setCell ⟨h, i, none⟩ u).setCell ⟨g, 0, none⟩ (.int .i64 e)).setCell ⟨g, 1, none⟩ (.slice Ar v.length cr)).setCell ⟨g, 2, none⟩ (.int .i64 n)) g 34 #[.int .i64 r.e, .slice Ar' r.v.length cr', .int .i64 r.n]) ∧
      Hid (OwnB w ((((wx.setCell ⟨h, i, none⟩ u).setCell ⟨g, 0, none⟩ (.int .i64 e)).setCell ⟨g, 1, none⟩ (.slice Ar v.length cr)).setCell ⟨g, 2, none⟩ (.int .i64 n)) Ar' r.v.length cr' r.v) :=
  VarsN.done (H.set hw i u hc ho) (hk.set_other hg.1.symm) hg (own_set_t hv H.nx (by decide)) hr
/-- the two answers' variables are written -/
theorem VarsN.end_ (H : VarsN w wx b h a0 s0 a s ca c) (hw : w.heap.size ≤ b) {Ar : Option Addr} {cr n : Nat} {v : List Nat} (hv : OwnB w wx Ar n cr v) (x0 x1 x2 x3 y0 y1 y2 : Value) :
    let wy := (((((((wx.setCell ⟨b + 1 + 1, 0, none⟩ x0).setCell ⟨b + 1 + 1, 1, none⟩ x1).setCell ⟨b + 1 + 1, 2, none⟩ x2).setCell ⟨b + 1 + 1, 3, none⟩ x3).setCell ⟨b + 1 + 1 + 1, 0, none⟩ y0).setCell ⟨b + 1 + 1 + 1, 1, none⟩ y1).setCell ⟨b + 1 + 1 + 1, 2, none⟩ y2)
    Blk wy (b + 1 + 1) 32 #[x0, x1, x2, x3] ∧ Blk wy (b + 1 + 1 + 1) 34 #[y0, y1, y2] ∧ OwnO w wy a s ∧ OwnB w wy Ar n cr v ∧ Below w.heap.size w wy := by
  intro wy
  have k0 := H.v2
  have k1 := k0.set_ 0 x0
  have k2 := k1.set_ 1 x1
  have k3 := k2.set_ 2 x2
  have k4 := k3.set_ 3 x3
  have l0 := (((H.v3.set_other (i := 0) (u := x0) (b := b + 1 + 1) (by omega)).set_other (i := 1) (u := x1) (b := b + 1 + 1) (by omega)).set_other (i := 2) (u := x2) (b := b + 1 + 1) (by omega)).set_other (i := 3) (u := x3) (b := b + 1 + 1) (by omega)
  have l1 := l0.set_ 0 y0
  have l2 := l1.set_ 1 y1
  have l3 := l2.set_ 2 y2
  have q1 : 5 ≠ 32 := by decide
  have q2 : 22 ≠ 32 := by decide
  have q3 : 3 ≠ 32 := by decide
  have q4 : 42 ≠ 32 := by decide
  have r1 : 5 ≠ 34 := by decide
  have r2 : 22 ≠ 34 := by decide
  have r3 : 3 ≠ 34 := by decide
  have r4 : 42 ≠ 34 := by decide
  have hw2 : w.heap.size ≤ b + 1 + 1 := by omega
  have hw3 : w.heap.size ≤ b + 1 + 1 + 1 := by omega
  refine ⟨((k4.set_other (i := 0) (u := y0) (b := b + 1 + 1 + 1) (by omega)).set_other (i := 1) (u := y1) (b := b + 1 + 1 + 1) (by omega)).set_other (i := 2) (u := y2) (b := b + 1 + 1 + 1) (by omega), l3,
    ((((((H.own.set_t k0 q1 q2 q3 q4).set_t k1 q1 q2 q3 q4).set_t k2 q1 q2 q3 q4).set_t k3 q1 q2 q3 q4).set_t l0 r1 r2 r3 r4).set_t l1 r1 r2 r3 r4).set_t l2 r1 r2 r3 r4,
    own_set_t (own_set_t (own_set_t (own_set_t (own_set_t (own_set_t (own_set_t hv k0 q1) k1 q1) k2 q1) k3 q1) l0 r1) l1 r1) l2 r1,
    ((((((H.bel.setCell (p := ⟨b + 1 + 1, 0, none⟩) hw2 _).setCell (p := ⟨b + 1 + 1, 1, none⟩) hw2 _).setCell (p := ⟨b + 1 + 1, 2, none⟩) hw2 _).setCell (p := ⟨b + 1 + 1, 3, none⟩) hw2 _).setCell (p := ⟨b + 1 + 1 + 1, 0, none⟩) hw3 _).setCell (p := ⟨b + 1 + 1 + 1, 1, none⟩) hw3 _).setCell (p := ⟨b + 1 + 1 + 1, 2, none⟩) hw3 _⟩
end
/-- a command that can't be handed on -/
theorem Ob.apply_bad {s : Ob} {c : Cm} (h : c.known = false) : s.apply c = ⟨s, 7, [], 0⟩ := by
  have h := of_decide_eq_false h
  unfold Ob.apply
  rw [if_neg (by omega), if_neg (by omega), if_neg (by omega), if_neg (by omega), if_neg (by omega), if_neg (by omega), if_neg (by omega), if_neg (by omega), if_neg (by omega), if_neg (by omega), if_neg (by omega)]
set_option maxHeartbeats 8000000 in
set_option maxRecDepth 100000 in
theorem apply8_raw {w : World} {a : OA} {ca : CA} {s : Ob} {c : Cm} {B B' : Nat} (hI : s.Inv) (hc : c.Fits) (h : RdO w B a s) (h' : RdC w B' ca c) :
    Calls Try.prog 12 #[objV a s, cmdV ca c] w (GotO w w (s.apply c)) := by
  obtain ⟨A0, c0, A1, c1, A2, c2, A3, c3⟩ := a
  obtain ⟨Ak, ck, Av, cv, Ao, co⟩ := ca
  have HI := Lib.hid hI
  have HF := Lib.hid hc
  obtain ⟨b, hb⟩ : ∃ b, w.heap.size = b := ⟨_, rfl⟩
  obtain ⟨wz, hwz⟩ : ∃ wz, (((w.alloc (.cells (objC ⟨A0, c0, A1, c1, A2, c2, A3, c3⟩ s) 32)).alloc (.cells (cmdC ⟨Ak, ck, Av, cv, Ao, co⟩ c) 24)).alloc (.cells #[.slice none 0 0, .slice none 0 0, .slice none 0 0, .slice none 0 0] 32)).alloc (.cells zeroR 34) = wz := ⟨_, rfl⟩
  have hbz : Below w.heap.size w wz := by
    rw [← hwz]; exact ((((Below.refl _ _).alloc (Nat.le_refl _) _).alloc (by simp) _).alloc (by simp; omega) _).alloc (by simp; omega) _
  have H := Lib.hid ((h.fit.below hbz).fit)
  have H' := Lib.hid ((h'.fit.below hbz).fit)
  have HC0 := Lib.hid h'.fit
  have HS0 := Lib.hid h.fit
  have HBZ := Lib.hid hbz
  have HV : Hid (Blk wz b 32 (objC ⟨A0, c0, A1, c1, A2, c2, A3, c3⟩ s) ∧ Blk wz (b + 1) 24 (cmdC ⟨Ak, ck, Av, cv, Ao, co⟩ c) ∧ Blk wz (b + 1 + 1) 32 #[.slice none 0 0, .slice none 0 0, .slice none 0 0, .slice none 0 0] ∧ Blk wz (b + 1 + 1 + 1) 34 zeroR) := Lib.hid (by
    subst hb
    rw [← hwz]
    refine ⟨(((Blk.new _ _ _).alloc _).alloc _).alloc _, ?_, ?_, ?_⟩
    · have := ((Blk.new (w.alloc (.cells (objC ⟨A0, c0, A1, c1, A2, c2, A3, c3⟩ s) 32)) 24 (cmdC ⟨Ak, ck, Av, cv, Ao, co⟩ c)).alloc (.cells #[.slice none 0 0, .slice none 0 0, .slice none 0 0, .slice none 0 0] 32)).alloc (.cells zeroR 34)
      rwa [World.size_alloc] at this
    · have := (Blk.new ((w.alloc (.cells (objC ⟨A0, c0, A1, c1, A2, c2, A3, c3⟩ s) 32)).alloc (.cells (cmdC ⟨Ak, ck, Av, cv, Ao, co⟩ c) 24)) 32 #[.slice none 0 0, .slice none 0 0, .slice none 0 0, .slice none 0 0]).alloc (.cells zeroR 34)
      rwa [World.size_alloc, World.size_alloc] at this
    · have := Blk.new (((w.alloc (.cells (objC ⟨A0, c0, A1, c1, A2, c2, A3, c3⟩ s) 32)).alloc (.cells (cmdC ⟨Ak, ck, Av, cv, Ao, co⟩ c) 24)).alloc (.cells #[.slice none 0 0, .slice none 0 0, .slice none 0 0, .slice none 0 0] 32)) 34 zeroR
      rwa [World.size_alloc, World.size_alloc, World.size_alloc] at this)
  have HW := Lib.hid hwz
  have HBB := Lib.hid hb
  clear h h' hI hc hbz hwz hb
  unfold objV cmdV
  simp only [objC, cmdC] at HW ⊢
  go_enter Try.func12, Try.ntmps12
  go_upto_region 1 with fail
  rw [HBB.out]
  rw [HW.out]
  have hv := HV.out.1
  simp only [objC] at hv
  obtain ⟨p0, p1, p2, p3, _, _, _, _⟩ := four hv
  clear hv
  go_upto_region 3 with (first
    | (go_at_call 30; refine (copied8 (W := w) (a := ⟨A0, c0, A1, c1, A2, c2, A3, c3⟩) HI.out H.out HBZ.out).mono ?_; rintro e w1 ⟨⟨A5, c5, A6, c6, A7, c7, A8, c8⟩, rfl, ho1, hB1, hb1⟩; unfold objV; simp only [objC])
    | fail)
  have HWB := Lib.hid (show w.heap.size ≤ b by have := HBB.out; omega)
  obtain ⟨h, hh⟩ : ∃ x, w1.heap.size = x := ⟨_, rfl⟩
  have hb2 : Below w1.heap.size w1 (w1.alloc (.cells #[.slice A5 s.reg.length c5, .slice A6 s.q.length c6, .slice A7 s.lk.length c7, .slice A8 s.mp.length c8] 32)) := (Below.refl _ _).alloc (Nat.le_refl _) _
  have hb3 := hb2.alloc (Nat.le_of_lt (by simp)) (.cells zeroR 34)
  have HX3 : Hid (VarsN w ((w1.alloc (.cells #[.slice A5 s.reg.length c5, .slice A6 s.q.length c6, .slice A7 s.lk.length c7, .slice A8 s.mp.length c8] 32)).alloc (.cells zeroR 34)) b h ⟨A0, c0, A1, c1, A2, c2, A3, c3⟩ s ⟨A5, c5, A6, c6, A7, c7, A8, c8⟩ s ⟨Ak, ck, Av, cv, Ao, co⟩ c) := Lib.hid (by
    have hbb := hb1.trans (hb3.mono hb1.size)
    have k1 := HV.out.2.2.2.lt
    have k2 := hb1.size
    refine ⟨HV.out.1.below hbb, HV.out.2.1.below hbb, HV.out.2.2.1.below hbb, HV.out.2.2.2.below hbb, ?_, ho1.below hb3, hB1.trans (hb3.mono hB1.size), by omega⟩
    rw [← hh]
    exact (Blk.new _ _ _).alloc _)
  have HK3 : Hid (Blk ((w1.alloc (.cells #[.slice A5 s.reg.length c5, .slice A6 s.q.length c6, .slice A7 s.lk.length c7, .slice A8 s.mp.length c8] 32)).alloc (.cells zeroR 34)) (h + 1) 34 zeroR) := Lib.hid (by
    have := Blk.new (w1.alloc (.cells #[.slice A5 s.reg.length c5, .slice A6 s.q.length c6, .slice A7 s.lk.length c7, .slice A8 s.mp.length c8] 32)) 34 zeroR
    rwa [World.size_alloc, hh] at this)
  have HGB : Hid (h ≠ h + 1 ∧ w.heap.size ≤ h + 1 ∧ h + 1 ≠ b + 1 + 1 + 1) := Lib.hid (by have h1 := HX3.out.lt; have h3 := HWB.out; omega)
  rw [hh]
  obtain ⟨w3, hw3⟩ : ∃ x, (w1.alloc (.cells #[.slice A5 s.reg.length c5, .slice A6 s.q.length c6, .slice A7 s.lk.length c7, .slice A8 s.mp.length c8] 32)).alloc (.cells zeroR 34) = x := ⟨_, rfl⟩
  rw [hw3] at HX3 HK3 ⊢
  have HHG := Lib.hid (show h + 1 = h + 1 from rfl)
  obtain ⟨g, hg⟩ : ∃ x, h + 1 = x := ⟨_, rfl⟩
  rw [hg] at HK3 HGB ⊢
  clear hw3 hb1 hb2 hb3 ho1 hB1 hh hg HHG H H' HV HW HBZ p0 p1 p2 p3
  have hy := HX3.out.vc
  simp only [cmdC] at hy
  obtain ⟨y0, y1, y2, y3, y4⟩ := five hy
  clear hy
  have hkn : ∀ w, Calls Try.prog 31 #[.agg #[.int .i64 c.kind, .int .i64 c.who, .slice Ak c.key.length ck, .slice Av c.val.length cv, .slice Ao c.old.length co]] w fun e w' => e = .returned (.bool c.known) ∧ Below w.heap.size w w' := fun w => isKnown_any w ⟨Ak, ck, Av, cv, Ao, co⟩ c
  have hgh : g ≠ h := HGB.out.1.symm
  have hhg : h ≠ g := HGB.out.1
  cases hq : c.known with
  | false =>
    rw [hq] at hkn
    have HKN := Lib.hid hkn
    have HQ0 := Lib.hid (Ob.apply_bad (s := s) hq)
    clear hkn hq
    go_upto_region 5 with (first
      | (go_at_call 31; refine (HKN.out _).mono ?_; rintro e w4 ⟨rfl, hb4⟩; have HX4 := Lib.hid (HX3.out.below hb4); have HK4 := Lib.hid (HK3.out.below hb4); obtain ⟨z0, z1, z2, d0, d1, d2⟩ := three HK4.out)
      | fail)
    have hrr := HX4.out.res0 HGB.out.2.1 HK4.out HGB.out.2.2 (.int .i64 7)
    obtain ⟨r, hr⟩ : ∃ r, s.apply c = r := ⟨_, rfl⟩
    have hr2 : r = ⟨s, 7, [], 0⟩ := hr.symm.trans HQ0.out
    obtain ⟨w5, hw5⟩ : ∃ x, w4.setCell ⟨g, 0, none⟩ (.int .i64 7) = x := ⟨_, rfl⟩
    rw [hw5] at hrr ⊢
    have HX5 : Hid (VarsN w w5 b h ⟨A0, c0, A1, c1, A2, c2, A3, c3⟩ s ⟨A5, c5, A6, c6, A7, c7, A8, c8⟩ r.s ⟨Ak, ck, Av, cv, Ao, co⟩ c) := Lib.hid (by rw [hr2]; exact hrr.1)
    have HK5 : Hid (Blk w5 g 34 #[.int .i64 r.e, .slice none r.v.length 0, .int .i64 r.n]) := Lib.hid (by rw [hr2]; exact hrr.2)
    have HV5 : Hid (OwnB w w5 none r.v.length 0 r.v) := Lib.hid (by rw [hr2]; exact own_nil _ _)
    have HR := Lib.hid hr
    have hsl : s = r.s := by rw [hr2]
    obtain ⟨A5', h5⟩ : ∃ x, A5 = x := ⟨_, rfl⟩
    obtain ⟨A6', h6⟩ : ∃ x, A6 = x := ⟨_, rfl⟩
    obtain ⟨A7', h7⟩ : ∃ x, A7 = x := ⟨_, rfl⟩
    obtain ⟨A8', h8⟩ : ∃ x, A8 = x := ⟨_, rfl⟩
    obtain ⟨c5', k5⟩ : ∃ x, c5 = x := ⟨_, rfl⟩
    obtain ⟨c6', k6⟩ : ∃ x, c6 = x := ⟨_, rfl⟩
    obtain ⟨c7', k7⟩ : ∃ x, c7 = x := ⟨_, rfl⟩
    obtain ⟨c8', k8⟩ : ∃ x, c8 = x := ⟨_, rfl⟩
    rw [h5, h6, h7, h8, k5, k6, k7, k8] at HX5
    obtain ⟨Ar, hAr⟩ : ∃ x : Option Addr, none = x := ⟨_, rfl⟩
    obtain ⟨cr, hcr⟩ : ∃ x : Nat, 0 = x := ⟨_, rfl⟩
    rw [hAr, hcr] at HK5 HV5
    obtain ⟨v0, v1, v2, v3, e0, e1, e2, e3⟩ := four HX5.out.v2
    obtain ⟨t0, t1, t2, d0, d1, d2⟩ := three HX5.out.v3
    have hx := HX5.out.nx
    simp only [objC] at hx
    obtain ⟨p0, p1, p2, p3, _, _, _, _⟩ := four hx
    obtain ⟨z0, z1, z2, _, _, _⟩ := three HK5.out
    have n1 : ¬ g = b + 1 + 1 := fun e => HX5.out.v2.apart HK5.out (by decide) e.symm
    have n2 : ¬ g = b + 1 + 1 + 1 := HGB.out.2.2
    clear hrr hw5 hr hr2 hsl h5 h6 h7 h8 k5 k6 k7 k8 hAr hcr hx HX3 HK3 HX4 HK4 hb4 HQ0 HKN HC0 HS0 HI HF y0 y1 y2 y3 y4 hgh hhg
    refine wp_region_held_drew (S := fun w' => Blk w' h 32 #[.slice A5' r.s.reg.length c5', .slice A6' r.s.q.length c6', .slice A7' r.s.lk.length c7', .slice A8' r.s.mp.length c8'] ∧ Blk w' g 34 #[.int .i64 r.e, .slice Ar r.v.length cr, .int .i64 r.n]) (by kernel_rfl) ⟨HX5.out.nx.drew, HK5.out.drew⟩ (fun _ => ?_)
    have hl := HX5.out.lt
    have HX6 := Lib.hid (HX5.out.below (Below.refl _ _).drew)
    have HV6 := Lib.hid (own_below HV5.out (Below.refl w5.heap.size w5).drew)
    have HS := Lib.hid (And.intro HX5.out.nx.drew HK5.out.drew)
    simp only [objC] at HS
    clear HX5 HK5 HV5 p0 p1 p2 p3 z0 z1 z2 v0 v1 v2 v3 e0 e1 e2 e3 t0 t1 t2 d0 d1 d2
    generalize w5.drew = w6 at HX6 HV6 HS ⊢
    obtain ⟨v0, v1, v2, v3, e0, e1, e2, e3⟩ := four HX6.out.v2
    refine wpAnyH_take (i := 0) (v := .agg #[.slice A5' r.s.reg.length c5', .slice A6' r.s.q.length c6', .slice A7' r.s.lk.length c7', .slice A8' r.s.mp.length c8']) rfl (by kernel_rfl) (by kernel_rfl) (by kernel_rfl) (fun _ _ _ h => h) (Or.inl ⟨by kernel_rfl, fun w h => by obtain ⟨p0, p1, p2, p3, _, _, _, _⟩ := four h.1; go_simp⟩) HS.out ?_
    refine wpAnyH_take (i := 1) (v := .agg #[.int .i64 r.e, .slice Ar r.v.length cr, .int .i64 r.n]) rfl (by kernel_rfl) (by kernel_rfl) (by kernel_rfl) (fun _ _ _ h => h) (Or.inl ⟨by kernel_rfl, fun w h => by obtain ⟨p0, p1, p2, _, _, _⟩ := three h.2; go_simp⟩) HS.out ?_
    have HS2 := Lib.hid (show Blk ((((w6.setCell ⟨b + 1 + 1, 0, none⟩ (.slice A5' r.s.reg.length c5')).setCell ⟨b + 1 + 1, 1, none⟩ (.slice A6' r.s.q.length c6')).setCell ⟨b + 1 + 1, 2, none⟩ (.slice A7' r.s.lk.length c7')).setCell ⟨b + 1 + 1, 3, none⟩ (.slice A8' r.s.mp.length c8')) h 32 #[.slice A5' r.s.reg.length c5', .slice A6' r.s.q.length c6', .slice A7' r.s.lk.length c7', .slice A8' r.s.mp.length c8'] ∧ Blk ((((w6.setCell ⟨b + 1 + 1, 0, none⟩ (.slice A5' r.s.reg.length c5')).setCell ⟨b + 1 + 1, 1, none⟩ (.slice A6' r.s.q.length c6')).setCell ⟨b + 1 + 1, 2, none⟩ (.slice A7' r.s.lk.length c7')).setCell ⟨b + 1 + 1, 3, none⟩ (.slice A8' r.s.mp.length c8')) g 34 #[.int .i64 r.e, .slice Ar r.v.length cr, .int .i64 r.n] from
      ⟨(((HS.out.1.set_other (by omega)).set_other (by omega)).set_other (by omega)).set_other (by omega), (((HS.out.2.set_other n1).set_other n1).set_other n1).set_other n1⟩)
    refine wpAnyH_ready (rs := [2]) (by kernel_rfl) (by simp) ?_
    refine AllReadyH.cons rfl (fun K hK => ?_) AllReadyH.nil
    go_simp
    refine hK.out _ _ HS2.out (fun _ => ?_)
    clear hK K v0 v1 v2 v3 e0 e1 e2 e3
    obtain ⟨t0, t1, t2, d0, d1, d2⟩ := three ((((HX6.out.v3.set_other (i := 0) (u := .slice A5' r.s.reg.length c5') (b := b + 1 + 1) (by omega)).set_other (i := 1) (u := .slice A6' r.s.q.length c6') (b := b + 1 + 1) (by omega)).set_other (i := 2) (u := .slice A7' r.s.lk.length c7') (b := b + 1 + 1) (by omega)).set_other (i := 3) (u := .slice A8' r.s.mp.length c8') (b := b + 1 + 1) (by omega))
    obtain ⟨q1, q2, q3, q4, q5⟩ := HX6.out.end_ HWB.out HV6.out (.slice A5' r.s.reg.length c5') (.slice A6' r.s.q.length c6') (.slice A7' r.s.lk.length c7') (.slice A8' r.s.mp.length c8') (.int .i64 r.e) (.slice Ar r.v.length cr) (.int .i64 r.n)
    have HQ := Lib.hid (And.intro q1 (And.intro q2 (And.intro q3 (And.intro q4 q5))))
    have HS3 := Lib.hid (And.intro (((HS2.out.1.set_other (i := 0) (u := .int .i64 r.e) (b := b + 1 + 1 + 1) (by omega)).set_other (i := 1) (u := .slice Ar r.v.length cr) (b := b + 1 + 1 + 1) (by omega)).set_other (i := 2) (u := .int .i64 r.n) (b := b + 1 + 1 + 1) (by omega)) (((HS2.out.2.set_other (i := 0) (u := .int .i64 r.e) n2).set_other (i := 1) (u := .slice Ar r.v.length cr) n2).set_other (i := 2) (u := .int .i64 r.n) n2))
    clear q1 q2 q3 q4 q5 HX6 HV6 HS
    generalize (((w6.setCell ⟨b + 1 + 1, 0, none⟩ (.slice A5' r.s.reg.length c5')).setCell ⟨b + 1 + 1, 1, none⟩ (.slice A6' r.s.q.length c6')).setCell ⟨b + 1 + 1, 2, none⟩ (.slice A7' r.s.lk.length c7')).setCell ⟨b + 1 + 1, 3, none⟩ (.slice A8' r.s.mp.length c8') = w7 at HQ HS2 HS3 t0 t1 t2 d0 d1 d2 ⊢
    refine wpAnyH_ready (rs := [3]) (by kernel_rfl) (by simp) ?_
    refine AllReadyH.cons rfl (fun K hK => ?_) AllReadyH.nil
    go_simp
    refine hK.out _ _ HS3.out (fun _ => ?_)
    clear hK K t0 t1 t2 d0 d1 d2
    refine wpAnyH_done (by kernel_rfl) ?_ _
    go_wp2_with fail
    refine bodyPost_ret (results_cells2 rfl _ _ _ _ _ _ _ _ _ _ rfl rfl HQ.out.1 HQ.out.2.1 Try.underlying32 rfl (by kernel_rfl) Try.underlying34 rfl (by kernel_rfl)) rfl ?_
    rw [HR.out]
    exact ⟨⟨A5', c5', A6', c6', A7', c7', A8', c8'⟩, Ar, cr, rfl, HQ.out.2.2.1, HQ.out.2.2.2.1, HQ.out.2.2.2.2, HQ.out.2.2.2.2⟩
  | true =>
    rw [hq] at hkn
    have HKN := Lib.hid hkn
    have HKW := Lib.hid (of_decide_eq_true hq)
    clear hkn hq
    go_upto_block 0 with (first
      | (go_at_call 31; refine (HKN.out _).mono ?_; rintro e w4 ⟨rfl, hb4⟩
         have HX4 := Lib.hid (HX3.out.below hb4)
         have HK4 := Lib.hid (HK3.out.below hb4)
         have hy := HX4.out.vc
         simp only [cmdC] at hy
         obtain ⟨y0, y1, y2, y3, y4⟩ := five hy
         clear hy)
      | fail)
    clear HX3 HK3 hb4 HKN
    obtain ⟨w3', hw3⟩ : ∃ x, w4 = x := ⟨_, rfl⟩
    rw [hw3] at HX4 HK4 y0 y1 y2 y3 y4 ⊢
    clear hw3
    have HX3 := HX4
    have HK3 := HK4
    clear HX4 HK4
    have hx := HX3.out.vs
    simp only [objC] at hx
    obtain ⟨p0, p1, p2, p3, _, _, _, _⟩ := four hx
    clear hx
    go_cut [] from 18 to 124 (fun wx => ∃ a' Ar cr, Hid (VarsN w wx b h ⟨A0, c0, A1, c1, A2, c2, A3, c3⟩ s a' (s.apply c).s ⟨Ak, ck, Av, cv, Ao, co⟩ c) ∧ Hid (Blk wx g 34 #[.int .i64 (s.apply c).e, .slice Ar (s.apply c).v.length cr, .int .i64 (s.apply c).n]) ∧ Hid (OwnB w wx Ar (s.apply c).v.length cr (s.apply c).v))
    case first =>
      by_cases hkk : c.kind = 1
      · have k1 : (c.kind == 1) = true := by simp; omega
        obtain ⟨r, hr⟩ : ∃ r, s.apply c = r := ⟨_, rfl⟩
        have hr2 := hr
        unfold Ob.apply at hr2
        rw [if_pos (by omega)] at hr2
        have hcall := read_any (W := w) (c := c0) (by have := HI.out.reg; unfold Lim; omega) (HS0.out.below HX3.out.bel).r0 HX3.out.bel
        have HR := Lib.hid (hr.trans hr2.symm)
        have HCALL := Lib.hid hcall
        clear hr hr2 hkk hcall
        go_wp2_with (first
          | (go_at_call 32; refine HCALL.out.mono ?_; rintro e w4 ⟨Ar, cr, rfl, hv4, hB4, hb4⟩; unfold resV; have HX4 := Lib.hid (HX3.out.below hb4); have HK4 := Lib.hid (HK3.out.below hb4); have hx := HX4.out.nx; simp only [objC] at hx; obtain ⟨p0, p1, p2, p3, e0, e1, e2, e3⟩ := four hx; obtain ⟨z0, z1, z2, d0, d1, d2⟩ := three HK4.out; clear hx)
          | fail)
        go_meet
        exact HX4.out.done HK4.out HGB.out hv4 HR.out
      by_cases hkk : c.kind = 2
      · have k1 : (c.kind == 1) = false := by simp; omega
        have k2 : (c.kind == 2) = true := by simp; omega
        obtain ⟨r, hr⟩ : ∃ r, s.apply c = r := ⟨_, rfl⟩
        have hr2 := hr
        unfold Ob.apply at hr2
        rw [if_neg (by omega), if_pos (by omega)] at hr2
        have hcall := write_any (W := w) (c := c0) (c' := cv) (by have := HI.out.reg; unfold Lim; omega) (by have := HF.out.val.1; unfold Lim; omega) (HS0.out.below HX3.out.bel).r0 (HC0.out.below HX3.out.bel).rv HX3.out.bel
        obtain ⟨l2, hl2⟩ : ∃ x, (if c.val.length ≤ 16 then c.val else s.reg) = x := ⟨_, rfl⟩
        obtain ⟨e2, he2⟩ : ∃ x, (if c.val.length ≤ 16 then (0 : Int) else 1) = x := ⟨_, rfl⟩
        rw [hl2, he2] at hr2 hcall
        have HR := Lib.hid (hr.trans hr2.symm)
        have HCALL := Lib.hid hcall
        clear hr hr2 hkk hcall hl2 he2
        go_wp2_with (first
          | (go_at_call 33; refine HCALL.out.mono ?_; rintro e w4 ⟨An, cn, Ar, cr, rfl, ho4, hv4, hB4, hb4⟩; unfold resV; have HX4 := Lib.hid (HX3.out.below hb4); have HK4 := Lib.hid (HK3.out.below hb4); have hx := HX4.out.nx; simp only [objC] at hx; obtain ⟨p0, p1, p2, p3, e0, e1, e2, e3⟩ := four hx; obtain ⟨z0, z1, z2, d0, d1, d2⟩ := three HK4.out; clear hx)
          | fail)
        go_meet
        exact HX4.out.doneSet HK4.out HGB.out HWB.out 0 (.slice An l2.length cn) ⟨An, cn, A6, c6, A7, c7, A8, c8⟩ { s with reg := l2 } rfl ⟨ho4, HX4.out.own.o1, HX4.out.own.o2, HX4.out.own.o3⟩ hv4 HR.out
      by_cases hkk : c.kind = 3
      · have k1 : (c.kind == 1) = false := by simp; omega
        have k2 : (c.kind == 2) = false := by simp; omega
        have k3 : (c.kind == 3) = true := by simp; omega
        obtain ⟨r, hr⟩ : ∃ r, s.apply c = r := ⟨_, rfl⟩
        have hr2 := hr
        unfold Ob.apply at hr2
        rw [if_neg (by omega), if_neg (by omega), if_pos (by omega)] at hr2
        have hcall := cas_any (W := w) (c := c0) (c' := cv) (c2 := co) (by have := HI.out.reg; unfold Lim; omega) (by have := HF.out.val.1; unfold Lim; omega) HI.out.regb HF.out.old.2 (HS0.out.below HX3.out.bel).r0 (HC0.out.below HX3.out.bel).rv (HC0.out.below HX3.out.bel).ro HX3.out.bel
        obtain ⟨l2, hl2⟩ : ∃ x, casS s.reg c.old c.val = x := ⟨_, rfl⟩
        obtain ⟨e2, he2⟩ : ∃ x, casE s.reg c.old c.val = x := ⟨_, rfl⟩
        obtain ⟨v2, hv2⟩ : ∃ x, casV s.reg c.old c.val = x := ⟨_, rfl⟩
        rw [hl2, he2, hv2] at hr2 hcall
        have HR := Lib.hid (hr.trans hr2.symm)
        have HCALL := Lib.hid hcall
        clear hr hr2 hkk hcall hl2 he2 hv2
        go_wp2_with (first
          | (go_at_call 34; refine HCALL.out.mono ?_; rintro e w4 ⟨An, cn, Ar, cr, rfl, ho4, hv4, hB4, hb4⟩; unfold resV; have HX4 := Lib.hid (HX3.out.below hb4); have HK4 := Lib.hid (HK3.out.below hb4); have hx := HX4.out.nx; simp only [objC] at hx; obtain ⟨p0, p1, p2, p3, e0, e1, e2, e3⟩ := four hx; obtain ⟨z0, z1, z2, d0, d1, d2⟩ := three HK4.out; clear hx)
          | fail)
        go_meet
        exact HX4.out.doneSet HK4.out HGB.out HWB.out 0 (.slice An l2.length cn) ⟨An, cn, A6, c6, A7, c7, A8, c8⟩ { s with reg := l2 } rfl ⟨ho4, HX4.out.own.o1, HX4.out.own.o2, HX4.out.own.o3⟩ hv4 HR.out
      by_cases hkk : c.kind = 4
      · have k1 : (c.kind == 1) = false := by simp; omega
        have k2 : (c.kind == 2) = false := by simp; omega
        have k3 : (c.kind == 3) = false := by simp; omega
        have k4 : (c.kind == 4) = true := by simp; omega
        obtain ⟨r, hr⟩ : ∃ r, s.apply c = r := ⟨_, rfl⟩
        have hr2 := hr
        unfold Ob.apply at hr2
        rw [if_neg (by omega), if_neg (by omega), if_neg (by omega), if_pos (by omega)] at hr2
        have hcall := push_any (W := w) (c := c1) (c' := cv) (by have := HI.out.ql; omega) (fun l hl => by have := HI.out.qv l hl; unfold Lim; omega) (by have := HF.out.val.1; unfold Lim; omega) (HS0.out.below HX3.out.bel).r1 (HC0.out.below HX3.out.bel).rv HX3.out.bel
        obtain ⟨l2, hl2⟩ : ∃ x, pushS s.q c.val = x := ⟨_, rfl⟩
        obtain ⟨e2, he2⟩ : ∃ x, pushE s.q c.val = x := ⟨_, rfl⟩
        obtain ⟨n2, hn2⟩ : ∃ x, pushN s.q c.val = x := ⟨_, rfl⟩
        rw [hl2, he2, hn2] at hr2 hcall
        have HR := Lib.hid (hr.trans hr2.symm)
        have HCALL := Lib.hid hcall
        clear hr hr2 hkk hcall hl2 he2 hn2
        go_wp2_with (first
          | (go_at_call 35; refine HCALL.out.mono ?_; rintro e w4 ⟨An, cn, Ar, cr, rfl, ho4, hv4, hB4, hb4⟩; unfold resV; have HX4 := Lib.hid (HX3.out.below hb4); have HK4 := Lib.hid (HK3.out.below hb4); have hx := HX4.out.nx; simp only [objC] at hx; obtain ⟨p0, p1, p2, p3, e0, e1, e2, e3⟩ := four hx; obtain ⟨z0, z1, z2, d0, d1, d2⟩ := three HK4.out; clear hx)
          | fail)
        go_meet
        exact HX4.out.doneSet HK4.out HGB.out HWB.out 1 (.slice An l2.length cn) ⟨A5, c5, An, cn, A7, c7, A8, c8⟩ { s with q := l2 } rfl ⟨HX4.out.own.o0, ho4, HX4.out.own.o2, HX4.out.own.o3⟩ hv4 HR.out
      by_cases hkk : c.kind = 5
      · have k1 : (c.kind == 1) = false := by simp; omega
        have k2 : (c.kind == 2) = false := by simp; omega
        have k3 : (c.kind == 3) = false := by simp; omega
        have k4 : (c.kind == 4) = false := by simp; omega
        have k5 : (c.kind == 5) = true := by simp; omega
        obtain ⟨r, hr⟩ : ∃ r, s.apply c = r := ⟨_, rfl⟩
        have hr2 := hr
        unfold Ob.apply at hr2
        rw [if_neg (by omega), if_neg (by omega), if_neg (by omega), if_neg (by omega), if_pos (by omega)] at hr2
        have hcall := pop_any (W := w) (c := c1) (by have := HI.out.ql; omega) (HS0.out.below HX3.out.bel).l1 (fun l hl => by have := HI.out.qv l hl; unfold Lim; omega) (HS0.out.below HX3.out.bel).r1 HX3.out.bel
        obtain ⟨l2, hl2⟩ : ∃ x, s.q.tail = x := ⟨_, rfl⟩
        obtain ⟨e2, he2⟩ : ∃ x, popE s.q = x := ⟨_, rfl⟩
        obtain ⟨v2, hv2⟩ : ∃ x, popV s.q = x := ⟨_, rfl⟩
        rw [hl2, he2, hv2] at hr2 hcall
        have HR := Lib.hid (hr.trans hr2.symm)
        have HCALL := Lib.hid hcall
        clear hr hr2 hkk hcall hl2 he2 hv2
        go_wp2_with (first
          | (go_at_call 36; refine HCALL.out.mono ?_; rintro e w4 ⟨An, cn, Ar, cr, rfl, ho4, hv4, hB4, hb4⟩; unfold resV; have HX4 := Lib.hid (HX3.out.below hb4); have HK4 := Lib.hid (HK3.out.below hb4); have hx := HX4.out.nx; simp only [objC] at hx; obtain ⟨p0, p1, p2, p3, e0, e1, e2, e3⟩ := four hx; obtain ⟨z0, z1, z2, d0, d1, d2⟩ := three HK4.out; clear hx)
          | fail)
        go_meet
        exact HX4.out.doneSet HK4.out HGB.out HWB.out 1 (.slice An l2.length cn) ⟨A5, c5, An, cn, A7, c7, A8, c8⟩ { s with q := l2 } rfl ⟨HX4.out.own.o0, ho4, HX4.out.own.o2, HX4.out.own.o3⟩ hv4 HR.out
      by_cases hkk : c.kind = 6
      · have k1 : (c.kind == 1) = false := by simp; omega
        have k2 : (c.kind == 2) = false := by simp; omega
        have k3 : (c.kind == 3) = false := by simp; omega
        have k4 : (c.kind == 4) = false := by simp; omega
        have k5 : (c.kind == 5) = false := by simp; omega
        have k6 : (c.kind == 6) = true := by simp; omega
        obtain ⟨r, hr⟩ : ∃ r, s.apply c = r := ⟨_, rfl⟩
        have hr2 := hr
        have hkw := HKW.out.2.2 (by omega)
        unfold Ob.apply at hr2
        rw [if_neg (by omega), if_neg (by omega), if_neg (by omega), if_neg (by omega), if_neg (by omega), if_pos (by omega)] at hr2
        have hcall := take_any (W := w) (c := c2) c.who (by have := HI.out.lkl; omega) (HS0.out.below HX3.out.bel).l2 (HS0.out.below HX3.out.bel).r2 HX3.out.bel
        obtain ⟨l2, hl2⟩ : ∃ x, takeS s.lk c.who = x := ⟨_, rfl⟩
        obtain ⟨e2, he2⟩ : ∃ x, takeE s.lk c.who = x := ⟨_, rfl⟩
        obtain ⟨n2, hn2⟩ : ∃ x, takeN s.lk c.who = x := ⟨_, rfl⟩
        rw [hl2, he2, hn2] at hr2 hcall
        have HR := Lib.hid (hr.trans hr2.symm)
        have HCALL := Lib.hid hcall
        clear hr hr2 hkk hcall hl2 he2 hn2 hkw
        go_wp2_with (first
          | (go_at_call 37; refine HCALL.out.mono ?_; rintro e w4 ⟨An, cn, Ar, cr, rfl, ho4, hv4, hB4, hb4⟩; unfold resV; have HX4 := Lib.hid (HX3.out.below hb4); have HK4 := Lib.hid (HK3.out.below hb4); have hx := HX4.out.nx; simp only [objC] at hx; obtain ⟨p0, p1, p2, p3, e0, e1, e2, e3⟩ := four hx; obtain ⟨z0, z1, z2, d0, d1, d2⟩ := three HK4.out; clear hx)
          | fail)
        go_meet
        exact HX4.out.doneSet HK4.out HGB.out HWB.out 2 (.slice An l2.length cn) ⟨A5, c5, A6, c6, An, cn, A8, c8⟩ { s with lk := l2 } rfl ⟨HX4.out.own.o0, HX4.out.own.o1, ho4, HX4.out.own.o3⟩ hv4 HR.out
      by_cases hkk : c.kind = 7
      · have k1 : (c.kind == 1) = false := by simp; omega
        have k2 : (c.kind == 2) = false := by simp; omega
        have k3 : (c.kind == 3) = false := by simp; omega
        have k4 : (c.kind == 4) = false := by simp; omega
        have k5 : (c.kind == 5) = false := by simp; omega
        have k6 : (c.kind == 6) = false := by simp; omega
        have k7 : (c.kind == 7) = true := by simp; omega
        obtain ⟨r, hr⟩ : ∃ r, s.apply c = r := ⟨_, rfl⟩
        have hr2 := hr
        have hkw := HKW.out.2.2 (by omega)
        unfold Ob.apply at hr2
        rw [if_neg (by omega), if_neg (by omega), if_neg (by omega), if_neg (by omega), if_neg (by omega), if_neg (by omega), if_pos (by omega)] at hr2
        have hcall := free_any (W := w) (c := c2) c.who (by have := HI.out.lkl; omega) (HS0.out.below HX3.out.bel).l2 HI.out.lkn (HS0.out.below HX3.out.bel).r2 HX3.out.bel
        obtain ⟨l2, hl2⟩ : ∃ x, s.lk.erase c.who = x := ⟨_, rfl⟩
        obtain ⟨e2, he2⟩ : ∃ x, freeE s.lk c.who = x := ⟨_, rfl⟩
        obtain ⟨n2, hn2⟩ : ∃ x, freeN s.lk c.who = x := ⟨_, rfl⟩
        rw [hl2, he2, hn2] at hr2 hcall
        have HR := Lib.hid (hr.trans hr2.symm)
        have HCALL := Lib.hid hcall
        clear hr hr2 hkk hcall hl2 he2 hn2 hkw
        go_wp2_with (first
          | (go_at_call 38; refine HCALL.out.mono ?_; rintro e w4 ⟨An, cn, Ar, cr, rfl, ho4, hv4, hB4, hb4⟩; unfold resV; have HX4 := Lib.hid (HX3.out.below hb4); have HK4 := Lib.hid (HK3.out.below hb4); have hx := HX4.out.nx; simp only [objC] at hx; obtain ⟨p0, p1, p2, p3, e0, e1, e2, e3⟩ := four hx; obtain ⟨z0, z1, z2, d0, d1, d2⟩ := three HK4.out; clear hx)
          | fail)
        go_meet
        exact HX4.out.doneSet HK4.out HGB.out HWB.out 2 (.slice An l2.length cn) ⟨A5, c5, A6, c6, An, cn, A8, c8⟩ { s with lk := l2 } rfl ⟨HX4.out.own.o0, HX4.out.own.o1, ho4, HX4.out.own.o3⟩ hv4 HR.out
      by_cases hkk : c.kind = 8
      · have k1 : (c.kind == 1) = false := by simp; omega
        have k2 : (c.kind == 2) = false := by simp; omega
        have k3 : (c.kind == 3) = false := by simp; omega
        have k4 : (c.kind == 4) = false := by simp; omega
        have k5 : (c.kind == 5) = false := by simp; omega
        have k6 : (c.kind == 6) = false := by simp; omega
        have k7 : (c.kind == 7) = false := by simp; omega
        have k8 : (c.kind == 8) = true := by simp; omega
        obtain ⟨r, hr⟩ : ∃ r, s.apply c = r := ⟨_, rfl⟩
        have hr2 := hr
        unfold Ob.apply at hr2
        rw [if_neg (by omega), if_neg (by omega), if_neg (by omega), if_neg (by omega), if_neg (by omega), if_neg (by omega), if_neg (by omega), if_pos (by omega)] at hr2
        have hcall := owner_any (W := w) (c := c2) (by have := HI.out.lkl; omega) (HS0.out.below HX3.out.bel).l2 (HS0.out.below HX3.out.bel).r2 HX3.out.bel
        obtain ⟨e2, he2⟩ : ∃ x, ownerE s.lk = x := ⟨_, rfl⟩
        obtain ⟨n2, hn2⟩ : ∃ x, ownerN s.lk = x := ⟨_, rfl⟩
        rw [he2, hn2] at hr2 hcall
        have HR := Lib.hid (hr.trans hr2.symm)
        have HCALL := Lib.hid hcall
        clear hr hr2 hkk hcall he2 hn2
        go_wp2_with (first
          | (go_at_call 39; refine HCALL.out.mono ?_; rintro e w4 ⟨Ar, cr, rfl, hv4, hB4, hb4⟩; unfold resV; have HX4 := Lib.hid (HX3.out.below hb4); have HK4 := Lib.hid (HK3.out.below hb4); have hx := HX4.out.nx; simp only [objC] at hx; obtain ⟨p0, p1, p2, p3, e0, e1, e2, e3⟩ := four hx; obtain ⟨z0, z1, z2, d0, d1, d2⟩ := three HK4.out; clear hx)
          | fail)
        go_meet
        exact HX4.out.done HK4.out HGB.out hv4 HR.out
      by_cases hkk : c.kind = 9
      · have k1 : (c.kind == 1) = false := by simp; omega
        have k2 : (c.kind == 2) = false := by simp; omega
        have k3 : (c.kind == 3) = false := by simp; omega
        have k4 : (c.kind == 4) = false := by simp; omega
        have k5 : (c.kind == 5) = false := by simp; omega
        have k6 : (c.kind == 6) = false := by simp; omega
        have k7 : (c.kind == 7) = false := by simp; omega
        have k8 : (c.kind == 8) = false := by simp; omega
        have k9 : (c.kind == 9) = true := by simp; omega
        obtain ⟨r, hr⟩ : ∃ r, s.apply c = r := ⟨_, rfl⟩
        have hr2 := hr
        unfold Ob.apply at hr2
        rw [if_neg (by omega), if_neg (by omega), if_neg (by omega), if_neg (by omega), if_neg (by omega), if_neg (by omega), if_neg (by omega), if_neg (by omega), if_pos (by omega)] at hr2
        have hcall := putC7 (W := w) (c := c3) (c' := ck) (c'' := cv) (HS0.out.below HX3.out.bel).l3 HI.out.mp HF.out.key.2 HF.out.val.2 (by have := HF.out.key.1; omega) (by have := HF.out.val.1; omega) (HS0.out.below HX3.out.bel).r3 (HC0.out.below HX3.out.bel).rk (HC0.out.below HX3.out.bel).rv HX3.out.bel
        obtain ⟨l2, hl2⟩ : ∃ x, Mp.putS s.mp c.key c.val = x := ⟨_, rfl⟩
        obtain ⟨e2, he2⟩ : ∃ x, Mp.putE s.mp c.key c.val = x := ⟨_, rfl⟩
        obtain ⟨v2, hv2⟩ : ∃ x, Mp.putV s.mp c.key c.val = x := ⟨_, rfl⟩
        obtain ⟨n2, hn2⟩ : ∃ x, Mp.putN s.mp c.key c.val = x := ⟨_, rfl⟩
        rw [hl2, he2, hv2, hn2] at hr2 hcall
        have HR := Lib.hid (hr.trans hr2.symm)
        have HCALL := Lib.hid hcall
        clear hr hr2 hkk hcall hl2 he2 hv2 hn2
        go_wp2_with (first
          | (go_at_call 40; refine HCALL.out.mono ?_; rintro e w4 ⟨An, cn, Ar, cr, rfl, ho4, hv4, hB4, hb4⟩; unfold resV; have HX4 := Lib.hid (HX3.out.below hb4); have HK4 := Lib.hid (HK3.out.below hb4); have hx := HX4.out.nx; simp only [objC] at hx; obtain ⟨p0, p1, p2, p3, e0, e1, e2, e3⟩ := four hx; obtain ⟨z0, z1, z2, d0, d1, d2⟩ := three HK4.out; clear hx)
          | fail)
        go_meet
        exact HX4.out.doneSet HK4.out HGB.out HWB.out 3 (.slice An l2.length cn) ⟨A5, c5, A6, c6, A7, c7, An, cn⟩ { s with mp := l2 } rfl ⟨HX4.out.own.o0, HX4.out.own.o1, HX4.out.own.o2, ho4⟩ hv4 HR.out
      by_cases hkk : c.kind = 10
      · have k1 : (c.kind == 1) = false := by simp; omega
        have k2 : (c.kind == 2) = false := by simp; omega
        have k3 : (c.kind == 3) = false := by simp; omega
        have k4 : (c.kind == 4) = false := by simp; omega
        have k5 : (c.kind == 5) = false := by simp; omega
        have k6 : (c.kind == 6) = false := by simp; omega
        have k7 : (c.kind == 7) = false := by simp; omega
        have k8 : (c.kind == 8) = false := by simp; omega
        have k9 : (c.kind == 9) = false := by simp; omega
        have k10 : (c.kind == 10) = true := by simp; omega
        obtain ⟨r, hr⟩ : ∃ r, s.apply c = r := ⟨_, rfl⟩
        have hr2 := hr
        unfold Ob.apply at hr2
        rw [if_neg (by omega), if_neg (by omega), if_neg (by omega), if_neg (by omega), if_neg (by omega), if_neg (by omega), if_neg (by omega), if_neg (by omega), if_neg (by omega), if_pos (by omega)] at hr2
        have hcall := getC7 (W := w) (c := c3) (c' := ck) (HS0.out.below HX3.out.bel).l3 HI.out.mp HF.out.key.2 (by have := HF.out.key.1; omega) (HS0.out.below HX3.out.bel).r3 (HC0.out.below HX3.out.bel).rk HX3.out.bel
        obtain ⟨e2, he2⟩ : ∃ x, Mp.getE s.mp c.key = x := ⟨_, rfl⟩
        obtain ⟨v2, hv2⟩ : ∃ x, Mp.getV s.mp c.key = x := ⟨_, rfl⟩
        rw [he2, hv2] at hr2 hcall
        have HR := Lib.hid (hr.trans hr2.symm)
        have HCALL := Lib.hid hcall
        clear hr hr2 hkk hcall he2 hv2
        go_wp2_with (first
          | (go_at_call 41; refine HCALL.out.mono ?_; rintro e w4 ⟨Ar, cr, rfl, hv4, hB4, hb4⟩; unfold resV; have HX4 := Lib.hid (HX3.out.below hb4); have HK4 := Lib.hid (HK3.out.below hb4); have hx := HX4.out.nx; simp only [objC] at hx; obtain ⟨p0, p1, p2, p3, e0, e1, e2, e3⟩ := four hx; obtain ⟨z0, z1, z2, d0, d1, d2⟩ := three HK4.out; clear hx)
          | fail)
        go_meet
        exact HX4.out.done HK4.out HGB.out hv4 HR.out
      have hkk : c.kind = 11 := by have := HKW.out; omega
      have k1 : (c.kind == 1) = false := by simp; omega
      have k2 : (c.kind == 2) = false := by simp; omega
      have k3 : (c.kind == 3) = false := by simp; omega
      have k4 : (c.kind == 4) = false := by simp; omega
      have k5 : (c.kind == 5) = false := by simp; omega
      have k6 : (c.kind == 6) = false := by simp; omega
      have k7 : (c.kind == 7) = false := by simp; omega
      have k8 : (c.kind == 8) = false := by simp; omega
      have k9 : (c.kind == 9) = false := by simp; omega
      have k10 : (c.kind == 10) = false := by simp; omega
      have k11 : (c.kind == 11) = true := by simp; omega
      obtain ⟨r, hr⟩ : ∃ r, s.apply c = r := ⟨_, rfl⟩
      have hr2 := hr
      unfold Ob.apply at hr2
      rw [if_neg (by omega), if_neg (by omega), if_neg (by omega), if_neg (by omega), if_neg (by omega), if_neg (by omega), if_neg (by omega), if_neg (by omega), if_neg (by omega), if_neg (by omega), if_pos (by omega)] at hr2
      have hcall := delC7 (W := w) (c := c3) (c' := ck) (HS0.out.below HX3.out.bel).l3 HI.out.mp HF.out.key.2 (by have := HF.out.key.1; omega) (HS0.out.below HX3.out.bel).r3 (HC0.out.below HX3.out.bel).rk HX3.out.bel
      obtain ⟨l2, hl2⟩ : ∃ x, Mp.delS s.mp c.key = x := ⟨_, rfl⟩
      obtain ⟨e2, he2⟩ : ∃ x, Mp.getE s.mp c.key = x := ⟨_, rfl⟩
      obtain ⟨v2, hv2⟩ : ∃ x, Mp.getV s.mp c.key = x := ⟨_, rfl⟩
      rw [hl2, he2, hv2] at hr2 hcall
      have HR := Lib.hid (hr.trans hr2.symm)
      have HCALL := Lib.hid hcall
      clear hr hr2 hkk hcall hl2 he2 hv2
      go_wp2_with (first
        | (go_at_call 42; refine HCALL.out.mono ?_; rintro e w4 ⟨An, cn, Ar, cr, rfl, ho4, hv4, hB4, hb4⟩; unfold resV; have HX4 := Lib.hid (HX3.out.below hb4); have HK4 := Lib.hid (HK3.out.below hb4); have hx := HX4.out.nx; simp only [objC] at hx; obtain ⟨p0, p1, p2, p3, e0, e1, e2, e3⟩ := four hx; obtain ⟨z0, z1, z2, d0, d1, d2⟩ := three HK4.out; clear hx)
        | fail)
      go_meet
      exact HX4.out.doneSet HK4.out HGB.out HWB.out 3 (.slice An l2.length cn) ⟨A5, c5, A6, c6, A7, c7, An, cn⟩ { s with mp := l2 } rfl ⟨HX4.out.own.o0, HX4.out.own.o1, HX4.out.own.o2, ho4⟩ hv4 HR.out
    case rest =>
      obtain ⟨⟨A5', c5', A6', c6', A7', c7', A8', c8'⟩, Ar, cr, HX5, HK5, HV5⟩ := hcut
      rename World => w5
      obtain ⟨r, hr⟩ : ∃ r, s.apply c = r := ⟨_, rfl⟩
      rw [hr] at HX5 HK5 HV5
      have HR := Lib.hid hr
      have hx := HX5.out.nx
      simp only [objC] at hx
      obtain ⟨p0, p1, p2, p3, _, _, _, _⟩ := four hx
      obtain ⟨z0, z1, z2, _, _, _⟩ := three HK5.out
      obtain ⟨v0, v1, v2, v3, e0, e1, e2, e3⟩ := four HX5.out.v2
      obtain ⟨t0, t1, t2, d0, d1, d2⟩ := three HX5.out.v3
      have n1 : ¬ g = b + 1 + 1 := fun e => HX5.out.v2.apart HK5.out (by decide) e.symm
      have n2 : ¬ g = b + 1 + 1 + 1 := HGB.out.2.2
      clear hx hr HX3 HK3 HC0 HS0 HI HF HKW y0 y1 y2 y3 y4 hgh hhg
      go_upto_region 29 with fail
      refine wp_region_held_drew (S := fun w' => Blk w' h 32 #[.slice A5' r.s.reg.length c5', .slice A6' r.s.q.length c6', .slice A7' r.s.lk.length c7', .slice A8' r.s.mp.length c8'] ∧ Blk w' g 34 #[.int .i64 r.e, .slice Ar r.v.length cr, .int .i64 r.n]) (by kernel_rfl) ⟨HX5.out.nx.drew, HK5.out.drew⟩ (fun _ => ?_)
      have hl := HX5.out.lt
      have HX6 := Lib.hid (HX5.out.below (Below.refl _ _).drew)
      have HV6 := Lib.hid (own_below HV5.out (Below.refl w5.heap.size w5).drew)
      have HS := Lib.hid (And.intro HX5.out.nx.drew HK5.out.drew)
      simp only [objC] at HS
      clear HX5 HK5 HV5 p0 p1 p2 p3 z0 z1 z2 v0 v1 v2 v3 e0 e1 e2 e3 t0 t1 t2 d0 d1 d2
      generalize w5.drew = w6 at HX6 HV6 HS ⊢
      obtain ⟨v0, v1, v2, v3, e0, e1, e2, e3⟩ := four HX6.out.v2
      refine wpAnyH_take (i := 0) (v := .agg #[.slice A5' r.s.reg.length c5', .slice A6' r.s.q.length c6', .slice A7' r.s.lk.length c7', .slice A8' r.s.mp.length c8']) rfl (by kernel_rfl) (by kernel_rfl) (by kernel_rfl) (fun _ _ _ h => h) (Or.inl ⟨by kernel_rfl, fun w h => by obtain ⟨p0, p1, p2, p3, _, _, _, _⟩ := four h.1; go_simp⟩) HS.out ?_
      refine wpAnyH_take (i := 1) (v := .agg #[.int .i64 r.e, .slice Ar r.v.length cr, .int .i64 r.n]) rfl (by kernel_rfl) (by kernel_rfl) (by kernel_rfl) (fun _ _ _ h => h) (Or.inl ⟨by kernel_rfl, fun w h => by obtain ⟨p0, p1, p2, _, _, _⟩ := three h.2; go_simp⟩) HS.out ?_
      have HS2 := Lib.hid (show Blk ((((w6.setCell ⟨b + 1 + 1, 0, none⟩ (.slice A5' r.s.reg.length c5')).setCell ⟨b + 1 + 1, 1, none⟩ (.slice A6' r.s.q.length c6')).setCell ⟨b + 1 + 1, 2, none⟩ (.slice A7' r.s.lk.length c7')).setCell ⟨b + 1 + 1, 3, none⟩ (.slice A8' r.s.mp.length c8')) h 32 #[.slice A5' r.s.reg.length c5', .slice A6' r.s.q.length c6', .slice A7' r.s.lk.length c7', .slice A8' r.s.mp.length c8'] ∧ Blk ((((w6.setCell ⟨b + 1 + 1, 0, none⟩ (.slice A5' r.s.reg.length c5')).setCell ⟨b + 1 + 1, 1, none⟩ (.slice A6' r.s.q.length c6')).setCell ⟨b + 1 + 1, 2, none⟩ (.slice A7' r.s.lk.length c7')).setCell ⟨b + 1 + 1, 3, none⟩ (.slice A8' r.s.mp.length c8')) g 34 #[.int .i64 r.e, .slice Ar r.v.length cr, .int .i64 r.n] from
        ⟨(((HS.out.1.set_other (by omega)).set_other (by omega)).set_other (by omega)).set_other (by omega), (((HS.out.2.set_other n1).set_other n1).set_other n1).set_other n1⟩)
      refine wpAnyH_ready (rs := [2]) (by kernel_rfl) (by simp) ?_
      refine AllReadyH.cons rfl (fun K hK => ?_) AllReadyH.nil
      go_simp
      refine hK.out _ _ HS2.out (fun _ => ?_)
      clear hK K v0 v1 v2 v3 e0 e1 e2 e3
      obtain ⟨t0, t1, t2, d0, d1, d2⟩ := three ((((HX6.out.v3.set_other (i := 0) (u := .slice A5' r.s.reg.length c5') (b := b + 1 + 1) (by omega)).set_other (i := 1) (u := .slice A6' r.s.q.length c6') (b := b + 1 + 1) (by omega)).set_other (i := 2) (u := .slice A7' r.s.lk.length c7') (b := b + 1 + 1) (by omega)).set_other (i := 3) (u := .slice A8' r.s.mp.length c8') (b := b + 1 + 1) (by omega))
      obtain ⟨q1, q2, q3, q4, q5⟩ := HX6.out.end_ HWB.out HV6.out (.slice A5' r.s.reg.length c5') (.slice A6' r.s.q.length c6') (.slice A7' r.s.lk.length c7') (.slice A8' r.s.mp.length c8') (.int .i64 r.e) (.slice Ar r.v.length cr) (.int .i64 r.n)
      have HQ := Lib.hid (And.intro q1 (And.intro q2 (And.intro q3 (And.intro q4 q5))))
      have HS3 := Lib.hid (And.intro (((HS2.out.1.set_other (i := 0) (u := .int .i64 r.e) (b := b + 1 + 1 + 1) (by omega)).set_other (i := 1) (u := .slice Ar r.v.length cr) (b := b + 1 + 1 + 1) (by omega)).set_other (i := 2) (u := .int .i64 r.n) (b := b + 1 + 1 + 1) (by omega)) (((HS2.out.2.set_other (i := 0) (u := .int .i64 r.e) n2).set_other (i := 1) (u := .slice Ar r.v.length cr) n2).set_other (i := 2) (u := .int .i64 r.n) n2))
      clear q1 q2 q3 q4 q5 HX6 HV6 HS
      generalize (((w6.setCell ⟨b + 1 + 1, 0, none⟩ (.slice A5' r.s.reg.length c5')).setCell ⟨b + 1 + 1, 1, none⟩ (.slice A6' r.s.q.length c6')).setCell ⟨b + 1 + 1, 2, none⟩ (.slice A7' r.s.lk.length c7')).setCell ⟨b + 1 + 1, 3, none⟩ (.slice A8' r.s.mp.length c8') = w7 at HQ HS2 HS3 t0 t1 t2 d0 d1 d2 ⊢
      refine wpAnyH_ready (rs := [3]) (by kernel_rfl) (by simp) ?_
      refine AllReadyH.cons rfl (fun K hK => ?_) AllReadyH.nil
      go_simp
      refine hK.out _ _ HS3.out (fun _ => ?_)
      clear hK K t0 t1 t2 d0 d1 d2
      refine wpAnyH_done (by kernel_rfl) ?_ _
      go_wp2_with fail
      refine bodyPost_ret (results_cells2 rfl _ _ _ _ _ _ _ _ _ _ rfl rfl HQ.out.1 HQ.out.2.1 Try.underlying32 rfl (by kernel_rfl) Try.underlying34 rfl (by kernel_rfl)) rfl ?_
      rw [HR.out]
      exact ⟨⟨A5', c5', A6', c6', A7', c7', A8', c8'⟩, Ar, cr, rfl, HQ.out.2.2.1, HQ.out.2.2.2.1, HQ.out.2.2.2.2, HQ.out.2.2.2.2⟩
theorem apply8 : ApplyC8 := fun {W w a ca s c B B'} hI hc h h' hB => (apply8_raw hI hc h h').mono fun e w' h => GotO.of hB h
end Go.Proofs.Ytcmjpjhaaookfaa
namespace Go.Proofs.Ytcmjpjhaaookfaa
open Go.RowKit
set_option linter.unusedVariables false
set_option maxHeartbeats 1000000 in
theorem equalI_any (w : World) (A A' : Option Addr) (n c n' c' B B' : Nat) (zs zs' : List Int) (h : Rd w B A n (iv zs)) (h' : Rd w B' A' n' (iv zs')) (hn : n ≤ maxLen) (hn' : n' ≤ maxLen) :
    Calls Try.prog 64 #[.slice A n c, .slice A' n' c'] w fun e w' => e = .returned (.bool (decide (zs = zs'))) ∧ Below w.heap.size w w' := by
  have hl : zs.length = n := by have := h.1; rwa [iv_length] at this
  have hl' : zs'.length = n' := by have := h'.1; rwa [iv_length] at this
  unfold maxLen at hn hn'
  by_cases hne : n = n'
  · subst hne
    have HN : Hid (n ≤ 9223372036854775807) := Lib.hid (by omega)
    have HL := Lib.hid hl
    have HL' := Lib.hid hl'
    have H := Lib.hid h
    have H' := Lib.hid h'
    clear h h' hl hl' hn hn'
    go_enter Try.func64, Try.ntmps64
    go_wp2
    go_loopw [5, 13] (fun _ i wr => ∃ k : Nat, k ≤ n ∧ i = .int .i64 k ∧ (∀ j, j < k → zs[j]? = zs'[j]?) ∧ ∃ m, wr = w.drewN m) (fun _ i _ => n - (intOf i).toNat)
    case atStart => exact ⟨0, Nat.zero_le _, rfl, fun j hj => absurd hj (by omega), 0, rfl⟩
    case round =>
      obtain ⟨k, hk, rfl, hs, m, hm⟩ := hrel
      have hkm : (k : Int) ≤ 9223372036854775806 ∨ k = n := by have := HN.out; omega
      by_cases hlt : k < n
      · obtain ⟨z, hz⟩ : ∃ z, zs[k]? = some z := ⟨_, List.getElem?_eq_getElem (by have := HL.out; omega)⟩
        obtain ⟨z', hz'⟩ : ∃ z, zs'[k]? = some z := ⟨_, List.getElem?_eq_getElem (by have := HL'.out; omega)⟩
        obtain ⟨b, o, rfl, _⟩ := H.out.int_at hlt
        obtain ⟨b', o', rfl, _⟩ := H'.out.int_at hlt
        have hc : wr.cell? ⟨b, o + k, none⟩ = some (.int .i64 z) := by rw [hm]; exact H.out.int_cell hlt hz
        have hc' : wr.cell? ⟨b', o' + k, none⟩ = some (.int .i64 z') := by rw [hm]; exact H'.out.int_cell hlt hz'
        have hv : IntKind.i64.wrap ((k : Int) + 1) = (k : Int) + 1 := IntWalk.i64_in _ (by have := HN.out; omega)
        have HS := Lib.hid hs
        have HZ := Lib.hid hz
        have HZ' := Lib.hid hz'
        have HM := Lib.hid hm
        clear hs hz hz' hm hkm
        by_cases he : z = z'
        · subst he
          go_wp2
          go_quiet (fail)
          go_wp2
          go_roundw
          case rel =>
            refine ⟨k + 1, by omega, by go_num, fun j hj => ?_, m + nq, by rw [HM.out, World.drewN_drewN]⟩
            rcases Nat.lt_or_ge j k with h1 | h1
            · exact HS.out j h1
            · obtain rfl : j = k := by omega
              rw [HZ.out, HZ'.out]
          case measure => simp [intOf]; omega
        · have he' : (z == z') = false := by simpa using he
          have he2 : (z != z') = true := by simpa using he
          have HE := Lib.hid (show decide (zs = zs') = false by
            rw [decide_eq_false_iff_not]
            rintro rfl
            have h1 := HZ.out
            rw [HZ'.out] at h1
            injection h1 with h1
            exact he h1.symm)
          clear he
          go_wp2
          go_quiet (fail)
          go_wp2
          go_ret
          exact ⟨ret_bool HE.out.symm, by rw [HM.out, World.drewN_drewN]; exact belowN_d _⟩
      · have hkn : k = n := by omega
        have HE := Lib.hid (show decide (zs = zs') = true by
          rw [decide_eq_true_iff]
          apply List.ext_getElem?
          intro j
          rcases Nat.lt_or_ge j n with h1 | h1
          · exact hs j (by omega)
          · rw [List.getElem?_eq_none (by have := HL.out; omega), List.getElem?_eq_none (by have := HL'.out; omega)])
        have HM := Lib.hid hm
        clear hs hkn hm hkm
        go_wp2
        go_ret
        exact ⟨ret_bool HE.out.symm, by rw [HM.out]; exact belowN_d m⟩
  · have HE := Lib.hid (show decide (zs = zs') = false by
      rw [decide_eq_false_iff_not]; rintro rfl; omega)
    have hd : ((n : Int) == (n' : Int)) = false := by simp; omega
    have hd2 : ((n : Int) != (n' : Int)) = true := by simp; omega
    clear h h' hl hl' hn hn' hne
    go_enter Try.func64, Try.ntmps64
    go_wp2
    go_ret
    exact ⟨ret_bool HE.out.symm, Below.refl _ _⟩
set_option maxHeartbeats 1000000 in
set_option maxRecDepth 100000 in
theorem equalQ_any (w : World) {A A' : Option Addr} {n c n' c' B B' : Nat} {qs qs' : List (List Nat)} (hb : BytesL qs) (hb' : BytesL qs') (h : RdQ w B A n qs) (h' : RdQ w B' A' n' qs') (hn : n ≤ maxLen) (hn' : n' ≤ maxLen) :
    Calls Try.prog 63 #[.slice A n c, .slice A' n' c', .func (.func 62) #[] #[]] w fun e w' => e = .returned (.bool (decide (qs = qs'))) ∧ Below w.heap.size w w' := by
  have hl : qs.length = n := h.length
  have hl' : qs'.length = n' := h'.length
  unfold maxLen at hn hn'
  by_cases hne : n = n'
  · subst hne
    have HN : Hid (n ≤ 9223372036854775807) := Lib.hid (by omega)
    have HL := Lib.hid hl
    have HL' := Lib.hid hl'
    have H := Lib.hid h
    have H' := Lib.hid h'
    have HBY := Lib.hid hb
    have HBY' := Lib.hid hb'
    clear h h' hl hl' hn hn' hb hb'
    go_enter Try.func63, Try.ntmps63
    go_wp2
    go_loopw [7, 8, 9, 17] (fun _ _ _ i wr => ∃ k : Nat, k ≤ n ∧ i = .int .i64 k ∧ Hid (∀ j, j < k → qs[j]? = qs'[j]?) ∧ w = wr) (fun _ _ _ i _ => n - (intOf i).toNat)
    case atStart => exact ⟨0, Nat.zero_le _, rfl, Lib.hid (fun j hj => absurd hj (by omega)), rfl⟩
    case round =>
      obtain ⟨k, hk, rfl, HS, rfl⟩ := hrel
      have hkm : (k : Int) ≤ 9223372036854775806 ∨ k = n := by have := HN.out; omega
      by_cases hlt : k < n
      · obtain ⟨b, o, l, A1, c1, rfl, hz, hc, hr1⟩ := H.out.at hlt
        obtain ⟨b', o', l', A2, c2, rfl, hz', hc', hr2⟩ := H'.out.at hlt
        have hv : IntKind.i64.wrap ((k : Int) + 1) = (k : Int) + 1 := IntWalk.i64_in _ (by have := HN.out; omega)
        have HC := Lib.hid (equal_any w A1 A2 l.length c1 l'.length c2 _ _ l l' (HBY.out l (List.mem_of_getElem? hz)) (HBY'.out l' (List.mem_of_getElem? hz')) hr1 hr2)
        have HZ := Lib.hid hz
        have HZ' := Lib.hid hz'
        clear hz hz' hkm hr1 hr2
        by_cases he : l = l'
        · have HD := Lib.hid (decide_eq_true he)
          have HE := Lib.hid he
          clear he
          go_wp2_with (first
            | (go_at_call 62; refine HC.out.mono ?_; rw [HD.out]; rintro e w2 ⟨rfl, rfl⟩)
            | fail)
          go_roundw
          case rel =>
            refine ⟨k + 1, by omega, by go_num, Lib.hid (fun j hj => ?_), by first | trivial | rfl⟩
            rcases Nat.lt_or_ge j k with h1 | h1
            · exact HS.out j h1
            · obtain rfl : j = k := by omega
              rw [HZ.out, HZ'.out, HE.out]
          case measure => simp [intOf]; omega
        · have HD := Lib.hid (decide_eq_false he)
          have HE := Lib.hid (show decide (qs = qs') = false by
            rw [decide_eq_false_iff_not]
            rintro rfl
            have h1 := HZ.out
            rw [HZ'.out] at h1
            injection h1 with h1
            exact he h1.symm)
          clear he
          go_wp2_with (first
            | (go_at_call 62; refine HC.out.mono ?_; rw [HD.out]; rintro e w2 ⟨rfl, rfl⟩)
            | fail)
          go_ret
          exact ⟨ret_bool HE.out.symm, Below.refl _ _⟩
      · have hkn : k = n := by omega
        have HE := Lib.hid (show decide (qs = qs') = true by
          rw [decide_eq_true_iff]
          apply List.ext_getElem?
          intro j
          rcases Nat.lt_or_ge j n with h1 | h1
          · exact HS.out j (by omega)
          · rw [List.getElem?_eq_none (by have := HL.out; omega), List.getElem?_eq_none (by have := HL'.out; omega)])
        clear hkn hkm
        go_wp2
        go_ret
        exact ⟨ret_bool HE.out.symm, Below.refl _ _⟩
  · have HE := Lib.hid (show decide (qs = qs') = false by
      rw [decide_eq_false_iff_not]; rintro rfl; omega)
    have hd : ((n : Int) == (n' : Int)) = false := by simp; omega
    have hd2 : ((n : Int) != (n' : Int)) = true := by simp; omega
    clear h h' hl hl' hn hn' hne
    go_enter Try.func63, Try.ntmps63
    go_wp2
    go_ret
    exact ⟨ret_bool HE.out.symm, Below.refl _ _⟩
set_option maxHeartbeats 1000000 in
set_option maxRecDepth 100000 in
theorem samePair_any (w : World) {A1 A2 A3 A4 : Option Addr} {c1 c2 c3 c4 B : Nat} {p p' : Pr} (hb : (∀ x ∈ p.1, x < 256) ∧ ∀ x ∈ p.2, x < 256) (hb' : (∀ x ∈ p'.1, x < 256) ∧ ∀ x ∈ p'.2, x < 256)
    (h1 : Rd w B A1 p.1.length (bv p.1)) (h2 : Rd w B A2 p.2.length (bv p.2)) (h3 : Rd w B A3 p'.1.length (bv p'.1)) (h4 : Rd w B A4 p'.2.length (bv p'.2)) :
    Calls Try.prog 66 #[.agg #[.slice A1 p.1.length c1, .slice A2 p.2.length c2], .agg #[.slice A3 p'.1.length c3, .slice A4 p'.2.length c4]] w fun e w' => e = .returned (.bool (decide (p = p'))) ∧ Below w.heap.size w w' := by
  obtain ⟨wz, hwz⟩ : ∃ wz, (w.alloc (.cells #[.slice A1 p.1.length c1, .slice A2 p.2.length c2] 42)).alloc (.cells #[.slice A3 p'.1.length c3, .slice A4 p'.2.length c4] 42) = wz := ⟨_, rfl⟩
  have hbz : Below w.heap.size w wz := by rw [← hwz]; exact ((Below.refl _ _).alloc (Nat.le_refl _) _).alloc (by simp) _
  have HC1 := Lib.hid (equal_any wz A1 A3 p.1.length c1 p'.1.length c3 _ _ p.1 p'.1 hb.1 hb'.1 (h1.fit.below hbz) (h3.fit.below hbz))
  have HC2 := Lib.hid (equal_any wz A2 A4 p.2.length c2 p'.2.length c4 _ _ p.2 p'.2 hb.2 hb'.2 (h2.fit.below hbz) (h4.fit.below hbz))
  have HBZ := Lib.hid hbz
  have HW := Lib.hid hwz
  obtain ⟨g, hg⟩ : ∃ g, w.heap.size = g := ⟨_, rfl⟩
  have HG := Lib.hid hg
  have HV : Hid (Blk wz g 42 #[.slice A1 p.1.length c1, .slice A2 p.2.length c2] ∧ Blk wz (g + 1) 42 #[.slice A3 p'.1.length c3, .slice A4 p'.2.length c4]) := Lib.hid (by
    subst hg
    rw [← hwz]
    refine ⟨(Blk.new _ _ _).alloc _, ?_⟩
    have := Blk.new (w.alloc (.cells #[.slice A1 p.1.length c1, .slice A2 p.2.length c2] 42)) 42 #[.slice A3 p'.1.length c3, .slice A4 p'.2.length c4]
    rwa [World.size_alloc] at this)
  have HP : Hid (decide (p = p') = (decide (p.1 = p'.1) && decide (p.2 = p'.2))) := Lib.hid (by
    rw [Bool.eq_iff_iff]; simp only [decide_eq_true_eq, Bool.and_eq_true]; exact ⟨fun h => by rw [h]; exact ⟨rfl, rfl⟩, fun h => Prod.ext h.1 h.2⟩)
  clear hbz h1 h2 h3 h4 hb hb' hwz hg
  obtain ⟨q1, hq1⟩ : ∃ q, decide (p.1 = p'.1) = q := ⟨_, rfl⟩
  obtain ⟨q2, hq2⟩ : ∃ q, decide (p.2 = p'.2) = q := ⟨_, rfl⟩
  rw [hq1] at HC1 HP
  rw [hq2] at HC2 HP
  rw [HP.out]
  clear hq1 hq2 HP
  go_enter Try.func66, Try.ntmps66
  go_upto_region 1 with fail
  rw [HG.out]
  rw [HW.out]
  have hv := HV.out
  have x0 := hv.1.cell 0
  have x1 := hv.1.cell 1
  have x2 := hv.2.cell 0
  have x3 := hv.2.cell 1
  clear hv
  cases q1
  · go_wp2_with (first
      | (go_at_call 62; refine HC1.out.mono ?_; rintro e w2 ⟨rfl, rfl⟩)
      | fail)
    go_ret
    exact ⟨rfl, HBZ.out⟩
  · go_wp2_with (first
      | (go_at_call_of 62 A1; refine HC1.out.mono ?_; rintro e w2 ⟨rfl, rfl⟩)
      | (go_at_call_of 62 A2; refine HC2.out.mono ?_; rintro e w2 ⟨rfl, rfl⟩)
      | fail)
    go_ret
    exact ⟨by simp, HBZ.out⟩
set_option maxHeartbeats 2000000 in
set_option maxRecDepth 100000 in
theorem equalP_any (w : World) {A A' : Option Addr} {n c n' c' B B' : Nat} {ps ps' : List Pr} (hn : n ≤ 100000) (hn' : n' ≤ 100000) (hb : BytesP ps) (hb' : BytesP ps') (h : RdP w B A n ps) (h' : RdP w B' A' n' ps') :
    Calls Try.prog 65 #[.slice A n c, .slice A' n' c', .func (.func 66) #[] #[]] w fun e w' => e = .returned (.bool (decide (ps = ps'))) ∧ Below w.heap.size w w' := by
  have hl : ps.length = n := h.length
  have hl' : ps'.length = n' := h'.length
  by_cases hne : n = n'
  · subst hne
    have HL := Lib.hid hl
    have HL' := Lib.hid hl'
    have H := Lib.hid h.fit
    have H' := Lib.hid h'.fit
    have HB := Lib.hid hb
    have HB' := Lib.hid hb'
    clear h h' hl hl' hb hb'
    go_enter Try.func65, Try.ntmps65
    go_wp2_with fail
    go_loopw [7, 8, 9, 17] (fun _ _ _ i wr => ∃ j : Nat, j ≤ n ∧ i = .int .i64 j ∧ Hid (∀ i, i < j → ps[i]? = ps'[i]?) ∧ Hid (Below w.heap.size w wr)) (fun _ _ _ i _ => n - (intOf i).toNat)
    case atStart => exact ⟨0, Nat.zero_le _, rfl, Lib.hid (fun i hi => absurd hi (by omega)), Lib.hid (Below.refl _ _)⟩
    case round =>
      obtain ⟨j, hj, rfl, HS, HB0⟩ := hrel
      by_cases hlt : j < n
      · obtain ⟨b, o, p, A1, c1, A2, c2, rfl, hp, hcell1, hcell2, hrd1, hrd2⟩ := (H.out.below HB0.out).fit.at hlt
        obtain ⟨b', o', p', A3, c3, A4, c4, rfl, hp', hcell3, hcell4, hrd3, hrd4⟩ := (H'.out.below HB0.out).fit.at hlt
        have hlt3 := World.block_lt_of_cell? _ _ hcell3
        have hlt4 := World.block_lt_of_cell? _ _ hcell4
        have b1 : Below wr.heap.size wr (wr.alloc (.cells #[.slice A1 p.1.length c1, .slice A2 p.2.length c2] 42)) := (Below.refl _ _).alloc (Nat.le_refl _) _
        have hcell5 : (wr.alloc (.cells #[.slice A1 p.1.length c1, .slice A2 p.2.length c2] 42)).cell? ⟨b', o' + j * 2, none⟩ = some (.slice A3 p'.1.length c3) := (b1.cell (p := ⟨b', o' + j * 2, none⟩) hlt3).trans hcell3
        have hcell6 : (wr.alloc (.cells #[.slice A1 p.1.length c1, .slice A2 p.2.length c2] 42)).cell? ⟨b', o' + j * 2 + 1, none⟩ = some (.slice A4 p'.2.length c4) := (b1.cell (p := ⟨b', o' + j * 2 + 1, none⟩) hlt4).trans hcell4
        have b2 := b1.alloc b1.size (.cells #[.slice A3 p'.1.length c3, .slice A4 p'.2.length c4] 42)
        have HC := Lib.hid (samePair_any _ (c1 := c1) (c2 := c2) (c3 := c3) (c4 := c4) (HB.out p (List.mem_of_getElem? hp)) (HB'.out p' (List.mem_of_getElem? hp')) (hrd1.below b2) (hrd2.below b2) (hrd3.below b2) (hrd4.below b2))
        have HB2 := Lib.hid b2
        have HP := Lib.hid hp
        have HP' := Lib.hid hp'
        clear hp hp' hrd1 hrd2 hrd3 hrd4 hlt3 hlt4 hcell3 hcell4 b1 b2
        by_cases he : p = p'
        · have HD := Lib.hid (decide_eq_true he)
          have HE := Lib.hid he
          clear he
          go_wp2_with (first
            | (go_at_call 66; refine HC.out.mono ?_; rw [HD.out]; rintro e w2 ⟨rfl, hb2⟩)
            | fail)
          go_roundw
          case rel =>
            refine ⟨j + 1, by omega, by go_num, Lib.hid (fun i hi => ?_), Lib.hid (HB0.out.trans ((HB2.out.trans (hb2.mono HB2.out.size)).mono HB0.out.size))⟩
            rcases Nat.lt_or_ge i j with h1 | h1
            · exact HS.out i h1
            · obtain rfl : i = j := by omega
              rw [HP.out, HP'.out, HE.out]
          case measure => simp [intOf]; omega
        · have HD := Lib.hid (decide_eq_false he)
          have HE := Lib.hid (show decide (ps = ps') = false by
            rw [decide_eq_false_iff_not]
            rintro rfl
            have h1 := HP.out
            rw [HP'.out] at h1
            injection h1 with h1
            exact he h1.symm)
          clear he
          go_wp2_with (first
            | (go_at_call 66; refine HC.out.mono ?_; rw [HD.out]; rintro e w2 ⟨rfl, hb2⟩)
            | fail)
          go_ret
          exact ⟨ret_bool HE.out.symm, HB0.out.trans ((HB2.out.trans (hb2.mono HB2.out.size)).mono HB0.out.size)⟩
      · have HE := Lib.hid (show decide (ps = ps') = true by
          rw [decide_eq_true_iff]
          apply List.ext_getElem?
          intro i
          rcases Nat.lt_or_ge i n with h1 | h1
          · exact HS.out i (by omega)
          · rw [List.getElem?_eq_none (by have := HL.out; omega), List.getElem?_eq_none (by have := HL'.out; omega)])
        go_wp2_with fail
        go_ret
        exact ⟨ret_bool HE.out.symm, HB0.out⟩
  · have HE := Lib.hid (show decide (ps = ps') = false by rw [decide_eq_false_iff_not]; rintro rfl; omega)
    have hd : ((n : Int) == (n' : Int)) = false := by simp; omega
    have hd2 : ((n : Int) != (n' : Int)) = true := by simp; omega
    clear h h' hl hl' hne
    go_enter Try.func65, Try.ntmps65
    go_wp2_with fail
    go_ret
    exact ⟨ret_bool HE.out.symm, Below.refl _ _⟩
end Go.Proofs.Ytcmjpjhaaookfaa
namespace Go.Proofs.Ytcmjpjhaaookfaa
open Go.RowKit
set_option linter.unusedVariables false
set_option maxRecDepth 100000 in
set_option maxHeartbeats 2000000 in
theorem same8 (w : World) {a a' : OA} {s s' : Ob} {B B' : Nat} (hI : s.Inv) (hI' : s'.Inv) (h : RdO w B a s) (h' : RdO w B' a' s') :
    Calls Try.prog 19 #[objV a s, objV a' s'] w fun e w' => e = .returned (.bool (s.same s')) ∧ Below w.heap.size w w' := by
  obtain ⟨A0, c0, A1, c1, A2, c2, A3, c3⟩ := a
  obtain ⟨D0, d0, D1, d1, D2, d2, D3, d3⟩ := a'
  obtain ⟨wz, hwz⟩ : ∃ wz, (w.alloc (.cells (objC ⟨A0, c0, A1, c1, A2, c2, A3, c3⟩ s) 32)).alloc (.cells (objC ⟨D0, d0, D1, d1, D2, d2, D3, d3⟩ s') 32) = wz := ⟨_, rfl⟩
  have hbz : Below w.heap.size w wz := by rw [← hwz]; exact ((Below.refl _ _).alloc (Nat.le_refl _) _).alloc (by simp) _
  have H := Lib.hid (h.fit.below hbz)
  have H' := Lib.hid (h'.fit.below hbz)
  have HI := Lib.hid hI
  have HI' := Lib.hid hI'
  have HW := Lib.hid hwz
  have HBZ := Lib.hid hbz
  have m1 : s.q.length ≤ maxLen := by have := hI.ql; unfold maxLen; omega
  have m2 : s'.q.length ≤ maxLen := by have := hI'.ql; unfold maxLen; omega
  have m3 : s.lk.length ≤ maxLen := by have := hI.lkl; unfold maxLen; omega
  have m4 : s'.lk.length ≤ maxLen := by have := hI'.lkl; unfold maxLen; omega
  have m5 : s.mp.length ≤ 100000 := by have := hI.mp.few; omega
  have m6 : s'.mp.length ≤ 100000 := by have := hI'.mp.few; omega
  have C0 := Lib.hid (equal_any wz A0 D0 s.reg.length c0 s'.reg.length d0 _ _ s.reg s'.reg hI.regb hI'.regb H.out.r0 H'.out.r0)
  have C1 : Hid (∀ wx, Below wz.heap.size wz wx → Calls Try.prog 63 #[.slice A1 s.q.length c1, .slice D1 s'.q.length d1, .func (.func 62) #[] #[]] wx fun e w' => e = .returned (.bool (decide (s.q = s'.q))) ∧ Below wx.heap.size wx w') := Lib.hid (fun wx hb => equalQ_any wx hI.qb hI'.qb (H.out.r1.fit.below hb) (H'.out.r1.fit.below hb) m1 m2)
  have C2 : Hid (∀ wx, Below wz.heap.size wz wx → Calls Try.prog 64 #[.slice A2 s.lk.length c2, .slice D2 s'.lk.length d2] wx fun e w' => e = .returned (.bool (decide (s.lk = s'.lk))) ∧ Below wx.heap.size wx w') := Lib.hid (fun wx hb => equalI_any wx _ _ _ _ _ _ _ _ _ _ (H.out.r2.fit.below hb) (H'.out.r2.fit.below hb) m3 m4)
  have C3 : Hid (∀ wx, Below wz.heap.size wz wx → Calls Try.prog 65 #[.slice A3 s.mp.length c3, .slice D3 s'.mp.length d3, .func (.func 66) #[] #[]] wx fun e w' => e = .returned (.bool (decide (s.mp = s'.mp))) ∧ Below wx.heap.size wx w') := Lib.hid (fun wx hb => equalP_any wx m5 m6 hI.mp.byt hI'.mp.byt (H.out.r3.fit.below hb) (H'.out.r3.fit.below hb))
  have HV : Hid (Blk wz w.heap.size 32 (objC ⟨A0, c0, A1, c1, A2, c2, A3, c3⟩ s) ∧ Blk wz (w.heap.size + 1) 32 (objC ⟨D0, d0, D1, d1, D2, d2, D3, d3⟩ s')) := Lib.hid (by
    rw [← hwz]
    refine ⟨(Blk.new _ _ _).alloc _, ?_⟩
    have := Blk.new (w.alloc (.cells (objC ⟨A0, c0, A1, c1, A2, c2, A3, c3⟩ s) 32)) 32 (objC ⟨D0, d0, D1, d1, D2, d2, D3, d3⟩ s')
    rwa [World.size_alloc] at this)
  clear h h' hI hI' hwz hbz m1 m2 m3 m4 m5 m6
  obtain ⟨p1, hp1⟩ : ∃ p, decide (s.reg = s'.reg) = p := ⟨_, rfl⟩
  obtain ⟨p2, hp2⟩ : ∃ p, decide (s.q = s'.q) = p := ⟨_, rfl⟩
  obtain ⟨p3, hp3⟩ : ∃ p, decide (s.lk = s'.lk) = p := ⟨_, rfl⟩
  obtain ⟨p4, hp4⟩ : ∃ p, decide (s.mp = s'.mp) = p := ⟨_, rfl⟩
  have HS := Lib.hid (show s.same s' = (p1 && (p2 && (p3 && p4))) by unfold Ob.same; rw [hp1, hp2, hp3, hp4])
  rw [hp1] at C0
  rw [hp2] at C1
  rw [hp3] at C2
  rw [hp4] at C3
  rw [HS.out]
  clear hp1 hp2 hp3 hp4 HS
  unfold objV
  simp only [objC] at HW HV ⊢
  go_enter Try.func19, Try.ntmps19
  go_upto_region 1 with fail
  rw [HW.out]
  obtain ⟨x0, x1, x2, x3, _, _, _, _⟩ := four HV.out.1
  obtain ⟨y0, y1, y2, y3, _, _, _, _⟩ := four HV.out.2
  cases p1
  case false =>
    go_wp2_with (first
      | (go_at_call 62; refine C0.out.mono ?_; rintro e w2 ⟨rfl, rfl⟩)
      | (go_at_call 63; refine (C1.out _ (Below.refl _ _)).mono ?_; rintro e w2 ⟨rfl, hb2⟩
         have hv2 := And.intro (HV.out.1.below hb2) (HV.out.2.below hb2)
         obtain ⟨x0, x1, x2, x3, _, _, _, _⟩ := four hv2.1
         obtain ⟨y0, y1, y2, y3, _, _, _, _⟩ := four hv2.2
         clear hv2)
      | (go_at_call 64; refine (C2.out _ hb2).mono ?_; rintro e w3 ⟨rfl, hb3⟩
         have hb3' := hb2.trans (hb3.mono hb2.size)
         have hv3 := And.intro (HV.out.1.below hb3') (HV.out.2.below hb3')
         obtain ⟨x0, x1, x2, x3, _, _, _, _⟩ := four hv3.1
         obtain ⟨y0, y1, y2, y3, _, _, _, _⟩ := four hv3.2
         clear hv3)
      | (go_at_call 65; refine (C3.out _ hb3').mono ?_; rintro e w4 ⟨rfl, hb4⟩)
      | fail)
    go_ret
    exact ⟨rfl, HBZ.out⟩
  case true =>
    cases p2
    case false =>
      go_wp2_with (first
        | (go_at_call 62; refine C0.out.mono ?_; rintro e w2 ⟨rfl, rfl⟩)
        | (go_at_call 63; refine (C1.out _ (Below.refl _ _)).mono ?_; rintro e w2 ⟨rfl, hb2⟩
           have hv2 := And.intro (HV.out.1.below hb2) (HV.out.2.below hb2)
           obtain ⟨x0, x1, x2, x3, _, _, _, _⟩ := four hv2.1
           obtain ⟨y0, y1, y2, y3, _, _, _, _⟩ := four hv2.2
           clear hv2)
        | (go_at_call 64; refine (C2.out _ hb2).mono ?_; rintro e w3 ⟨rfl, hb3⟩
           have hb3' := hb2.trans (hb3.mono hb2.size)
           have hv3 := And.intro (HV.out.1.below hb3') (HV.out.2.below hb3')
           obtain ⟨x0, x1, x2, x3, _, _, _, _⟩ := four hv3.1
           obtain ⟨y0, y1, y2, y3, _, _, _, _⟩ := four hv3.2
           clear hv3)
        | (go_at_call 65; refine (C3.out _ hb3').mono ?_; rintro e w4 ⟨rfl, hb4⟩)
        | fail)
      go_ret
      exact ⟨rfl, HBZ.out.trans (hb2.mono HBZ.out.size)⟩
    case true =>
      cases p3
      case false =>
        go_wp2_with (first
          | (go_at_call 62; refine C0.out.mono ?_; rintro e w2 ⟨rfl, rfl⟩)
          | (go_at_call 63; refine (C1.out _ (Below.refl _ _)).mono ?_; rintro e w2 ⟨rfl, hb2⟩
             have hv2 := And.intro (HV.out.1.below hb2) (HV.out.2.below hb2)
             obtain ⟨x0, x1, x2, x3, _, _, _, _⟩ := four hv2.1
             obtain ⟨y0, y1, y2, y3, _, _, _, _⟩ := four hv2.2
             clear hv2)
          | (go_at_call 64; refine (C2.out _ hb2).mono ?_; rintro e w3 ⟨rfl, hb3⟩
             have hb3' := hb2.trans (hb3.mono hb2.size)
             have hv3 := And.intro (HV.out.1.below hb3') (HV.out.2.below hb3')
             obtain ⟨x0, x1, x2, x3, _, _, _, _⟩ := four hv3.1
             obtain ⟨y0, y1, y2, y3, _, _, _, _⟩ := four hv3.2
             clear hv3)
          | (go_at_call 65; refine (C3.out _ hb3').mono ?_; rintro e w4 ⟨rfl, hb4⟩)
          | fail)
        go_ret
        exact ⟨rfl, HBZ.out.trans (hb3'.mono HBZ.out.size)⟩
      case true =>
        cases p4
        case false =>
          go_wp2_with (first
            | (go_at_call 62; refine C0.out.mono ?_; rintro e w2 ⟨rfl, rfl⟩)
            | (go_at_call 63; refine (C1.out _ (Below.refl _ _)).mono ?_; rintro e w2 ⟨rfl, hb2⟩
               have hv2 := And.intro (HV.out.1.below hb2) (HV.out.2.below hb2)
               obtain ⟨x0, x1, x2, x3, _, _, _, _⟩ := four hv2.1
               obtain ⟨y0, y1, y2, y3, _, _, _, _⟩ := four hv2.2
               clear hv2)
            | (go_at_call 64; refine (C2.out _ hb2).mono ?_; rintro e w3 ⟨rfl, hb3⟩
               have hb3' := hb2.trans (hb3.mono hb2.size)
               have hv3 := And.intro (HV.out.1.below hb3') (HV.out.2.below hb3')
               obtain ⟨x0, x1, x2, x3, _, _, _, _⟩ := four hv3.1
               obtain ⟨y0, y1, y2, y3, _, _, _, _⟩ := four hv3.2
               clear hv3)
            | (go_at_call 65; refine (C3.out _ hb3').mono ?_; rintro e w4 ⟨rfl, hb4⟩)
            | fail)
          go_ret
          exact ⟨rfl, (HBZ.out.trans (hb3'.mono HBZ.out.size)).trans (hb4.mono (by have h1 := HBZ.out.size; have h2 := hb3'.size; omega))⟩
        case true =>
          go_wp2_with (first
            | (go_at_call 62; refine C0.out.mono ?_; rintro e w2 ⟨rfl, rfl⟩)
            | (go_at_call 63; refine (C1.out _ (Below.refl _ _)).mono ?_; rintro e w2 ⟨rfl, hb2⟩
               have hv2 := And.intro (HV.out.1.below hb2) (HV.out.2.below hb2)
               obtain ⟨x0, x1, x2, x3, _, _, _, _⟩ := four hv2.1
               obtain ⟨y0, y1, y2, y3, _, _, _, _⟩ := four hv2.2
               clear hv2)
            | (go_at_call 64; refine (C2.out _ hb2).mono ?_; rintro e w3 ⟨rfl, hb3⟩
               have hb3' := hb2.trans (hb3.mono hb2.size)
               have hv3 := And.intro (HV.out.1.below hb3') (HV.out.2.below hb3')
               obtain ⟨x0, x1, x2, x3, _, _, _, _⟩ := four hv3.1
               obtain ⟨y0, y1, y2, y3, _, _, _, _⟩ := four hv3.2
               clear hv3)
            | (go_at_call 65; refine (C3.out _ hb3').mono ?_; rintro e w4 ⟨rfl, hb4⟩)
            | fail)
          go_ret
          exact ⟨rfl, (HBZ.out.trans (hb3'.mono HBZ.out.size)).trans (hb4.mono (by have h1 := HBZ.out.size; have h2 := hb3'.size; omega))⟩
set_option maxRecDepth 100000 in
set_option maxHeartbeats 2000000 in
theorem sameRes8 (w : World) {A A' : Option Addr} {n c n' c' B B' : Nat} {l l' : List Nat} (e e' N N' : Int) (hl : ∀ x ∈ l, x < 256) (hl' : ∀ x ∈ l', x < 256) (h : Rd w B A n (bv l)) (h' : Rd w B' A' n' (bv l')) :
    Calls Try.prog 21 #[resV e A n c N, resV e' A' n' c' N'] w fun en w' => en = .returned (.bool (decide (e = e') && decide (l = l') && decide (N = N'))) ∧ Below w.heap.size w w' := by
  obtain ⟨wz, hwz⟩ : ∃ wz, (w.alloc (.cells #[.int .i64 e, .slice A n c, .int .i64 N] 34)).alloc (.cells #[.int .i64 e', .slice A' n' c', .int .i64 N'] 34) = wz := ⟨_, rfl⟩
  have hbz : Below w.heap.size w wz := by rw [← hwz]; exact ((Below.refl _ _).alloc (Nat.le_refl _) _).alloc (by simp) _
  have HC := Lib.hid (equal_any wz A A' n c n' c' _ _ l l' hl hl' (h.fit.below hbz) (h'.fit.below hbz))
  have HBZ := Lib.hid hbz
  have HW := Lib.hid hwz
  obtain ⟨g, hg⟩ : ∃ g, w.heap.size = g := ⟨_, rfl⟩
  have HG := Lib.hid hg
  have HV : Hid (Blk wz g 34 #[.int .i64 e, .slice A n c, .int .i64 N] ∧ Blk wz (g + 1) 34 #[.int .i64 e', .slice A' n' c', .int .i64 N']) := Lib.hid (by
    subst hg
    rw [← hwz]
    refine ⟨(Blk.new _ _ _).alloc _, ?_⟩
    have := Blk.new (w.alloc (.cells #[.int .i64 e, .slice A n c, .int .i64 N] 34)) 34 #[.int .i64 e', .slice A' n' c', .int .i64 N']
    rwa [World.size_alloc] at this)
  clear hbz h h' hl hl' hwz hg
  obtain ⟨q2, hq2⟩ : ∃ q, decide (l = l') = q := ⟨_, rfl⟩
  rw [hq2] at HC ⊢
  clear hq2
  unfold resV
  by_cases h1 : e = e'
  · subst h1
    rw [decide_eq_true rfl]
    cases q2
    · go_enter Try.func21, Try.ntmps21
      go_upto_region 1 with fail
      rw [HG.out]
      rw [HW.out]
      obtain ⟨x0, x1, x2, _, _, _⟩ := three HV.out.1
      obtain ⟨y0, y1, y2, _, _, _⟩ := three HV.out.2
      go_wp2_with (first
        | (go_at_call 62; refine HC.out.mono ?_; rintro e w2 ⟨rfl, rfl⟩)
        | fail)
      go_ret
      exact ⟨rfl, HBZ.out⟩
    · by_cases h3 : N = N'
      · subst h3
        rw [decide_eq_true rfl]
        go_enter Try.func21, Try.ntmps21
        go_upto_region 1 with fail
        rw [HG.out]
        rw [HW.out]
        obtain ⟨x0, x1, x2, _, _, _⟩ := three HV.out.1
        obtain ⟨y0, y1, y2, _, _, _⟩ := three HV.out.2
        go_wp2_with (first
          | (go_at_call 62; refine HC.out.mono ?_; rintro e w2 ⟨rfl, rfl⟩)
          | fail)
        go_ret
        exact ⟨rfl, HBZ.out⟩
      · have k3 : (N == N') = false := by simpa using h3
        rw [decide_eq_false h3]
        clear  h3
        go_enter Try.func21, Try.ntmps21
        go_upto_region 1 with fail
        rw [HG.out]
        rw [HW.out]
        obtain ⟨x0, x1, x2, _, _, _⟩ := three HV.out.1
        obtain ⟨y0, y1, y2, _, _, _⟩ := three HV.out.2
        go_wp2_with (first
          | (go_at_call 62; refine HC.out.mono ?_; rintro e w2 ⟨rfl, rfl⟩)
          | fail)
        go_ret
        exact ⟨rfl, HBZ.out⟩
  · have k1 : (e == e') = false := by simpa using h1
    rw [decide_eq_false h1]
    clear h1
    go_enter Try.func21, Try.ntmps21
    go_upto_region 1 with fail
    rw [HG.out]
    rw [HW.out]
    obtain ⟨x0, x1, x2, _, _, _⟩ := three HV.out.1
    obtain ⟨y0, y1, y2, _, _, _⟩ := three HV.out.2
    go_wp2_with fail
    go_ret
    exact ⟨rfl, HBZ.out⟩
end Go.Proofs.Ytcmjpjhaaookfaa
namespace Go.Proofs.Ytcmjpjhaaookfaa
open Go.RowKit
set_option linter.unusedVariables false
set_option maxRecDepth 100000 in
set_option maxHeartbeats 2000000 in
theorem ok8 (w : World) (ca : CA) (c : Cm) : Calls Try.prog 13 #[cmdV ca c] w fun e w' => e = .returned (.bool c.ok) ∧ Below w.heap.size w w' := by
  have b0 : Below w.heap.size w (w.alloc (.cells (cmdC ca c) 24)) := (Below.refl _ _).alloc (Nat.le_refl _) _
  obtain ⟨Ak, ck, Av, cv, Ao, co⟩ := ca
  obtain ⟨kind, who, key, val, old⟩ := c
  unfold cmdV
  simp only [cmdC] at b0 ⊢
  have bad : ¬ (1 ≤ kind ∧ kind ≤ 11 ∧ 0 ≤ who ∧ who ≤ 999 ∧ key.length ≤ 32 ∧ val.length ≤ 32 ∧ old.length ≤ 32) → Cm.ok ⟨kind, who, key, val, old⟩ = false := fun h => decide_eq_false h
  have good : (1 ≤ kind ∧ kind ≤ 11 ∧ 0 ≤ who ∧ who ≤ 999 ∧ key.length ≤ 32 ∧ val.length ≤ 32 ∧ old.length ≤ 32) → Cm.ok ⟨kind, who, key, val, old⟩ = true := fun h => decide_eq_true h
  by_cases h1 : 1 ≤ kind ∧ kind ≤ 11
  · have HK := Lib.hid (fun w => isKind_yes w h1)
    by_cases h2 : 0 ≤ who ∧ who ≤ 999
    · have HW := Lib.hid (fun w => isWho_yes w h2)
      by_cases h5 : (key.length : Int) ≤ 32
      · by_cases h6 : (val.length : Int) ≤ 32
        · by_cases h7 : (old.length : Int) ≤ 32
          · rw [good (by omega)]
            clear bad good h1 h2
            go_enter Try.func13, Try.ntmps13
            go_wp2_with (first
              | (go_at_call 43; refine (HK.out _).mono ?_; rintro e w1 ⟨rfl, rfl⟩)
              | (go_at_call 44; refine (HW.out _).mono ?_; rintro e w1 ⟨rfl, rfl⟩)
              | fail)
            go_ret
            exact ⟨rfl, b0⟩
          · rw [bad (by omega)]
            clear bad good h1 h2
            go_enter Try.func13, Try.ntmps13
            go_wp2_with (first
              | (go_at_call 43; refine (HK.out _).mono ?_; rintro e w1 ⟨rfl, rfl⟩)
              | (go_at_call 44; refine (HW.out _).mono ?_; rintro e w1 ⟨rfl, rfl⟩)
              | fail)
            go_ret
            exact ⟨ret_bool (decide_eq_false (by omega)), b0⟩
        · rw [bad (by omega)]
          clear bad good h1 h2
          go_enter Try.func13, Try.ntmps13
          go_wp2_with (first
            | (go_at_call 43; refine (HK.out _).mono ?_; rintro e w1 ⟨rfl, rfl⟩)
            | (go_at_call 44; refine (HW.out _).mono ?_; rintro e w1 ⟨rfl, rfl⟩)
            | fail)
          go_ret
          exact ⟨rfl, b0⟩
      · rw [bad (by omega)]
        clear bad good h1 h2
        go_enter Try.func13, Try.ntmps13
        go_wp2_with (first
          | (go_at_call 43; refine (HK.out _).mono ?_; rintro e w1 ⟨rfl, rfl⟩)
          | (go_at_call 44; refine (HW.out _).mono ?_; rintro e w1 ⟨rfl, rfl⟩)
          | fail)
        go_ret
        exact ⟨rfl, b0⟩
    · have HW := Lib.hid (fun w => isWho_no w h2)
      rw [bad (by omega)]
      clear bad good h1 h2
      go_enter Try.func13, Try.ntmps13
      go_wp2_with (first
        | (go_at_call 43; refine (HK.out _).mono ?_; rintro e w1 ⟨rfl, rfl⟩)
        | (go_at_call 44; refine (HW.out _).mono ?_; rintro e w1 ⟨rfl, rfl⟩)
        | fail)
      go_ret
      exact ⟨rfl, b0⟩
  · have HK := Lib.hid (fun w => isKind_no w h1)
    rw [bad (by omega)]
    clear bad good h1
    go_enter Try.func13, Try.ntmps13
    go_wp2_with (first
      | (go_at_call 43; refine (HK.out _).mono ?_; rintro e w1 ⟨rfl, rfl⟩)
      | fail)
    go_ret
    exact ⟨rfl, b0⟩
end Go.Proofs.Ytcmjpjhaaookfaa
namespace Go.Proofs.Ytcmjpjhaaookfaa
open Go.RowKit
set_option linter.unusedVariables false
theorem awake8 : AwakeC8 := objsAwake apply8 ok8 same8 sameRes8
theorem objsApart_walk (a0 : Option Addr) (len0 cap0 : Nat) (z0 : List Int) (w : World) (w0 : IsRow .i64 w a0 len0 cap0 z0) :
    Calls Try.prog 6 #[.slice a0 len0 cap0] w fun e w' => e = .returned (.bool true) ∧ Below w.heap.size w w' :=
  objsApart_core apply8 awake8 a0 len0 cap0 z0 w w0
end Go.Proofs.Ytcmjpjhaaookfaa
namespace Go.Proofs.Ytcmjpjhaaookfaa
open Go.RowKit
set_option linter.unusedVariables false
theorem objsOwn_walk (a0 : Option Addr) (len0 cap0 : Nat) (z0 : List Int) (a1 : Int) (w : World) (w0 : IsRow .i64 w a0 len0 cap0 z0) (w1 : (Lit.int .i64 a1).wf = true) :
    Calls Try.prog 4 #[.slice a0 len0 cap0, .int .i64 a1] w fun e w' => e = .returned (.bool true) ∧ Below w.heap.size w w' :=
  objsOwn_core apply8 awake8 a0 len0 cap0 z0 a1 w w0
end Go.Proofs.Ytcmjpjhaaookfaa
namespace Go.Proofs.Ytcmjpjhaaookfaa.objsOwn
open Go.ChangeShapes Go.WideShapes Go.ChangeAt Go.RowKit
open Go.ChangeMaps (open_string shut_string)
set_option linter.unusedVariables false

theorem own : ownKnob Try.prog.godebug = none := by kernel_rfl
theorem laidOut : laidOutB Try.prog = true := by kernel_rfl

theorem walk (a0 : Option Addr) (len0 cap0 : Nat) (z0 : List Int) (a1 : Int) (w : World) (w0 : IsRow .i64 w a0 len0 cap0 z0) (w1 : (Lit.int .i64 a1).wf = true) :
    Calls Try.prog 4 #[.slice a0 len0 cap0, .int .i64 a1] w fun e w' => e = .returned (.bool true) ∧ Below w.heap.size w w' := by
  exact objsOwn_walk a0 len0 cap0 z0 a1 w w0 w1

set_option maxRecDepth 100000 in
theorem lifted (os : Os) (started : os.Started) (H : Type) (enc : TypeId × Value → H) :
    ReturnsInHanded {} Try.checked os 4 .any (Rows.objsOwnSpec.pre6 enc Try.prog Try.f4 Rows.objsOwnRow.domain false) (Rows.objsOwnSpec.post enc Try.prog Try.f4 false true false false) := by
  refine returnsInHanded_of_change (C := Try.checked) own started (by kernel_rfl) Try.func4
    (ChangeSpec.witness6 (enc := enc) (C := Try.checked) false ⟨#[], #[.slice none 0 0, .int .i64 0], []⟩ 8 (by kernel_rfl) (by kernel_rfl) (by kernel_rfl) (by kernel_rfl)) ?_
  intro W base args ds gs before hval0 hW hcnd _
  have hval : ∀ (j : Nat) t v, Try.f4.params[j]? = some t → args[j]? = some v → Value.okWide Try.prog W .any base t v := hval0
  have hW' := hW
  obtain ⟨p, q, hA0, hV, rfl, hfz, hnd⟩ := hW
  have hA : DataW.TrodAll enc Try.prog W 0 (fun _ => true) true Try.f4.params.toList args.toList ds p := hA0
  rw [Try.params4] at hA hval
  obtain ⟨v0, vs0, d0, ds0, p0, q0, hargs, rfl, rfl, h0, r0⟩ := trodAll_cons hA
  obtain ⟨v1, vs1, d1, ds1, p1, q1, rfl, rfl, rfl, h1, r1⟩ := trodAll_cons r0
  obtain ⟨rfl, rfl, rfl⟩ := trodAll_nil r1
  obtain rfl : args = #[v0, v1] := by cases args; simp_all
  obtain ⟨rfl, rfl⟩ := trodVars_none hV
  obtain ⟨a0, len0, cap0, rfl⟩ := okWide_slice Try.underlying29 (hval 0 29 v0 rfl rfl)
  have k0 := h0
  have lt0 : ∀ x ∈ p0, x.block < W.heap.size := by obtain ⟨m, hm⟩ := k0; exact DataW.trod_lt m _ _ _ hm
  obtain ⟨z0, w0⟩ : ∃ zs, IsRow .i64 W a0 len0 cap0 zs := by
    obtain ⟨fuel, hf⟩ := h0
    rcases open_ints Try.underlying29 Try.underlying3 (by kernel_rfl) hf with ⟨hcs, _⟩ | ⟨x, l, c, zs, hcs, _, hl, hm, hz, _, hcell, hwz⟩
    · simp [Value.cells] at hcs
      obtain ⟨rfl, rfl, rfl⟩ := hcs
      exact ⟨[], .inl ⟨rfl, rfl, rfl, rfl⟩⟩
    · simp [Value.cells] at hcs
      obtain ⟨rfl, rfl, rfl⟩ := hcs
      exact ⟨zs, .inr ⟨_, rfl, hl, hm, by simpa using hz, hcell, hwz⟩⟩
  obtain ⟨a1, rfl, rfl, rfl, w1⟩ := open_int Try.underlying3 (hval 1 3 v1 rfl rfl) h1
  clear hA0 hval0
  refine (walk a0 len0 cap0 z0 a1 W w0 w1).mono fun e W' ⟨he, bel⟩ => ?_
  subst he
  exact ⟨_, rfl, _, _, _, [], _, [], hW', trodAll_mk1 (shut_bool Try.underlying4 _), (trodAll_cons_mk (Below.trod laidOut (by kernel_rfl) (of_decide_eq_true (by kernel_rfl)) k0 bel lt0) (trodAll_cons_mk (shut_int Try.underlying3 w1) trodAll_mk0)), rfl, bel.frame _, fun h => by cases h⟩

theorem over : Rows.objsOwnRow.holds Try.pinned (OpenSpec.ofChange Rows.objsOwnSpec) :=
  OpenClaim.holds_of_wide 4 Try.f4 rfl rfl rfl rfl rfl rfl rfl ⟨rfl, rfl, rfl, rfl, rfl⟩ rfl rfl rfl rfl rfl (by kernel_rfl) Try.func4 (by kernel_rfl)
    (of_decide_eq_true (by kernel_rfl)) (by unfold Func.isWrapper; first | (rw [if_pos (by decide +kernel)]; kernel_rfl) | (rw [if_neg (by decide +kernel)]; exact ⟨rfl, rfl⟩))
    (fun os started H enc _ => lifted os started H enc)

theorem proved : Rows.ObjsOwnSaid := over
end Go.Proofs.Ytcmjpjhaaookfaa.objsOwn
