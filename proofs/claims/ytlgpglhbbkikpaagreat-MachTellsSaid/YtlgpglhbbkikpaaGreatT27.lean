/- CmdRow EntRow MachTellsWalk -/
import Derived.Test.YtlgpglhbbkikpaaGreatT01
import Derived.Test.YtlgpglhbbkikpaaGreatT10
import Derived.Test.YtlgpglhbbkikpaaGreatT20
import Derived.Test.YtlgpglhbbkikpaaGreatT26
import Derived.Deep.Slices
namespace Go.Proofs.YtlgpglhbbkikpaaGreat
open Go.RowKit
set_option linter.unusedVariables false
structure Cm.Bytes (c : Cm) : Prop where
 key : ∀ x ∈ c.key, x < 256
 val : ∀ x ∈ c.val, x < 256
 old : ∀ x ∈ c.old, x < 256
open Go.ChangeShapes Go.WideShapes Go.ChangeAt in
theorem cell_row {H : Type} {enc : TypeId × Value -> H} {P : Program} {w : World} {t q : TypeId} {n : Nat} {v : Value} {y : DataW H × List MemPlace} (ht : P.underlying t = some (.slice q)) (hq : P.underlying q = some (.int .u8)) (cq : P.cellsOf q = 1)
 (h : DataW.trod enc P w 0 (fun _ => true) true n t [v] = some y) : ∃ (a : Option Addr) (c : Nat) (l : List Nat), v = .slice a l.length c /\ (∀ x ∈ l, x < 256) /\ Rd w w.heap.size a l.length (bv l) := by
 have hrow : ∃ a len cap zs, v = .slice a len cap /\ IsRow .u8 w a len cap zs := by
  rcases open_ints ht hq cq h with ⟨hcs, _⟩ | ⟨x, l, c, zs, hcs, _, hl, hm, hz, _, hcell, hwz⟩
  · simp at hcs
    subst hcs
    exact ⟨none, 0, 0, [], rfl, .inl ⟨rfl, rfl, rfl, rfl⟩⟩
  · simp at hcs
    subst hcs
    exact ⟨some x, l, c, zs, rfl, .inr ⟨_, rfl, hl, hm, by simpa using hz, hcell, hwz⟩⟩
 obtain ⟨a, len, cap, zs, rfl, hr⟩ := hrow
 obtain ⟨l, h1, h2, _⟩ := hr.rd
 obtain rfl := h2.length
 exact ⟨a, cap, l, rfl, h1, h2⟩
open Go.ChangeShapes Go.WideShapes Go.ChangeAt in
theorem cell_int {H : Type} {enc : TypeId × Value -> H} {P : Program} {w : World} {t : TypeId} {n : Nat} {v : Value} {y : DataW H × List MemPlace} (ht : P.underlying t = some (.int .i64))
 (h : DataW.trod enc P w 0 (fun _ => true) true n t [v] = some y) : ∃ z, v = .int .i64 z := by
 obtain ⟨z, h1, _⟩ := DataW.trod_int ht h
 simp at h1
 exact ⟨z, h1⟩
theorem list5 {α : Type} {l : List α} (h : l.length = 5) : ∃ a b c d e, l = [a, b, c, d, e] := by
 match l, h with
 | [a, b, c, d, e], _ => exact ⟨a, b, c, d, e, rfl⟩
def IsRowE (w : World) (a : Option Addr) (len cap : Nat) (es : List En) : Prop := RdE w w.heap.size a len es /\ (∀ e ∈ es, e.c.Bytes) /\ len <= cap /\ cap <= maxLen
theorem addr_add2 (b o m i : Nat) : ((⟨b, o, none⟩ : Addr).add m).add i = ⟨b, o + m + i, none⟩ := by
 rw [Go.Deep.add_add]; unfold Addr.add; split <;> simp_all <;> omega
theorem list7 {α : Type} {l : List α} (h : l.length = 7) : ∃ a b c d e f g, l = [a, b, c, d, e, f, g] := by
 match l, h with
 | [a, b, c, d, e, f, g], _ => exact ⟨a, b, c, d, e, f, g, rfl⟩
theorem list3 {α : Type} {l : List α} (h : l.length = 3) : ∃ a b c, l = [a, b, c] := by
 match l, h with
 | [a, b, c], _ => exact ⟨a, b, c, rfl⟩
open Go.ChangeShapes Go.WideShapes Go.ChangeAt in
theorem isRowE_of {H : Type} {enc : TypeId × Value -> H} {P : Program} {w : World} {t e q : TypeId} {g0 g1 g2 f0 f1 f2 f3 f4 : Field} {d : DataW H} {ps : List MemPlace} {a : Option Addr} {len cap : Nat} (ht : P.underlying t = some (.slice e)) (he : P.underlying e = some (.struct #[g0, g1, g2]))
 (ce : P.cellsOf e = 7) (p0 : g0.offset = 0) (p1 : g1.offset = 1) (p2 : g2.offset = 2) (d0 : P.cellsOf g0.type = 1) (d1 : P.cellsOf g1.type = 1) (d2 : P.cellsOf g2.type = 5)
 (k0 : P.underlying g0.type = some (.int .i64)) (k1 : P.underlying g1.type = some (.int .i64)) (k2 : P.underlying g2.type = some (.struct #[f0, f1, f2, f3, f4]))
 (o0 : f0.offset = 0) (o1 : f1.offset = 1) (o2 : f2.offset = 2) (o3 : f3.offset = 3) (o4 : f4.offset = 4)
 (c0 : P.cellsOf f0.type = 1) (c1 : P.cellsOf f1.type = 1) (c2 : P.cellsOf f2.type = 1) (c3 : P.cellsOf f3.type = 1) (c4 : P.cellsOf f4.type = 1)
 (h0 : P.underlying f0.type = some (.int .i64)) (h1 : P.underlying f1.type = some (.int .i64)) (h2 : P.underlying f2.type = some (.slice q)) (h3 : P.underlying f3.type = some (.slice q)) (h4 : P.underlying f4.type = some (.slice q))
 (hq : P.underlying q = some (.int .u8)) (cq : P.cellsOf q = 1) (h : DataW.Trod enc P w 0 (fun _ => true) true t (.slice a len cap) d ps) : ∃ es, IsRowE w a len cap es := by
 obtain ⟨fuel, hf⟩ := h
 rcases Go.Deep.open_slice ht hf with ⟨hcs, _⟩ | ⟨x, l, c, m, n, D, Pl, hcs, _, hl, hm, hmm, _, hx⟩
 · simp [Value.cells] at hcs
   obtain ⟨rfl, rfl, rfl⟩ := hcs
   exact ⟨[], ⟨[], ⟨rfl, fun h => absurd h (by omega)⟩, ⟨rfl, fun i e he => by simp at he⟩⟩, (fun e he => (by cases he)), Nat.le_refl _, by decide⟩
 · simp [Value.cells] at hcs
   obtain ⟨rfl, rfl, rfl⟩ := hcs
   simp only [if_true] at hmm
   subst hmm
   have each : ∀ r, ∃ p : En × CA, r < m -> (∀ i v, (entL p.2 p.1)[i]? = some v -> w.cell? ((x.add (r * 7)).add i) = some v) /\ RdC w w.heap.size p.2 p.1.c /\ p.1.c.Bytes := by
    intro r
    by_cases hr : r < m
    · obtain ⟨cs', g1', g2'⟩ := hx r hr
      rw [ce] at g1'
      obtain ⟨_, hlen, hcell⟩ := World.cells?_some g1'
      obtain ⟨xs, k, _, _, _, hxl, hfd⟩ := DataW.trod_struct he g2'
      obtain ⟨v0, v1, v2, v3, v4, v5, v6, rfl⟩ := list7 hlen
      obtain ⟨y0, y1, y2, rfl⟩ := list3 (l := xs) (by simpa using hxl)
      have e0 := hfd 0 g0 rfl
      have e1 := hfd 1 g1 rfl
      have e2 := hfd 2 g2 rfl
      rw [p0, d0] at e0
      rw [p1, d1] at e1
      rw [p2, d2] at e2
      obtain ⟨z0, rfl⟩ := cell_int k0 (v := v0) (y := y0) e0
      obtain ⟨z1, rfl⟩ := cell_int k1 (v := v1) (y := y1) e1
      obtain ⟨xs2, k', _, _, _, hxl2, hfd2⟩ := DataW.trod_struct k2 e2
      obtain ⟨u0, u1, u2, u3, u4, rfl⟩ := list5 (l := xs2) (by simpa using hxl2)
      have e2 := hfd2 0 f0 rfl
      have e3 := hfd2 1 f1 rfl
      have e4 := hfd2 2 f2 rfl
      have e5 := hfd2 3 f3 rfl
      have e6 := hfd2 4 f4 rfl
      rw [o0, c0] at e2
      rw [o1, c1] at e3
      rw [o2, c2] at e4
      rw [o3, c3] at e5
      rw [o4, c4] at e6
      obtain ⟨z2, rfl⟩ := cell_int h0 (v := v2) (y := u0) e2
      obtain ⟨z3, rfl⟩ := cell_int h1 (v := v3) (y := u1) e3
      obtain ⟨A2, k2, l2, rfl, b2, r2⟩ := cell_row h2 hq cq (v := v4) (y := u2) e4
      obtain ⟨A3, k3, l3, rfl, b3, r3⟩ := cell_row h3 hq cq (v := v5) (y := u3) e5
      obtain ⟨A4, k4, l4, rfl, b4, r4⟩ := cell_row h4 hq cq (v := v6) (y := u4) e6
      refine ⟨(⟨z0, z1, ⟨z2, z3, l2, l3, l4⟩⟩, ⟨A2, k2, A3, k3, A4, k4⟩), fun _ => ⟨fun i v hv => ?_, ⟨r2, r3, r4⟩, ⟨b2, b3, b4⟩⟩⟩
      have hi : i < 7 := by
       rcases Nat.lt_or_ge i 7 with h' | h'
       · exact h'
       · rw [List.getElem?_eq_none (by simpa [entL] using h')] at hv; cases hv
      rw [hcell i hi]
      rw [<- hv]
      rfl
    · exact ⟨(⟨0, 0, ⟨0, 0, [], [], []⟩⟩, ⟨none, 0, none, 0, none, 0⟩), fun h => absurd h hr⟩
   obtain ⟨f, hff⟩ := Classical.axiomOfChoice each
   have hel : ∀ i, i < len -> ((List.range len).map fun r => (f r).1)[i]? = some (f i).1 := fun i hi => by rw [List.getElem?_map, List.getElem?_range hi]; rfl
   have hvs : ∀ j, j < len * 7 -> ((List.range (len * 7)).map fun j => (entL (f (j / 7)).2 (f (j / 7)).1).getD (j % 7) undef)[j]? = some ((entL (f (j / 7)).2 (f (j / 7)).1).getD (j % 7) undef) := fun j hj => by rw [List.getElem?_map, List.getElem?_range hj]; rfl
   have hgd : ∀ j, (entL (f (j / 7)).2 (f (j / 7)).1)[j % 7]? = some ((entL (f (j / 7)).2 (f (j / 7)).1).getD (j % 7) undef) := fun j => by
    rw [List.getD_eq_getElem?_getD, List.getElem?_eq_getElem (by rw [entL_length]; omega)]; rfl
   refine ⟨(List.range len).map fun r => (f r).1, ⟨(List.range (len * 7)).map fun j => (entL (f (j / 7)).2 (f (j / 7)).1).getD (j % 7) undef, ⟨by simp, fun hp => ?_⟩, ⟨by simp, fun i e hi => ?_⟩⟩, fun e he => ?_, hl, hm⟩
   · obtain ⟨b, o, s⟩ := x
     have g0' := (hff 0 (by omega)).1 0 _ rfl
     have hs : s = none := by
      have := World.cell?_spot g0'
      simpa [Addr.add] using this
     subst hs
     have ea : ∀ k i, ((⟨b, o, none⟩ : Addr).add (k * 7)).add i = ⟨b, o + k * 7 + i, none⟩ := fun k i => addr_add2 b o (k * 7) i
     refine ⟨b, o, rfl, ?_, fun j hj => ?_⟩
     · rw [ea] at g0'
       exact World.block_lt_of_cell? _ _ g0'
     · have h1 := (hff (j / 7) (by omega)).1 (j % 7) _ (hgd j)
       rw [ea] at h1
       have h2 : o + j / 7 * 7 + j % 7 = o + j := by omega
       rw [h2] at h1
       rw [h1, hvs j hj]
   · have hil : i < len := by have := (List.getElem?_eq_some_iff.1 hi).1; simpa using this
     rw [hel i hil] at hi
     injection hi with hi
     subst hi
     refine ⟨(f i).2, fun j v hv => ?_, (hff i (by omega)).2.1⟩
     have hj : j < 7 := by have := (List.getElem?_eq_some_iff.1 hv).1; simpa [entL] using this
     rw [hvs (i * 7 + j) (by omega)]
     have q1 : (i * 7 + j) / 7 = i := by omega
     have q2 : (i * 7 + j) % 7 = j := by omega
     rw [q1, q2, List.getD_eq_getElem?_getD, hv]
     rfl
   · obtain ⟨r, hr, rfl⟩ := List.mem_map.1 he
     have hr' : r < len := by simpa using hr
     exact (hff r (by omega)).2.2
theorem isRowE {H : Type} {enc : TypeId × Value -> H} {w : World} {d : DataW H} {ps : List MemPlace} {a : Option Addr} {len cap : Nat} (h : DataW.Trod enc Tryz.prog w 0 (fun _ => true) true 23 (.slice a len cap) d ps) : ∃ es, IsRowE w a len cap es :=
 isRowE_of (q := 5) Tryz.underlying23 Tryz.underlying29 (by kernel_rfl) rfl rfl rfl (by kernel_rfl) (by kernel_rfl) (by kernel_rfl) Tryz.underlying3 Tryz.underlying3 Tryz.underlying27 rfl rfl rfl rfl rfl (by kernel_rfl) (by kernel_rfl) (by kernel_rfl) (by kernel_rfl) (by kernel_rfl) Tryz.underlying3 Tryz.underlying3 Tryz.underlying24 Tryz.underlying24 Tryz.underlying24 Tryz.underlying5 (by kernel_rfl) h
theorem machTells_walk (a0 : Option Addr) (len0 cap0 : Nat) (z0 : List Int) (a1 : Option Addr) (len1 cap1 : Nat) (z1 : List En) (a2 : Option Addr) (len2 cap2 : Nat) (z2 : List Int) (a3 : Int) (a4 : Int) (w : World)
 (w0 : IsRow .i64 w a0 len0 cap0 z0) (w1 : IsRowE w a1 len1 cap1 z1) (w2 : IsRow .u8 w a2 len2 cap2 z2) (w3 : (Lit.int .i64 a3).wf = true) (w4 : (Lit.int .u8 a4).wf = true) :
 Calls Tryz.prog 3 #[.slice a0 len0 cap0, .slice a1 len1 cap1, .slice a2 len2 cap2, .int .i64 a3, .int .u8 a4] w fun e w' => e = .returned (.bool true) /\ Below w.heap.size w w' := by
 have h := w0.ints
 obtain ⟨l, hl, hr, hle, hcap⟩ := w2.rd
 obtain ⟨y, rfl, hy⟩ := u8_nat w4
 exact machTells_core step10 encode10 decode10 sameM10 sameE10 awake10 a3 y hy (Nat.le_trans h.2.2.1 h.2.2.2) (Nat.le_trans w1.2.2.1 w1.2.2.2) ⟨hle, hcap⟩ w h.1 w1.1 (fun e he => ⟨(w1.2.1 e he).key, (w1.2.1 e he).val, (w1.2.1 e he).old⟩) hr hl
end Go.Proofs.YtlgpglhbbkikpaaGreat
