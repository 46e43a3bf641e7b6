/- MsgRow -/
import Derived.Test.YtlfkgpllleogoaaMT05
import Derived.Test.YtlfkgpllleogoaaMT16
import Derived.WideShapes
namespace Go.Proofs.Ytlfkgpllleogoaa
open Go.RowKit
set_option linter.unusedVariables false
/-- what a proof's frame tells of a message that came in -/
structure IsMsg (w : World) (a : GA) (m : Mg) : Prop where
  rd : RdG w w.heap.size a m
  d : ∀ x ∈ m.data, x < 256
  c : m.ent.c.Bytes
/-- a row's length, as its datum has it -/
def slen {H : Type} : DataW H → Nat
  | .slice e _ => e.length
  | _ => 0
/-- the datum of a message is as long as its entry's rows -/
def LongG {H : Type} (d : DataW H) (m : Mg) : Prop :=
  ∃ xs p0 p1 c0 c1 dk dv dd, d = .agg xs ∧ DataW.agg [p0, p1, .agg [c0, c1, dk, dv, dd]] ∈ xs ∧ m.ent.c.key.length ≤ slen dk ∧ m.ent.c.val.length ≤ slen dv ∧ m.ent.c.old.length ≤ slen dd
open Go.ChangeShapes Go.WideShapes Go.ChangeAt in
theorem cell_rowS {H : Type} {enc : TypeId × Value → H} {P : Program} {w : World} {t q : TypeId} {n : Nat} {v : Value} {y : DataW H × List MemPlace} (ht : P.underlying t = some (.slice q)) (hq : P.underlying q = some (.int .u8)) (cq : P.cellsOf q = 1)
    (h : DataW.trod enc P w 0 (fun _ => true) true n t [v] = some y) : ∃ (a : Option Addr) (c : Nat) (l : List Nat), v = .slice a l.length c ∧ (∀ x ∈ l, x < 256) ∧ Rd w w.heap.size a l.length (bv l) ∧ l.length ≤ slen y.1 := by
  have hrow : ∃ a len cap zs, v = .slice a len cap ∧ IsRow .u8 w a len cap zs ∧ len ≤ slen y.1 := by
    rcases open_ints ht hq cq h with ⟨hcs, _⟩ | ⟨x, l, c, zs, hcs, _, hl, hm, hz, hy, hcell, hwz⟩
    · simp at hcs
      subst hcs
      exact ⟨none, 0, 0, [], rfl, .inl ⟨rfl, rfl, rfl, rfl⟩, Nat.zero_le _⟩
    · simp at hcs
      subst hcs
      refine ⟨some x, l, c, zs, rfl, .inr ⟨_, rfl, hl, hm, by simpa using hz, hcell, hwz⟩, ?_⟩
      subst hy
      have hz' : zs.length = c := by simpa using hz
      simp [slen, lits]
      omega
  obtain ⟨a, len, cap, zs, rfl, hr, hle⟩ := hrow
  obtain ⟨l, h1, h2, _⟩ := hr.rd
  obtain rfl := h2.length
  exact ⟨a, cap, l, rfl, h1, h2, hle⟩
open Go.ChangeShapes Go.WideShapes Go.ChangeAt in
theorem cell_ints {H : Type} {enc : TypeId × Value → H} {P : Program} {w : World} {t q : TypeId} {n : Nat} {v : Value} {y : DataW H × List MemPlace} (ht : P.underlying t = some (.slice q)) (hq : P.underlying q = some (.int .i64)) (cq : P.cellsOf q = 1)
    (h : DataW.trod enc P w 0 (fun _ => true) true n t [v] = some y) : ∃ (a : Option Addr) (c : Nat) (l : List Int), v = .slice a l.length c ∧ Rd w w.heap.size a l.length (iv l) ∧ l.length ≤ c ∧ c ≤ maxLen := by
  have hrow : ∃ a len cap zs, v = .slice a len cap ∧ IsRow .i64 w a len cap zs := by
    rcases open_ints ht hq cq h with ⟨hcs, _⟩ | ⟨x, l, c, zs, hcs, _, hl, hm, hz, _, hcell, hwz⟩
    · simp at hcs
      subst hcs
      exact ⟨none, 0, 0, [], rfl, .inl ⟨rfl, rfl, rfl, rfl⟩⟩
    · simp at hcs
      subst hcs
      exact ⟨some x, l, c, zs, rfl, .inr ⟨_, rfl, hl, hm, by simpa using hz, hcell, hwz⟩⟩
  obtain ⟨a, len, cap, zs, rfl, hr⟩ := hrow
  obtain ⟨h2, hl, h4, h5⟩ := hr.ints
  refine ⟨a, cap, zs.take len, by rw [hl], by rw [hl]; exact h2, by rw [hl]; exact h4, h5⟩
open Go.ChangeShapes Go.WideShapes Go.ChangeAt in
theorem cell_bool {H : Type} {enc : TypeId × Value → H} {P : Program} {w : World} {t : TypeId} {n : Nat} {v : Value} {y : DataW H × List MemPlace} (ht : P.underlying t = some .bool)
    (h : DataW.trod enc P w 0 (fun _ => true) true n t [v] = some y) : ∃ b, v = .bool b := by
  obtain ⟨z, h1, _⟩ := DataW.trod_bool ht h
  simp at h1
  exact ⟨z, h1⟩
theorem list24 {α : Type} {l : List α} (h : l.length = 24) : ∃ x0 x1 x2 x3 x4 x5 x6 x7 x8 x9 x10 x11 x12 x13 x14 x15 x16 x17 x18 x19 x20 x21 x22 x23, l = [x0, x1, x2, x3, x4, x5, x6, x7, x8, x9, x10, x11, x12, x13, x14, x15, x16, x17, x18, x19, x20, x21, x22, x23] := by
  match l, h with
  | [x0, x1, x2, x3, x4, x5, x6, x7, x8, x9, x10, x11, x12, x13, x14, x15, x16, x17, x18, x19, x20, x21, x22, x23], _ => exact ⟨x0, x1, x2, x3, x4, x5, x6, x7, x8, x9, x10, x11, x12, x13, x14, x15, x16, x17, x18, x19, x20, x21, x22, x23, rfl⟩
theorem list18 {α : Type} {l : List α} (h : l.length = 18) : ∃ x0 x1 x2 x3 x4 x5 x6 x7 x8 x9 x10 x11 x12 x13 x14 x15 x16 x17, l = [x0, x1, x2, x3, x4, x5, x6, x7, x8, x9, x10, x11, x12, x13, x14, x15, x16, x17] := by
  match l, h with
  | [x0, x1, x2, x3, x4, x5, x6, x7, x8, x9, x10, x11, x12, x13, x14, x15, x16, x17], _ => exact ⟨x0, x1, x2, x3, x4, x5, x6, x7, x8, x9, x10, x11, x12, x13, x14, x15, x16, x17, rfl⟩
theorem list3 {α : Type} {l : List α} (h : l.length = 3) : ∃ x0 x1 x2, l = [x0, x1, x2] := by
  match l, h with
  | [x0, x1, x2], _ => exact ⟨x0, x1, x2, rfl⟩
open Go.ChangeShapes Go.WideShapes Go.ChangeAt in
theorem trod_part {H : Type} {enc : TypeId × Value → H} {P : Program} {w : World} {t : TypeId} {n o c : Nat} {vs us : List Value} {y : Option (DataW H × List MemPlace)} (h : DataW.trod enc P w 0 (fun _ => true) true n t ((vs.drop o).take (P.cellsOf t)) = y) (hc : P.cellsOf t = c) (hu : (vs.drop o).take c = us) : DataW.trod enc P w 0 (fun _ => true) true n t us = y := by
  subst hu hc; exact h
set_option maxHeartbeats 1000000 in
open Go.ChangeShapes Go.WideShapes Go.ChangeAt in
set_option maxRecDepth 100000 in
theorem isMsg {H : Type} {enc : TypeId × Value → H} {w : World} {r : Reach} {b0 : Nat} {v : Value} {d : DataW H} {ps : List MemPlace} (hv : Value.okWide Try.prog w r b0 29 v) (h : DataW.Trod enc Try.prog w 0 (fun _ => true) true 29 v d ps) : ∃ a m, v = msgV a m ∧ IsMsg w a m ∧ LongG d m := by
  have cI : (Try.prog).cellsOf 3 = 1 := by kernel_rfl
  have cB : (Try.prog).cellsOf 4 = 1 := by kernel_rfl
  have cR : (Try.prog).cellsOf 22 = 1 := by kernel_rfl
  have cN : (Try.prog).cellsOf 23 = 1 := by kernel_rfl
  have cE : (Try.prog).cellsOf 27 = 7 := by kernel_rfl
  have cC : (Try.prog).cellsOf 25 = 5 := by kernel_rfl
  have cM : (Try.prog).cellsOf 29 = 24 := by kernel_rfl
  have cU : (Try.prog).cellsOf 5 = 1 := by kernel_rfl
  obtain ⟨cs, rfl, hsz⟩ := okWide_struct Try.underlying29 hv
  rw [cM] at hsz
  obtain ⟨fuel, hf⟩ := h
  obtain ⟨xs, k, _, hx0, _, hxl, hfd⟩ := DataW.trod_struct Try.underlying29 hf
  obtain ⟨cs⟩ := cs
  obtain ⟨v0, v1, v2, v3, v4, v5, v6, v7, v8, v9, v10, v11, v12, v13, v14, v15, v16, v17, v18, v19, v20, v21, v22, v23, rfl⟩ := list24 (l := cs) (by simpa using hsz)
  obtain ⟨y0, y1, y2, y3, y4, y5, y6, y7, y8, y9, y10, y11, y12, y13, y14, y15, y16, y17, rfl⟩ := list18 (l := xs) (by simpa using hxl)
  have e0 := trod_part (t := 3) (o := 0) (us := [v0]) (hfd 0 _ rfl) cI rfl
  obtain ⟨z0, rfl⟩ := cell_int Try.underlying3 (v := v0) (y := y0) e0
  have e1 := trod_part (t := 3) (o := 1) (us := [v1]) (hfd 1 _ rfl) cI rfl
  obtain ⟨z1, rfl⟩ := cell_int Try.underlying3 (v := v1) (y := y1) e1
  have e2 := trod_part (t := 3) (o := 2) (us := [v2]) (hfd 2 _ rfl) cI rfl
  obtain ⟨z2, rfl⟩ := cell_int Try.underlying3 (v := v2) (y := y2) e2
  have e3 := trod_part (t := 3) (o := 3) (us := [v3]) (hfd 3 _ rfl) cI rfl
  obtain ⟨z3, rfl⟩ := cell_int Try.underlying3 (v := v3) (y := y3) e3
  have e4 := trod_part (t := 3) (o := 4) (us := [v4]) (hfd 4 _ rfl) cI rfl
  obtain ⟨z4, rfl⟩ := cell_int Try.underlying3 (v := v4) (y := y4) e4
  have e5 := trod_part (t := 3) (o := 5) (us := [v5]) (hfd 5 _ rfl) cI rfl
  obtain ⟨z5, rfl⟩ := cell_int Try.underlying3 (v := v5) (y := y5) e5
  have e6 := trod_part (t := 4) (o := 6) (us := [v6]) (hfd 6 _ rfl) cB rfl
  obtain ⟨z6, rfl⟩ := cell_bool Try.underlying4 (v := v6) (y := y6) e6
  have e7 := trod_part (t := 3) (o := 7) (us := [v7]) (hfd 7 _ rfl) cI rfl
  obtain ⟨z7, rfl⟩ := cell_int Try.underlying3 (v := v7) (y := y7) e7
  have e8 := trod_part (t := 3) (o := 8) (us := [v8]) (hfd 8 _ rfl) cI rfl
  obtain ⟨z8, rfl⟩ := cell_int Try.underlying3 (v := v8) (y := y8) e8
  have e9 := trod_part (t := 3) (o := 9) (us := [v9]) (hfd 9 _ rfl) cI rfl
  obtain ⟨z9, rfl⟩ := cell_int Try.underlying3 (v := v9) (y := y9) e9
  have e10 := trod_part (t := 3) (o := 10) (us := [v10]) (hfd 10 _ rfl) cI rfl
  obtain ⟨z10, rfl⟩ := cell_int Try.underlying3 (v := v10) (y := y10) e10
  have e11 := trod_part (t := 22) (o := 11) (us := [v11]) (hfd 11 _ rfl) cR rfl
  obtain ⟨A11, k11, l11, rfl, b11, r11⟩ := cell_row Try.underlying22 Try.underlying5 cU (v := v11) (y := y11) e11
  have e12 := trod_part (t := 3) (o := 12) (us := [v12]) (hfd 12 _ rfl) cI rfl
  obtain ⟨z12, rfl⟩ := cell_int Try.underlying3 (v := v12) (y := y12) e12
  have e13 := trod_part (t := 3) (o := 13) (us := [v13]) (hfd 13 _ rfl) cI rfl
  obtain ⟨z13, rfl⟩ := cell_int Try.underlying3 (v := v13) (y := y13) e13
  have e14 := trod_part (t := 23) (o := 14) (us := [v14]) (hfd 14 _ rfl) cN rfl
  obtain ⟨A14, k14, l14, rfl, r14, c14⟩ := cell_ints Try.underlying23 Try.underlying3 cI (v := v14) (y := y14) e14
  have e15 := trod_part (t := 23) (o := 15) (us := [v15]) (hfd 15 _ rfl) cN rfl
  obtain ⟨A15, k15, l15, rfl, r15, c15⟩ := cell_ints Try.underlying23 Try.underlying3 cI (v := v15) (y := y15) e15
  have e16 := trod_part (t := 3) (o := 16) (us := [v16]) (hfd 16 _ rfl) cI rfl
  obtain ⟨z16, rfl⟩ := cell_int Try.underlying3 (v := v16) (y := y16) e16
  have e17 := trod_part (t := 27) (o := 17) (us := [v17, v18, v19, v20, v21, v22, v23]) (hfd 17 _ rfl) cE rfl
  clear hfd
  obtain ⟨xs, k', _, hx1, _, hxl, hfd⟩ := DataW.trod_struct Try.underlying27 (x := y17) e17
  obtain ⟨s0, s1, s2, rfl⟩ := list3 (l := xs) (by simpa using hxl)
  have g0 := trod_part (t := 3) (o := 0) (us := [v17]) (hfd 0 _ rfl) cI rfl
  have g1 := trod_part (t := 3) (o := 1) (us := [v18]) (hfd 1 _ rfl) cI rfl
  have g2 := trod_part (t := 25) (o := 2) (us := [v19, v20, v21, v22, v23]) (hfd 2 _ rfl) cC rfl
  clear hfd
  obtain ⟨z17, rfl⟩ := cell_int Try.underlying3 (v := v17) (y := s0) g0
  obtain ⟨z18, rfl⟩ := cell_int Try.underlying3 (v := v18) (y := s1) g1
  obtain ⟨xs, k'', _, hx2, _, hxl, hfd⟩ := DataW.trod_struct Try.underlying25 (x := s2) g2
  obtain ⟨t0, t1, t2, t3, t4, rfl⟩ := list5 (l := xs) (by simpa using hxl)
  have j0 := trod_part (t := 3) (o := 0) (us := [v19]) (hfd 0 _ rfl) cI rfl
  have j1 := trod_part (t := 3) (o := 1) (us := [v20]) (hfd 1 _ rfl) cI rfl
  have j2 := trod_part (t := 22) (o := 2) (us := [v21]) (hfd 2 _ rfl) cR rfl
  have j3 := trod_part (t := 22) (o := 3) (us := [v22]) (hfd 3 _ rfl) cR rfl
  have j4 := trod_part (t := 22) (o := 4) (us := [v23]) (hfd 4 _ rfl) cR rfl
  obtain ⟨z19, rfl⟩ := cell_int Try.underlying3 (v := v19) (y := t0) j0
  obtain ⟨z20, rfl⟩ := cell_int Try.underlying3 (v := v20) (y := t1) j1
  obtain ⟨A21, k21, l21, rfl, b21, r21, n21⟩ := cell_rowS Try.underlying22 Try.underlying5 cU (v := v21) (y := t2) j2
  obtain ⟨A22, k22, l22, rfl, b22, r22, n22⟩ := cell_rowS Try.underlying22 Try.underlying5 cU (v := v22) (y := t3) j3
  obtain ⟨A23, k23, l23, rfl, b23, r23, n23⟩ := cell_rowS Try.underlying22 Try.underlying5 cU (v := v23) (y := t4) j4
  refine ⟨⟨A11, k11, A14, k14, A15, k15, ⟨A21, k21, A22, k22, A23, k23⟩⟩, ⟨z0, z1, z2, z3, z4, z5, z6, z7, z8, z9, z10, l11, z12, z13, l14, l15, z16, ⟨z17, z18, ⟨z19, z20, l21, l22, l23⟩⟩⟩, rfl, ⟨⟨r11, r14, r15, ⟨r21, r22, r23⟩, c14, c15⟩, b11, ⟨b21, b22, b23⟩⟩, ?_⟩
  subst hx2
  subst hx1
  injection hx0 with hx0
  exact ⟨_, s0.1, s1.1, t0.1, t1.1, t2.1, t3.1, t4.1, hx0, by simp, n21, n22, n23⟩
end Go.Proofs.Ytlfkgpllleogoaa

