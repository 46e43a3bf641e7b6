/- GathRowIn -/
import Derived.Test.YtneehnoolhadbaaGP39
import Derived.Test.YtneehnoolhadbaaGP42
namespace Go.Proofs.Ytneehnoolhadbaa
open Go.RowKit
set_option linter.unusedVariables false
structure MsgW (m : Mg) : Prop where
  lo : Vw.lo ≤ m.inst
  frm : In64 m.frm
theorem wf_in64 {z : Int} (h : (Lit.int .i64 z).wf = true) : In64 z := by
  simp [Lit.wf] at h
  have e : IntKind.i64.min = -9223372036854775808 := by rfl
  have e2 : IntKind.i64.max = 9223372036854775807 := by rfl
  unfold In64
  omega
def IsRowW (w : World) (a : Option Addr) (len cap : Nat) (es : List (List Value)) : Prop := IsRowV w a len cap es ∧ ∀ cs ∈ es, ∃ a m, cs = (msgC a m).toList ∧ MsgW m
open Go.ChangeShapes Go.WideShapes Go.ChangeAt in
set_option maxRecDepth 100000 in
set_option maxHeartbeats 1000000 in
theorem msgW_of {H : Type} {enc : TypeId × Value → H} {w : World} {n : Nat} {l : List Value} {y : DataW H × List MemPlace} (hf : DataW.trod enc Try.prog w 0 (fun _ => true) true n 31 l = some y) (hl : l.length = 24) : ∃ a m, l = (msgC a m).toList ∧ MsgW m := by
  have cI : (Try.prog).cellsOf 3 = 1 := by kernel_rfl
  have cB : (Try.prog).cellsOf 4 = 1 := by kernel_rfl
  have cR : (Try.prog).cellsOf 25 = 1 := by kernel_rfl
  have cN : (Try.prog).cellsOf 22 = 1 := by kernel_rfl
  have cE : (Try.prog).cellsOf 29 = 7 := by kernel_rfl
  have cC : (Try.prog).cellsOf 27 = 5 := by kernel_rfl
  have cU : (Try.prog).cellsOf 5 = 1 := by kernel_rfl
  obtain ⟨xs, k, _, hx0, _, hxl, hfd⟩ := DataW.trod_struct Try.underlying31 hf
  obtain ⟨v0, v1, v2, v3, v4, v5, v6, v7, v8, v9, v10, v11, v12, v13, v14, v15, v16, v17, v18, v19, v20, v21, v22, v23, rfl⟩ := list24 hl
  obtain ⟨y0, y1, y2, y3, y4, y5, y6, y7, y8, y9, y10, y11, y12, y13, y14, y15, y16, y17, rfl⟩ := list18 (l := xs) (by simpa using hxl)
  have e0 := trod_part (t := 3) (o := 0) (us := [v0]) (hfd 0 _ rfl) cI rfl
  obtain ⟨z0, rfl⟩ := cell_int Try.underlying3 (v := v0) (y := y0) e0
  have e1 := trod_part (t := 3) (o := 1) (us := [v1]) (hfd 1 _ rfl) cI rfl
  obtain ⟨z1, hz1, _, hw1⟩ := DataW.trod_int Try.underlying3 e1
  injection hz1 with hz1
  subst hz1
  have e2 := trod_part (t := 3) (o := 2) (us := [v2]) (hfd 2 _ rfl) cI rfl
  obtain ⟨z2, rfl⟩ := cell_int Try.underlying3 (v := v2) (y := y2) e2
  have e3 := trod_part (t := 3) (o := 3) (us := [v3]) (hfd 3 _ rfl) cI rfl
  obtain ⟨z3, rfl⟩ := cell_int Try.underlying3 (v := v3) (y := y3) e3
  have e4 := trod_part (t := 3) (o := 4) (us := [v4]) (hfd 4 _ rfl) cI rfl
  obtain ⟨z4, hz4, _, hw4⟩ := DataW.trod_int Try.underlying3 e4
  injection hz4 with hz4
  subst hz4
  have e5 := trod_part (t := 3) (o := 5) (us := [v5]) (hfd 5 _ rfl) cI rfl
  obtain ⟨z5, rfl⟩ := cell_int Try.underlying3 (v := v5) (y := y5) e5
  have e6 := trod_part (t := 4) (o := 6) (us := [v6]) (hfd 6 _ rfl) cB rfl
  obtain ⟨z6, rfl⟩ := cell_bool Try.underlying4 (v := v6) (y := y6) e6
  have e7 := trod_part (t := 3) (o := 7) (us := [v7]) (hfd 7 _ rfl) cI rfl
  obtain ⟨z7, rfl⟩ := cell_int Try.underlying3 (v := v7) (y := y7) e7
  have e8 := trod_part (t := 3) (o := 8) (us := [v8]) (hfd 8 _ rfl) cI rfl
  obtain ⟨z8, rfl⟩ := cell_int Try.underlying3 (v := v8) (y := y8) e8
  have e9 := trod_part (t := 3) (o := 9) (us := [v9]) (hfd 9 _ rfl) cI rfl
  obtain ⟨z9, rfl⟩ := cell_int Try.underlying3 (v := v9) (y := y9) e9
  have e10 := trod_part (t := 3) (o := 10) (us := [v10]) (hfd 10 _ rfl) cI rfl
  obtain ⟨z10, rfl⟩ := cell_int Try.underlying3 (v := v10) (y := y10) e10
  have e11 := trod_part (t := 25) (o := 11) (us := [v11]) (hfd 11 _ rfl) cR rfl
  obtain ⟨A11, k11, l11, rfl, b11, r11⟩ := cell_row Try.underlying25 Try.underlying5 cU (v := v11) (y := y11) e11
  have e12 := trod_part (t := 3) (o := 12) (us := [v12]) (hfd 12 _ rfl) cI rfl
  obtain ⟨z12, rfl⟩ := cell_int Try.underlying3 (v := v12) (y := y12) e12
  have e13 := trod_part (t := 3) (o := 13) (us := [v13]) (hfd 13 _ rfl) cI rfl
  obtain ⟨z13, rfl⟩ := cell_int Try.underlying3 (v := v13) (y := y13) e13
  have e14 := trod_part (t := 22) (o := 14) (us := [v14]) (hfd 14 _ rfl) cN rfl
  obtain ⟨A14, k14, l14, rfl, r14, c14⟩ := cell_ints Try.underlying22 Try.underlying3 cI (v := v14) (y := y14) e14
  have e15 := trod_part (t := 22) (o := 15) (us := [v15]) (hfd 15 _ rfl) cN rfl
  obtain ⟨A15, k15, l15, rfl, r15, c15⟩ := cell_ints Try.underlying22 Try.underlying3 cI (v := v15) (y := y15) e15
  have e16 := trod_part (t := 3) (o := 16) (us := [v16]) (hfd 16 _ rfl) cI rfl
  obtain ⟨z16, rfl⟩ := cell_int Try.underlying3 (v := v16) (y := y16) e16
  have e17 := trod_part (t := 29) (o := 17) (us := [v17, v18, v19, v20, v21, v22, v23]) (hfd 17 _ rfl) cE rfl
  clear hfd
  obtain ⟨xs, k', _, hx1, _, hxl, hfd⟩ := DataW.trod_struct Try.underlying29 (x := y17) e17
  obtain ⟨s0, s1, s2, rfl⟩ := list3 (l := xs) (by simpa using hxl)
  have g0 := trod_part (t := 3) (o := 0) (us := [v17]) (hfd 0 _ rfl) cI rfl
  have g1 := trod_part (t := 3) (o := 1) (us := [v18]) (hfd 1 _ rfl) cI rfl
  have g2 := trod_part (t := 27) (o := 2) (us := [v19, v20, v21, v22, v23]) (hfd 2 _ rfl) cC rfl
  clear hfd
  obtain ⟨z17, rfl⟩ := cell_int Try.underlying3 (v := v17) (y := s0) g0
  obtain ⟨z18, rfl⟩ := cell_int Try.underlying3 (v := v18) (y := s1) g1
  obtain ⟨xs, k'', _, hx2, _, hxl, hfd⟩ := DataW.trod_struct Try.underlying27 (x := s2) g2
  obtain ⟨t0, t1, t2, t3, t4, rfl⟩ := list5 (l := xs) (by simpa using hxl)
  have j0 := trod_part (t := 3) (o := 0) (us := [v19]) (hfd 0 _ rfl) cI rfl
  have j1 := trod_part (t := 3) (o := 1) (us := [v20]) (hfd 1 _ rfl) cI rfl
  have j2 := trod_part (t := 25) (o := 2) (us := [v21]) (hfd 2 _ rfl) cR rfl
  have j3 := trod_part (t := 25) (o := 3) (us := [v22]) (hfd 3 _ rfl) cR rfl
  have j4 := trod_part (t := 25) (o := 4) (us := [v23]) (hfd 4 _ rfl) cR rfl
  obtain ⟨z19, rfl⟩ := cell_int Try.underlying3 (v := v19) (y := t0) j0
  obtain ⟨z20, rfl⟩ := cell_int Try.underlying3 (v := v20) (y := t1) j1
  obtain ⟨A21, k21, l21, rfl, b21, r21⟩ := cell_row Try.underlying25 Try.underlying5 cU (v := v21) (y := t2) j2
  obtain ⟨A22, k22, l22, rfl, b22, r22⟩ := cell_row Try.underlying25 Try.underlying5 cU (v := v22) (y := t3) j3
  obtain ⟨A23, k23, l23, rfl, b23, r23⟩ := cell_row Try.underlying25 Try.underlying5 cU (v := v23) (y := t4) j4
  clear e0 e1 e2 e3 e4 e5 e6 e7 e8 e9 e10 e11 e12 e13 e14 e15 e16 e17 g0 g1 g2 j0 j1 j2 j3 j4 hf hfd hx0 hx1 hx2
  exact ⟨⟨A11, k11, A14, k14, A15, k15, ⟨A21, k21, A22, k22, A23, k23⟩⟩, ⟨z0, z1, z2, z3, z4, z5, z6, z7, z8, z9, z10, l11, z12, z13, l14, l15, z16, ⟨z17, z18, ⟨z19, z20, l21, l22, l23⟩⟩⟩, rfl, wf_lo hw4, wf_in64 hw1⟩
open Go.ChangeShapes Go.WideShapes Go.ChangeAt in
theorem isRowW {H : Type} {enc : TypeId × Value → H} {w : World} {d : DataW H} {ps : List MemPlace} {a : Option Addr} {len cap : Nat} (h : DataW.Trod enc Try.prog w 0 (fun _ => true) true 44 (.slice a len cap) d ps) : ∃ es, IsRowW w a len cap es := by
  have ce : (Try.prog).cellsOf 31 = 24 := by kernel_rfl
  obtain ⟨fuel, hf⟩ := h
  rcases Go.Deep.open_slice Try.underlying44 hf with ⟨hcs, _⟩ | ⟨x, l, c, m, n, D, Pl, hcs, _, hl, hm, hmm, _, hx⟩
  · simp [Value.cells] at hcs
    obtain ⟨rfl, rfl, rfl⟩ := hcs
    exact ⟨[], ⟨RdV.nil _ _ _, Nat.le_refl _, by decide⟩, fun cs hc => (by cases hc)⟩
  · simp [Value.cells] at hcs
    obtain ⟨rfl, rfl, rfl⟩ := hcs
    simp only [if_true] at hmm
    subst hmm
    have each : ∀ r, ∃ cs : List Value, cs.length = 24 ∧ (r < m → (∀ i v, cs[i]? = some v → w.cell? ((x.add (r * 24)).add i) = some v) ∧ ∃ a m, cs = (msgC a m).toList ∧ MsgW m) := by
      intro r
      by_cases hr : r < m
      · obtain ⟨cs', g1', g2'⟩ := hx r hr
        rw [ce] at g1'
        obtain ⟨_, hlen, hcell⟩ := World.cells?_some g1'
        refine ⟨_, hlen, fun _ => ⟨fun i v hv => ?_, msgW_of g2' hlen⟩⟩
        have hi : i < 24 := by have := (List.getElem?_eq_some_iff.1 hv).1; omega
        rw [hcell i hi, hv]
      · exact ⟨List.replicate 24 undef, by simp, fun h => absurd h hr⟩
    obtain ⟨f, hff⟩ := Classical.axiomOfChoice each
    have hall : ∀ cs ∈ (List.range len).map f, cs.length = 24 := fun cs hc => by
      obtain ⟨r, _, rfl⟩ := List.mem_map.1 hc
      exact (hff r).1
    have hW : ∀ cs ∈ (List.range len).map f, ∃ a m, cs = (msgC a m).toList ∧ MsgW m := fun cs hc => by
      obtain ⟨r, hr, rfl⟩ := List.mem_map.1 hc
      exact ((hff r).2 (by have : r < len := by simpa using hr
                           omega)).2
    refine ⟨(List.range len).map f, ⟨⟨by simp, ⟨by rw [flatM_len hall]; simp, fun hp => ?_⟩, fun cs hc => ?_⟩, hl, hm⟩, hW⟩
    · obtain ⟨b, o, s⟩ := x
      have hlen : 0 < len := by omega
      have h24 := (hff 0).1
      have g0' := ((hff 0).2 (by omega)).1 0 ((f 0)[0]'(by omega)) (List.getElem?_eq_getElem (by omega))
      have hs : s = none := by
        have := World.cell?_spot g0'
        simpa [Addr.add] using this
      subst hs
      have ea : ∀ k i, ((⟨b, o, none⟩ : Addr).add (k * 24)).add i = ⟨b, o + k * 24 + i, none⟩ := fun k i => addr_addV b o (k * 24) i
      refine ⟨b, o, rfl, ?_, fun j hj => ?_⟩
      · rw [ea] at g0'
        exact World.block_lt_of_cell? _ _ g0'
      · have hk : j / 24 < len := by omega
        have hk24 := (hff (j / 24)).1
        have hj24 : j % 24 < (f (j / 24)).length := by omega
        have h1 := ((hff (j / 24)).2 (by omega)).1 (j % 24) _ (List.getElem?_eq_getElem hj24)
        rw [ea] at h1
        have h2 : o + j / 24 * 24 + j % 24 = o + j := by omega
        rw [h2] at h1
        have h3 := flatM_get hall (k := j / 24) (cs := f (j / 24)) (by rw [List.getElem?_map, List.getElem?_range hk]; rfl) (j := j % 24) (by omega)
        rw [show j / 24 * 24 + j % 24 = j by omega] at h3
        rw [h1, h3, List.getElem?_eq_getElem hj24]
    · obtain ⟨a, m, rfl, hmw⟩ := hW cs hc
      exact msg_ms hmw.lo
open Go.ChangeShapes Go.WideShapes Go.ChangeAt in
theorem isMsgW {H : Type} {enc : TypeId × Value → H} {w : World} {r : Reach} {b0 : Nat} {v : Value} {d : DataW H} {ps : List MemPlace} (hv : Value.okWide Try.prog w r b0 31 v) (h : DataW.Trod enc Try.prog w 0 (fun _ => true) true 31 v d ps) : ∃ a m, v = msgV a m ∧ MsgW m := by
  have cM : (Try.prog).cellsOf 31 = 24 := by kernel_rfl
  obtain ⟨cs, rfl, hsz⟩ := okWide_struct Try.underlying31 hv
  rw [cM] at hsz
  obtain ⟨fuel, hf⟩ := h
  obtain ⟨cs⟩ := cs
  obtain ⟨a, m, hl, hw⟩ := msgW_of (l := cs) hf (by simpa using hsz)
  refine ⟨a, m, ?_, hw⟩
  unfold msgV
  rw [hl]
end Go.Proofs.Ytneehnoolhadbaa

