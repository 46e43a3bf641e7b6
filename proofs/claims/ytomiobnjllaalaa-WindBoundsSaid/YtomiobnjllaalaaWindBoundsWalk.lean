/- WindBounds: the walk. -/
import Derived.Test.YtomiobnjllaalaaWindMB
import Derived.Test.YtomiobnjllaalaaWindAwake
namespace Go.Proofs.Ytomiobnjllaalaa
open Go.RowKit
set_option linter.unusedVariables false
attribute [local go_sem] Oper.semAt_some
set_option maxRecDepth 100000 in
set_option maxHeartbeats 2000000 in
theorem windBounds_walk (a0 : Int) (w0 : (Lit.int .i64 a0).wf = true) (w : World) :
    Calls Try.prog 5 #[.int .i64 a0] w fun e w' => e = .returned (.bool true) ∧ Below w.heap.size w w' := by
  clear w0
  have h1 := fun (w : World) ts t => WB.run_max0 (P := Try.prog) w ts t a0
  have h2 := fun (w : World) ts t => WB.run_min40 (P := Try.prog) w ts t a0
  have hH := Lib.hid (show WB.Wd.held a0 ≤ 1099511627776 by unfold WB.Wd.held; omega)
  have hno : Wd.hasB (WB.Wd.held a0) ([] : List (Option WB.V)) a0 = false := by
    by_cases h : a0 ≤ WB.Wd.held a0
    · exact Wd.hasB_no h
    · exact Wd.hasB_far (by simp; omega)
  have HNO := Lib.hid hno
  clear hno
  obtain ⟨fr, hfr⟩ : ∃ fr, fr = WB.Wd.held a0 := ⟨_, rfl⟩
  have HN := Lib.hid (fun w => WB.new_any w a0)
  rw [← hfr] at h2 hH HNO HN
  clear hfr
  refine calls_of_wp_marks Try.func5 rfl ?_
  simp only [Try.ntmps5, List.size_toArray, List.length_cons, List.length_nil, Nat.reduceAdd, Nat.reduceSub, Array.replicate_succ, Array.replicate_zero, List.push_toArray, List.append_toArray, List.nil_append, List.cons_append]
  go_wp2_with fail
  refine (HN.out w).mono ?_
  rintro e w1 ⟨p, rfl, hw1, hB1⟩
  go_wp2_with fail
  have hwa := hw1.below ((Below.refl _ w1).alloc (Nat.le_refl _) (.cells #[.int .i64 0] 3))
  have hbn := Blk.new w1 3 #[.int .i64 0]
  have hBa : Below w.heap.size w (w1.alloc (.cells #[.int .i64 0] 3)) := hB1.alloc hB1.size _
  have hsa : (w1.alloc (.cells #[.int .i64 0] 3)).heap.size = w1.heap.size + 1 := by simp
  obtain ⟨wq, hwq⟩ : ∃ wq, wq = w1.alloc (.cells #[.int .i64 0] 3) := ⟨_, rfl⟩
  rw [← hwq] at hwa hbn hBa hsa ⊢
  have HSA := Lib.hid hsa
  have HB1 := Lib.hid hB1
  clear hsa hwq hw1 hB1
  refine (WB.all_any wq _ p fr fr _ hwa).mono ?_
  rintro e w9 ⟨Bs, Bf, ks, rfl, hseq, hb1, hb2, hb3, hB9⟩
  have hbn9 := hbn.below hB9
  have hw9 := hwa.below hB9
  have HB9 := Lib.hid (hBa.trans (hB9.mono hBa.size))
  have hks : ∀ k ∈ ks, k < w9.heap.size ∧ k ≠ w1.heap.size := by
    obtain ⟨_, _, _, _, _, _, _, _, hk⟩ := hseq
    intro k hk'
    have h1 := hk k hk'
    have h2 := HSA.out
    omega
  have hn1 : w1.heap.size < w9.heap.size := by have := HSA.out; omega
  have hn2 : w.heap.size ≤ w1.heap.size := HB1.out.size
  clear hB9 hbn hwa hBa
  go_wp2_with fail
  refine (wpIn_wide (n := 20)).1 ?_
  refine wpIn_rangeFunc_ownG (α := { x : Int × Bool // True }) rfl (by omega) (gf := 56) (lb := #[.pointer (some ⟨Bs, 0, none⟩), .pointer (some ⟨Bf, 0, none⟩)]) rfl trivial (Go.Proofs.enters_of Try.func56 (by kernel_rfl) rfl)
    (WB.rising_stops Fence.wide 19 trivial rfl (by omega) (fun _ => True) wq.heap.size _ [] Bs Bf ks w9 hseq (fun _ _ => trivial) (by omega) (by have := hH.out; omega) (by unfold WB.Fit; decide))
    keepsK_t (keepsK_b (fun k hk => (hks k hk).1)) (Below.refl _ _) (fun _ => rfl)
    (fun pre W => Blk W w1.heap.size 3 #[.int .i64 0] ∧ w9.grownBy W (some w1.heap.size))
    (fun _ _ _ => False)
    (OwnFrom.and (ownFrom_blk _ _ _ _) (ownFrom_grown _ _))
    (fun _ _ _ _ _ hs _ _ => hs)
    ⟨hbn9, World.grownBy.refl _ _⟩
    ?a₁ ?assign ?body ?done ?stop
  case assign =>
    intro l x W K hK
    gi_wp2
    exact hK
  case body =>
    rintro l pre x W _ hlen
    exact absurd hlen (by simp)
  case done =>
    rintro D ys W hD hS ⟨hc, hg⟩ hK
    have hwW : WB.WinR W w.heap.size p fr fr [] := by
      obtain ⟨A, n, c, g1, g2, g3, g4⟩ := hw9
      refine ⟨A, n, c, g1.grown hg (fun e => ?_), ?_, g3, g4⟩
      · injection e with e
        subst e
        have := hbn9.apart g1 (by decide)
        exact this rfl
      · exact g2.grown hg (fun g o e => by
          intro e'
          injection e' with e'
          subst e' e
          obtain ⟨cur, hgb⟩ := g2.blkAt
          exact hbn9.apart hgb (by decide) rfl)
    have T9 : Below w.heap.size w W := HB9.out.trans (grown_below hg hn2 (by omega))
    clear hg hS hks hseq hbn9 hw9
    go_wp2_with fail
    refine (WB.get_no W _ p fr fr _ hwW a0 HNO.out).mono ?_
    rintro e w10 ⟨rfl, hB10⟩
    have hw10 := hwW.below hB10
    have hc10 := hc.below hB10
    have hK10 : w10.heap[D]? = some (.deferred (some [])) := (hB10.block D (Array.getElem?_eq_some_iff.1 hK).1).trans hK
    have T10 := T9.trans (hB10.mono T9.size)
    clear hc hK T9 hB10 hwW
    go_wp2_with fail
    refine (WB.from_any _ _ _ _ _ _ hw10).mono ?_
    rintro e w' ⟨rfl, rfl⟩
    go_wp2_with fail
    refine (WB.whole_any _ _ _ _ _ _ hw10).mono ?_
    rintro e w' ⟨rfl, rfl⟩
    go_wp2_with fail
    refine (WB.top_any _ _ _ _ _ _ hw10).mono ?_
    rintro e w12 ⟨rfl, m12, hm12⟩
    have hB12 : Below w10.heap.size w10 w12 := by rw [hm12]; exact below_drewN (Below.refl _ _) m12
    clear hm12
    have hw12 := hw10.below hB12
    have hc12 := hc10.below hB12
    have hK12 : w12.heap[D]? = some (.deferred (some [])) := (hB12.block D (Array.getElem?_eq_some_iff.1 hK10).1).trans hK10
    have T12 := T10.trans (hB12.mono T10.size)
    clear hc10 hK10 T10 hB12 hw10
    go_wp2_with fail
    refine (WB.missing_any w12 _ p fr fr _ hw12 (by simp [Wd.lead]) T12.size 9).mono ?_
    rintro e w13 ⟨Am, nm, cm, rfl, hown, hB13⟩
    obtain rfl : 0 = nm := by have := hown.1; simpa [Wd.missing, Wd.pairs, Wd.gaps, Wd.lead, iv] using this
    have hc13 := hc12.below hB13
    have hK13 : w13.heap[D]? = some (.deferred (some [])) := (hB13.block D (Array.getElem?_eq_some_iff.1 hK12).1).trans hK12
    have T13 := T12.trans (hB13.mono T12.size)
    have hcc := hc13.cell 0
    simp at hcc
    clear hc12 hK12 T12 hB13 hw12 hown hc13
    go_wp2_with fail
    refine (awake_any w13).mono ?_
    rintro e w14 ⟨rfl, hB14⟩
    have hK14 : w14.heap[D]? = some (.deferred (some [])) := (hB14.block D (Array.getElem?_eq_some_iff.1 hK13).1).trans hK13
    have T14 := T13.trans (hB14.mono T13.size)
    clear hcc hK13 T13 hB14
    go_wp2
    refine ⟨by simp, .inl ⟨_, _, rfl, run_takeDeferred hK14, ?_⟩⟩
    refine ⟨_, results_tmp rfl _ _ _, rfl, ?_⟩
    exact T14.trans (belowK_b (w := w9) (by omega) w14 D _ _ hD hK14 rfl rfl)
  case stop =>
    rintro D c pre W _ _ h _
    exact h.elim
end Go.Proofs.Ytomiobnjllaalaa
