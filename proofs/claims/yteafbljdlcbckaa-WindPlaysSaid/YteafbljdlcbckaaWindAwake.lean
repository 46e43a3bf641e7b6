/- 'awake': what the document fixes of a window. -/
import Derived.Test.YteafbljdlcbckaaWindMS
import Derived.Test.YteafbljdlcbckaaSameInts
namespace Go.Proofs.Yteafbljdlcbckaa
open Go.RowKit
set_option linter.unusedVariables false
attribute [local go_sem] Oper.semAt_some
namespace Wa
abbrev a : ByteArray := ⟨#[97]⟩
abbrev b : ByteArray := ⟨#[98]⟩
abbrev s1 : List (Option ByteArray) := [some a]
abbrev s2 : List (Option ByteArray) := [some a, none, some b]
abbrev s3 : List (Option ByteArray) := [none, some b]
def sumW (l : List (Int × ByteArray)) : Int := l.foldl (fun n x => wrap64 (n + wrap64 (x.1 * (x.2.size : Int)))) 0
theorem sumW_snoc (l : List (Int × ByteArray)) (x : Int × ByteArray) : sumW (l ++ [x]) = wrap64 (sumW l + wrap64 (x.1 * (x.2.size : Int))) := by simp [sumW]
end Wa
set_option maxRecDepth 100000 in
set_option maxHeartbeats 2000000 in
theorem awake_any (w : World) : Calls Try.prog 19 #[] w fun e w' => e = .returned (.bool true) ∧ Below w.heap.size w w' := by
  refine calls_of_wp_marks Try.func19 rfl ?_
  simp only [Try.ntmps19, List.size_toArray, List.length_nil, Nat.reduceSub, Array.replicate_succ, Array.replicate_zero, List.push_toArray, List.append_toArray, List.nil_append, List.cons_append]
  go_wp2_with fail
  refine (WS.new_any w 3).mono ?_
  rintro e w1 ⟨p, rfl, hw1, hB1⟩
  have hh : WS.Wd.held 3 = 3 := by decide
  rw [hh] at hw1
  have T1 : WS.Turns w.heap.size w w1 := WS.Turns.of_below hB1
  clear hh
  go_wp2_with fail
  refine (WS.put_is hw1 T1.size rfl 4 0 Wa.a Wa.s1 4 (by omega) (by decide) rfl (by unfold WS.Fit; omega) rfl rfl).mono ?_
  rintro e w2 ⟨rfl, hw2, t2⟩
  have T2 := T1.trans t2
  go_wp2_with fail
  refine (WS.put_is hw2 T2.size rfl 6 2 Wa.b Wa.s2 4 (by omega) (by decide) rfl (by unfold WS.Fit; omega) rfl rfl).mono ?_
  rintro e w3 ⟨rfl, hw3, t3⟩
  have T3 := T2.trans t3
  go_wp2_with fail
  refine (WS.put_not hw3 (by unfold WS.Fit; omega) 3 ⟨#[120]⟩ (.inl (by omega))).mono ?_
  rintro e w4 ⟨rfl, hw4, t4⟩
  have T4 := T3.trans t4
  go_wp2_with fail
  refine (WS.put_not hw4 (by unfold WS.Fit; omega) 4 ⟨#[121]⟩ (.inr (.inr (by decide)))).mono ?_
  rintro e w5 ⟨rfl, hw5, t5⟩
  have T5 := T4.trans t5
  go_wp2_with fail
  refine (WS.get_is hw5 6 2 Wa.b (by omega) rfl).mono ?_
  rintro e w6 ⟨rfl, hB6⟩
  have hw6 := hw5.below hB6
  have T6 := T5.trans (WS.Turns.of_below hB6)
  clear hB6 hw1 hw2 hw3 hw4 hw5 t2 t3 t4 t5 T1 T2 T3 T4 T5 hB1
  go_wp2_with fail
  refine (WS.missing_any w6 _ p 3 4 _ hw6 rfl T6.size 9).mono ?_
  rintro e w7 ⟨Am, nm, cm, rfl, hown, hB7⟩
  have hw7 := hw6.below hB7
  have T7 := T6.trans (WS.Turns.of_below hB7)
  have hm : Wd.missing (WS.most64 9) 3 Wa.s2 = [5] := by decide
  rw [hm] at hown
  clear hm hw6 T6
  go_wp2_with fail
  refine (WS.put_not hw7 (by unfold WS.Fit; omega) 69 ⟨#[122]⟩ (.inr (.inl (by omega)))).mono ?_
  rintro e w8 ⟨rfl, hw8, t8⟩
  have T8 := T7.trans t8
  have rm := t8.rdT (RdT.own hown) (by decide) (by decide)
  clear hw7 T7 t8
  go_wp2_with fail
  have hwa := hw8.below ((Below.refl _ w8).alloc (Nat.le_refl _) (.cells #[.int .i64 0] 3))
  have hbn := Blk.new w8 3 #[.int .i64 0]
  have HBa := Lib.hid ((Below.refl w8.heap.size w8).alloc (Nat.le_refl _) (.cells #[.int .i64 0] 3))
  have hsa : (w8.alloc (.cells #[.int .i64 0] 3)).heap.size = w8.heap.size + 1 := by simp
  obtain ⟨wq, hwq⟩ : ∃ wq, wq = w8.alloc (.cells #[.int .i64 0] 3) := ⟨_, rfl⟩
  rw [← hwq] at hwa hbn HBa hsa ⊢
  have HSA := Lib.hid hsa
  clear hsa hwq
  refine (WS.all_any wq _ p 3 4 _ hwa).mono ?_
  rintro e w9 ⟨Bs, Bf, ks, rfl, hseq, hb1, hb2, hb3, hB9⟩
  have hbn9 := hbn.below hB9
  have HB9 := Lib.hid hB9
  have hks : ∀ k ∈ ks, k < w9.heap.size ∧ k ≠ w8.heap.size := by
    obtain ⟨_, _, _, _, _, _, _, _, hk⟩ := hseq
    intro k hk'
    have h1 := hk k hk'
    have h2 := HSA.out
    omega
  have hw98 : w8.heap.size < w9.heap.size := by have := HSA.out; omega
  have hs09 : w.heap.size ≤ w9.heap.size := by have := T8.size; omega
  clear hB9 hbn hwa
  go_wp2_with fail
  refine (wpIn_wide (n := 20)).1 ?_
  refine wpIn_rangeFunc_ownG (α := { x : Int × ByteArray // True }) rfl (by omega) (gf := 41) (lb := #[.pointer (some ⟨Bs, 0, none⟩), .pointer (some ⟨Bf, 0, none⟩)]) rfl trivial (Go.Proofs.enters_of Try.func41 (by kernel_rfl) rfl)
    (WS.rising_stops Fence.wide 19 trivial rfl (by omega) (fun _ => True) wq.heap.size _ Wa.s2 Bs Bf ks w9 hseq (fun _ _ => trivial) (by decide) (by decide) (by unfold WS.Fit; decide))
    keepsK_t (keepsK_b (fun k hk => (hks k hk).1)) (Below.refl _ _) (fun _ => rfl)
    (fun pre W => Blk W w8.heap.size 3 #[.int .i64 (Wa.sumW (pre.map Subtype.val))] ∧ w9.grownBy W (some w8.heap.size))
    (fun _ _ _ => False)
    (OwnFrom.and (ownFrom_blk _ _ _ _) (ownFrom_grown _ _))
    (fun _ _ _ _ _ hs _ _ => hs)
    ⟨hbn9, World.grownBy.refl _ _⟩
    ?a₁ ?assign ?body ?done ?stop
  case assign =>
    intro l x W K hK
    gi_wp2
    exact hK
  case body =>
    rintro l pre x W ⟨hc, hg⟩ hlen
    have hcc := hc.cell 0
    have hff := hc.frozen 0
    simp at hcc
    have HC := Lib.hid hc
    have HG := Lib.hid hg
    clear hc hg
    gi_wp2
    refine ⟨(KeepsOthers.setCell _ _ _).from _, keepsK_set _ 0 _ (fun k hk => (hks k hk).2), ?_, grown_trans HG.out (grownBy_set _ _ 0 _)⟩
    rw [List.map_append, List.map_singleton, Wa.sumW_snoc]
    exact HC.out.set_ 0 _
  case done =>
    rintro D ys W hD hS ⟨hc, hg⟩ hK
    have hW8 : Below w8.heap.size w8 W := (HBa.out.trans (HB9.out.mono (by have := HSA.out; omega))).trans (grown_below hg (Nat.le_refl _) (by omega))
    have hwW := hw8.below hW8
    have rmW := rm.below hW8
    have T9 : WS.Turns w.heap.size w W := T8.trans (WS.Turns.of_below hW8)
    have hs10 : Wa.sumW (ys.map Subtype.val) = 10 := by rw [hS]; decide +kernel
    rw [hs10] at hc
    have hnm : nm ≤ maxLen := by have := own_cap hown; omega
    clear hg hS hs10 hks hseq hbn9 hW8 rm hw8 T8 hown hB7
    go_wp2_with fail
    refine (WS.cut_is hwW rfl 4 1 4 Wa.s3 (by omega) (by decide) (by omega) rfl rfl).mono ?_
    rintro e w10 ⟨rfl, hw10, t10⟩
    have hc10 := t10.blk hc (by decide) (by decide)
    have hK10 := t10.block D _ hK (.inr rfl)
    have rm10 := t10.rdT rmW (by decide) (by decide)
    have T10 := T9.trans t10
    clear hc hK rmW T9 t10 hwW
    go_wp2_with fail
    refine (WS.get_no w10 _ p 4 4 _ hw10 4 (by decide)).mono ?_
    rintro e w11 ⟨rfl, hB11⟩
    have hw11 := hw10.below hB11
    have hc11 := hc10.below hB11
    have hK11 : w11.heap[D]? = some (.deferred (some [])) := (hB11.block D (Array.getElem?_eq_some_iff.1 hK10).1).trans hK10
    have rm11 := rm10.below hB11
    have T11 := T10.trans (WS.Turns.of_below hB11)
    clear hc10 hK10 rm10 T10 hB11 hw10
    have hcc := hc11.cell 0
    simp at hcc
    have hq1 : (Wa.b == { data := #[98] }) = true := by decide
    go_wp2_with fail
    refine (WS.whole_any _ _ _ _ _ _ hw11).mono ?_
    rintro e w' ⟨rfl, rfl⟩
    go_wp2_with fail
    refine (WS.top_any _ _ _ _ _ _ hw11).mono ?_
    rintro e w12 ⟨rfl, m12, hm12⟩
    have hB12 : Below w11.heap.size w11 w12 := by rw [hm12]; exact below_drewN (Below.refl _ _) m12
    clear hm12 hcc
    have hw12 := hw11.below hB12
    have hc12 := hc11.below hB12
    have hK12 : w12.heap[D]? = some (.deferred (some [])) := (hB12.block D (Array.getElem?_eq_some_iff.1 hK11).1).trans hK11
    have rm12 := rm11.below hB12
    have T12 := T11.trans (WS.Turns.of_below hB12)
    clear hc11 hK11 rm11 T11 hB12 hw11
    go_wp2_with fail
    refine (same_any _ Am _ nm cm 1 1 _ _ [5] [5] (rm12.rd.alloc (Nat.le_refl _) _) (Rd.made w12 #[.int .i64 5] 3 _ 1 rfl) hnm (by unfold maxLen; omega)).mono ?_
    rintro e w13 ⟨rfl, m13, hm13⟩
    have hB13 : Below w12.heap.size w12 w13 := by rw [hm13]; exact below_drewN ((Below.refl _ _).alloc (Nat.le_refl _) _) m13
    clear hm13
    have hw13 := hw12.below hB13
    have hc13 := hc12.below hB13
    have hK13 : w13.heap[D]? = some (.deferred (some [])) := (hB13.block D (Array.getElem?_eq_some_iff.1 hK12).1).trans hK12
    have T13 := T12.trans (WS.Turns.of_below hB13)
    have hcc := hc13.cell 0
    simp at hcc
    clear hc12 hK12 rm12 T12 hB13 hw12
    go_wp2_with fail
    refine (WS.from_any _ _ _ _ _ _ hw13).mono ?_
    rintro e w' ⟨rfl, rfl⟩
    go_wp2
    refine ⟨by simp, .inl ⟨_, _, rfl, run_takeDeferred hK13, ?_⟩⟩
    refine ⟨_, results_tmp rfl _ _ _, rfl, ?_⟩
    have hB := T13.below (Nat.le_refl _)
    exact hB.trans (belowK_b (w := w9) hs09 w13 D _ _ hD hK13 rfl rfl)
  case stop =>
    rintro D c pre W _ _ h _
    exact h.elim
end Go.Proofs.Yteafbljdlcbckaa
