/- What the code of a table owes: awake. -/
import Derived.Test.YtcmjpjhaaookfaaSessC00
namespace Go.Proofs.Ytcmjpjhaaookfaa
open Go.RowKit
set_option linter.unusedVariables false
def AwakeC9 : Prop := ∀ (w : World), Calls Try.prog 26 #[] w fun e w' => e = .returned (.bool true) ∧ Below w.heap.size w w'
set_option maxRecDepth 100000 in
set_option maxHeartbeats 2000000 in
theorem sessAwake (hL : LookC9) (hP : PutC9) : AwakeC9 := by
  intro w
  have ok0 := Tb.Ok.nil
  have ok1 : Tb.Ok [⟨5, 2, 0, [], 7⟩] := Tb.Ok.put (l := ⟨5, 2, 0, [], 7⟩) ok0 (by decide) (by decide) (by decide) (by simp)
  go_enter Try.func26, Try.ntmps26
  go_wp2_with fail
  refine (hP.is (W := w) (ls' := [⟨5, 2, 0, [], 7⟩]) 5 2 0 [] 7 rfl rfl ok0 (by decide) (by decide) (by simp) (Nat.le_refl _) (RdL.nil w w.heap.size none) (Rd.none_ w w.heap.size none) (Below.refl _ _)).mono ?_
  rintro e w1 ⟨A1, c1, rfl, ho1, hB1, hb1⟩
  have HO := Lib.hid ho1
  have hc : 1 ≤ c1 := ho1.cap
  have HX1 := Lib.hid (Below.refl w1.heap.size w1)
  have HB1 := Lib.hid hB1
  clear ho1 hb1 hB1
  go_wp2_with fail
  refine (hL.is (W := w) 5 2 (e := 0) (v := []) (N := 7) (k := 1) rfl ok1 hc (HO.out.below HX1.out).rd HB1.out).mono ?_
  rintro e w2 ⟨A2, c2, rfl, _, hB, hb⟩
  unfold resV
  simp only [List.length_nil]
  have hb' : Below w1.heap.size w1 (w2.alloc (.cells #[.int .i64 0, .slice A2 0 c2, .int .i64 7] 34)) := hb.alloc hb.size _
  have HX2 := Lib.hid (HX1.out.trans (hb'.mono HX1.out.size))
  have HB2 := Lib.hid (hB.alloc hB.size (.cells #[.int .i64 0, .slice A2 0 c2, .int .i64 7] 34))
  have HK2 := Lib.hid (Blk.new w2 34 #[.int .i64 0, .slice A2 0 c2, .int .i64 7])
  clear hb hb' hB HX1 HB1
  go_wp2_with fail
  refine (hL.is (W := w) 5 1 (e := 8) (v := []) (N := 0) (k := 2) rfl ok1 hc (HO.out.below HX2.out).rd HB2.out).mono ?_
  rintro e w3 ⟨A3, c3, rfl, _, hB, hb⟩
  unfold resV
  simp only [List.length_nil]
  have hb' : Below (w2.alloc (.cells #[.int .i64 0, .slice A2 0 c2, .int .i64 7] 34)).heap.size (w2.alloc (.cells #[.int .i64 0, .slice A2 0 c2, .int .i64 7] 34)) (w3.alloc (.cells #[.int .i64 8, .slice A3 0 c3, .int .i64 0] 34)) := hb.alloc hb.size _
  have HX3 := Lib.hid (HX2.out.trans (hb'.mono HX2.out.size))
  have HB3 := Lib.hid (hB.alloc hB.size (.cells #[.int .i64 8, .slice A3 0 c3, .int .i64 0] 34))
  have HK3 := Lib.hid (Blk.new w3 34 #[.int .i64 8, .slice A3 0 c3, .int .i64 0])
  have HK2 := Lib.hid (HK2.out.below hb')
  clear hb hb' hB HX2 HB2
  go_wp2_with fail
  refine (hL.is (W := w) 5 3 (e := 0) (v := []) (N := 0) (k := 0) rfl ok1 hc (HO.out.below HX3.out).rd HB3.out).mono ?_
  rintro e w4 ⟨A4, c4, rfl, _, hB, hb⟩
  unfold resV
  simp only [List.length_nil]
  have hb' : Below (w3.alloc (.cells #[.int .i64 8, .slice A3 0 c3, .int .i64 0] 34)).heap.size (w3.alloc (.cells #[.int .i64 8, .slice A3 0 c3, .int .i64 0] 34)) (w4.alloc (.cells #[.int .i64 0, .slice A4 0 c4, .int .i64 0] 34)) := hb.alloc hb.size _
  have HX4 := Lib.hid (HX3.out.trans (hb'.mono HX3.out.size))
  have HB4 := Lib.hid (hB.alloc hB.size (.cells #[.int .i64 0, .slice A4 0 c4, .int .i64 0] 34))
  have HK4 := Lib.hid (Blk.new w4 34 #[.int .i64 0, .slice A4 0 c4, .int .i64 0])
  have HK2 := Lib.hid (HK2.out.below hb')
  have HK3 := Lib.hid (HK3.out.below hb')
  clear hb hb' hB HX3 HB3
  go_wp2_with fail
  refine (hL.is (W := w) 0 1 (e := 10) (v := []) (N := 0) (k := 2) rfl ok1 hc (HO.out.below HX4.out).rd HB4.out).mono ?_
  rintro e w5 ⟨A5, c5, rfl, _, hB, hb⟩
  unfold resV
  simp only [List.length_nil]
  have hb' : Below (w4.alloc (.cells #[.int .i64 0, .slice A4 0 c4, .int .i64 0] 34)).heap.size (w4.alloc (.cells #[.int .i64 0, .slice A4 0 c4, .int .i64 0] 34)) (w5.alloc (.cells #[.int .i64 10, .slice A5 0 c5, .int .i64 0] 34)) := hb.alloc hb.size _
  have HX5 := Lib.hid (HX4.out.trans (hb'.mono HX4.out.size))
  have HB5 := Lib.hid (hB.alloc hB.size (.cells #[.int .i64 10, .slice A5 0 c5, .int .i64 0] 34))
  have HK5 := Lib.hid (Blk.new w5 34 #[.int .i64 10, .slice A5 0 c5, .int .i64 0])
  have HK2 := Lib.hid (HK2.out.below hb')
  have HK3 := Lib.hid (HK3.out.below hb')
  have HK4 := Lib.hid (HK4.out.below hb')
  clear hb hb' hB HX4 HB4
  obtain ⟨x0, x1, x2, _, _, _⟩ := three HK2.out
  obtain ⟨y0, y1, y2, _, _, _⟩ := three HK3.out
  obtain ⟨z0, z1, z2, _, _, _⟩ := three HK5.out
  go_wp2_with fail
  go_ret
  exact ⟨rfl, HB5.out⟩
end Go.Proofs.Ytcmjpjhaaookfaa
