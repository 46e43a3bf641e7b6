/- 'awake': what the document fixes of a queue. -/
import Derived.Test.YtogohlljkpchmaaFifoWalks
import Derived.Test.YtogohlljkpchmaaConstKit
import Derived.Test.YtogohlljkpchmaaFifoPlaysCore
namespace Go.Proofs.Ytogohlljkpchmaa
open Go.RowKit
set_option linter.unusedVariables false
theorem LimL.few {qs : List (List Nat)} (h : ∀ l ∈ qs, l.length ≤ 100) : LimL qs := fun l hl => by have := h l hl; unfold Lim; omega
set_option maxHeartbeats 2000000 in
set_option maxRecDepth 100000 in
theorem fifoAwake : AwakeC := by
  intro w
  have kc := const1
  have kc2 := const2
  have hB0 := Below.refl w.heap.size w
  go_enter Try.func10, Try.ntmps10
  go_wp2_with fail
  refine (push_any (W := w) (qs := []) (v := [97]) (A := none) (n := 0) (c := 0) (A' := some ⟨w.heap.size, 0, none⟩) (n' := 1) (c' := 1) (by omega) (LimL.few (by simp)) (by unfold Lim; omega) (RdQ.nil _ 0 _) (Rd.made w #[.int .u8 97] 5 (1, 2) 1 rfl) (hB0.alloc hB0.size _)).mono ?_
  rw [show pushS [] [97] = [[97]] by decide, show pushE [] [97] = 0 by decide, show pushN [] [97] = 1 by decide]
  rintro e w1 ⟨A1, c1, A2, c2, rfl, hq1, hv1, hB1, hb1⟩
  unfold resV
  go_wp2_with fail
  refine (push_any (W := w) (qs := [[97]]) (v := [98]) (A := A1) (n := 1) (c := c1) (A' := some ⟨w1.heap.size + 1, 0, none⟩) (n' := 1) (c' := 1) (by omega) (LimL.few (by simp)) (by unfold Lim; omega)
    (hq1.rd.below (((Below.refl _ _).alloc (Nat.le_refl _) _).alloc (by simp) _)) (Rd.made1 w1 _ #[.int .u8 98] 5 (1, 2) 1 rfl) ((hB1.alloc hB1.size _).alloc (by have := hB1.size; simp; omega) _)).mono ?_
  rw [show pushS [[97]] [98] = [[97], [98]] by decide, show pushE [[97]] [98] = 0 by decide, show pushN [[97]] [98] = 2 by decide]
  rintro e w2 ⟨A3, c3, A4, c4, rfl, hq2, hv2, hB2, hb2⟩
  unfold resV
  have bw2 : Below (w1.heap.size + 1) (w1.alloc (.cells #[.int .i64 0, .slice A2 0 c2, .int .i64 1] 26)) w2 := ((Below.refl _ _).alloc (by simp) _).trans (hb2.mono (by simp))
  have hV1 := Lib.hid ((Blk.new w1 26 #[.int .i64 0, .slice A2 0 c2, .int .i64 1]).below (by rw [World.size_alloc]; exact bw2))
  clear hq1 hv1 hv2 hb1 hb2 bw2
  go_wp2_with fail
  refine (pop_any (W := w) (qs := [[97], [98]]) (A := A3) (n := 2) (c := c3) (by omega) hq2.cap (LimL.few (by simp)) (hq2.rd.below ((Below.refl _ _).alloc (by simp) _)) (hB2.alloc hB2.size _)).mono ?_
  rw [show List.tail [[97], [98]] = [[98]] by decide, show popE [[97], [98]] = 0 by decide, show popV [[97], [98]] = [97] by decide]
  rintro e w3 ⟨A5, c5, A6, c6, rfl, hq3, hv3, hB3, hb3⟩
  unfold resV
  have hV12 := Lib.hid ((hV1.out.alloc (.cells #[.int .i64 0, .slice A4 0 c4, .int .i64 2] 26)).below hb3)
  have hV2 := Lib.hid ((Blk.new w2 26 #[.int .i64 0, .slice A4 0 c4, .int .i64 2]).below hb3)
  clear hq2 hb3 hV1
  go_wp2_with fail
  refine (pop_any (W := w) (qs := []) (A := none) (n := 0) (c := 0) (by omega) (by omega) (LimL.few (by simp)) (RdQ.nil _ 0 _) (hB3.alloc hB3.size _)).mono ?_
  rw [show List.tail ([] : List (List Nat)) = [] by decide, show popE [] = 4 by decide, show popV [] = [] by decide]
  rintro e w4 ⟨A7, c7, A8, c8, rfl, hq4, hv4, hB4, hb4⟩
  unfold resV
  have b5 : Below w4.heap.size w4 (w4.alloc (.cells #[.int .i64 4, .slice A8 0 c8, .int .i64 0] 26)) := (Below.refl _ _).alloc (Nat.le_refl _) _
  have hV13 := Lib.hid (((hV12.out.alloc (.cells #[.int .i64 0, .slice A6 1 c6, .int .i64 0] 26)).below hb4).below b5)
  have hV22 := Lib.hid (((hV2.out.alloc (.cells #[.int .i64 0, .slice A6 1 c6, .int .i64 0] 26)).below hb4).below b5)
  have hV3 := Lib.hid (((Blk.new w3 26 #[.int .i64 0, .slice A6 1 c6, .int .i64 0]).below hb4).below b5)
  obtain ⟨x0, x1, x2, _, _, _⟩ := three hV13.out
  obtain ⟨y0, y1, y2, _, _, _⟩ := three hV22.out
  obtain ⟨z0, z1, z2, _, _, _⟩ := three hV3.out
  have b6 : Below w3.heap.size w3 (w4.alloc (.cells #[.int .i64 4, .slice A8 0 c8, .int .i64 0] 26)) := (((Below.refl _ _).alloc (Nat.le_refl _) _).trans (hb4.mono (by simp))).trans (b5.mono (by have := hb4.size; simp at this; omega))
  have k1 := str_of (n := 1) (c := c6) ((Rd.own_ hv3).below b6)
  have q1 : (strB [97] == ⟨#[97]⟩) = true := by decide
  have q2 : ((strB [97]).toList == [97]) = true := by rw [ByteArray.toList_eq]; decide
  have hB5 := hB4.alloc hB4.size (.cells #[.int .i64 4, .slice A8 0 c8, .int .i64 0] 26)
  clear hq3 hq4 hv3 hv4
  go_wp2_with fail
  go_ret
  exact ⟨rfl, hB5⟩
end Go.Proofs.Ytogohlljkpchmaa
