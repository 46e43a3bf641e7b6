/- 'awake' of a map, over any contracts of the code's. -/
import Derived.Test.YtmnfjobeaklokaaMapsPlaysCore
namespace Go.Proofs.Ytmnfjobeaklokaa
open Go.RowKit
set_option linter.unusedVariables false
set_option maxHeartbeats 4000000 in
set_option maxRecDepth 100000 in
theorem mapsAwake (hP : PutC7) (hG : GetC7) (hD : DelC7) : AwakeC7 := by
  intro w
  have kc := const1
  have kc2 := const2
  have kc3 := const3
  have hB0 := Below.refl w.heap.size w
  have i1 : Mp.Inv [([98], [49])] := by have := Mp.Inv.nil.put (k := [98]) (v := [49]) (by simp) (by simp); rwa [show Mp.putS [] [98] [49] = [([98], [49])] by decide] at this
  have i2 : Mp.Inv [([97], [50]), ([98], [49])] := by have := i1.put (k := [97]) (v := [50]) (by simp) (by simp); rwa [show Mp.putS [([98], [49])] [97] [50] = [([97], [50]), ([98], [49])] by decide] at this
  have i3 : Mp.Inv [([97], [50]), ([98], [51])] := by have := i2.put (k := [98]) (v := [51]) (by simp) (by simp); rwa [show Mp.putS [([97], [50]), ([98], [49])] [98] [51] = [([97], [50]), ([98], [51])] by decide] at this
  have i4 : Mp.Inv [([98], [51])] := by have := i3.del (k := [97]); rwa [show Mp.delS [([97], [50]), ([98], [51])] [97] = [([98], [51])] by decide] at this
  have I1 := Lib.hid i1
  have I2 := Lib.hid i2
  have I3 := Lib.hid i3
  have I4 := Lib.hid i4
  clear i1 i2 i3 i4
  go_enter Try.func9, Try.ntmps9
  go_wp2_with fail
  refine (hP (W := w) (ps := []) (k := [98]) (v := [49]) (A := none) (n := 0) (c := 0) (A' := some ⟨w.heap.size, 0, none⟩) (n' := 1) (c' := 1) (A'' := some ⟨w.heap.size + 1, 0, none⟩) (n'' := 1) (c'' := 1) (Nat.le_refl _) Mp.Inv.nil (by simp) (by simp) (by omega) (by omega) (RdP.nil _ 0 _)
    ((Rd.made w #[.int .u8 98] 5 (1, 2) 1 rfl).alloc (by simp) _) (Rd.made1 w _ #[.int .u8 49] 5 (1, 2) 1 rfl) ((hB0.alloc hB0.size _).alloc (by simp) _)).mono ?_
  rw [show Mp.putS [] [98] [49] = [([98], [49])] by decide, show Mp.putE [] [98] [49] = 0 by decide, show Mp.putV [] [98] [49] = [] by decide, show Mp.putN [] [98] [49] = 1 by decide]
  rintro e w1 ⟨A1, c1, A2, c2, rfl, hq1, hv1, hB1, hb1⟩
  unfold resV
  go_wp2_with fail
  have s1 := hB1.size
  refine (hP (W := w) (ps := [([98], [49])]) (k := [97]) (v := [50]) (A := A1) (n := 1) (c := c1) (A' := some ⟨w1.heap.size + 1, 0, none⟩) (n' := 1) (c' := 1) (A'' := some ⟨w1.heap.size + 1 + 1, 0, none⟩) (n'' := 1) (c'' := 1) hq1.cap I1.out (by simp) (by simp) (by omega) (by omega)
    (hq1.rd.below ((((Below.refl _ _).alloc (Nat.le_refl _) _).alloc (by simp) _).alloc (by simp; omega) _)) ((Rd.made1 w1 _ #[.int .u8 97] 5 (1, 2) 1 rfl).alloc (by simp) _) (Rd.made2 w1 _ _ #[.int .u8 50] 5 (1, 2) 1 rfl) (((hB1.alloc hB1.size _).alloc (by simp; omega) _).alloc (by simp; omega) _)).mono ?_
  rw [show Mp.putS [([98], [49])] [97] [50] = [([97], [50]), ([98], [49])] by decide, show Mp.putE [([98], [49])] [97] [50] = 0 by decide, show Mp.putV [([98], [49])] [97] [50] = [] by decide, show Mp.putN [([98], [49])] [97] [50] = 2 by decide]
  rintro e w2 ⟨A3, c3, A4, c4, rfl, hq2, hv2, hB2, hb2⟩
  unfold resV
  have bw2 : Below (w1.heap.size + 1) (w1.alloc (.cells #[.int .i64 0, .slice A2 0 c2, .int .i64 1] 26)) w2 := (((Below.refl _ _).alloc (by simp) _).alloc (by simp) _).trans (hb2.mono (by simp))
  have hV1 := Lib.hid ((Blk.new w1 26 #[.int .i64 0, .slice A2 0 c2, .int .i64 1]).below (by rw [World.size_alloc]; exact bw2))
  clear hq1 hv1 hb1 hb2 bw2 hv2 s1
  have HB1 := Lib.hid hB1
  clear hB1
  go_wp2_with fail
  have s2 := hB2.size
  have b3 : Below w2.heap.size w2 (((w2.alloc (.cells #[.int .i64 0, .slice A4 0 c4, .int .i64 2] 26)).alloc (.cells #[.int .u8 98] 5 (1, 2))).alloc (.cells #[.int .u8 51] 5 (1, 2))) := (((Below.refl _ _).alloc (Nat.le_refl _) _).alloc (by simp) _).alloc (by simp; omega) _
  refine (hP (W := w) (ps := [([97], [50]), ([98], [49])]) (k := [98]) (v := [51]) (A := A3) (n := 2) (c := c3) (A' := some ⟨w2.heap.size + 1, 0, none⟩) (n' := 1) (c' := 1) (A'' := some ⟨w2.heap.size + 1 + 1, 0, none⟩) (n'' := 1) (c'' := 1) hq2.cap I2.out (by simp) (by simp) (by omega) (by omega)
    (hq2.rd.below b3) ((Rd.made1 w2 _ #[.int .u8 98] 5 (1, 2) 1 rfl).alloc (by simp) _) (Rd.made2 w2 _ _ #[.int .u8 51] 5 (1, 2) 1 rfl) (((hB2.alloc hB2.size _).alloc (by simp; omega) _).alloc (by simp; omega) _)).mono ?_
  rw [show Mp.putS [([97], [50]), ([98], [49])] [98] [51] = [([97], [50]), ([98], [51])] by decide, show Mp.putE [([97], [50]), ([98], [49])] [98] [51] = 0 by decide, show Mp.putV [([97], [50]), ([98], [49])] [98] [51] = [49] by decide, show Mp.putN [([97], [50]), ([98], [49])] [98] [51] = 2 by decide]
  rintro e w3 ⟨A5, c5, A6, c6, rfl, hq3, hv3, hB3, hb3⟩
  unfold resV
  have bw3 : Below (w2.heap.size + 1) (w2.alloc (.cells #[.int .i64 0, .slice A4 0 c4, .int .i64 2] 26)) w3 := (((Below.refl _ _).alloc (by simp) _).alloc (by simp) _).trans (hb3.mono (by simp))
  have hV12 := Lib.hid ((hV1.out.alloc (.cells #[.int .i64 0, .slice A4 0 c4, .int .i64 2] 26)).below (by rw [World.size_alloc]; exact bw3))
  have hV2 := Lib.hid ((Blk.new w2 26 #[.int .i64 0, .slice A4 0 c4, .int .i64 2]).below (by rw [World.size_alloc]; exact bw3))
  have hQ2 := Lib.hid (hq2.below ((Below.refl _ _).alloc (Nat.le_refl _) _ |>.trans (bw3.mono (by simp))))
  clear hq2 hb3 bw3 hV1 s2 b3
  have HB2 := Lib.hid hB2
  clear hB2
  go_wp2_with fail
  have s3 := hB3.size
  have b4 : Below w3.heap.size w3 ((w3.alloc (.cells #[.int .i64 0, .slice A6 1 c6, .int .i64 2] 26)).alloc (.cells #[.int .u8 97] 5 (1, 2))) := ((Below.refl _ _).alloc (Nat.le_refl _) _).alloc (by simp) _
  refine (hD (W := w) (ps := [([97], [50]), ([98], [51])]) (k := [97]) (A := A5) (n := 2) (c := c5) (A' := some ⟨w3.heap.size + 1, 0, none⟩) (n' := 1) (c' := 1) hq3.cap I3.out (by simp) (by omega) (hq3.rd.below b4) (Rd.made1 w3 _ #[.int .u8 97] 5 (1, 2) 1 rfl) ((hB3.alloc hB3.size _).alloc (by simp; omega) _)).mono ?_
  rw [show Mp.delS [([97], [50]), ([98], [51])] [97] = [([98], [51])] by decide, show Mp.getE [([97], [50]), ([98], [51])] [97] = 0 by decide, show Mp.getV [([97], [50]), ([98], [51])] [97] = [50] by decide]
  rintro e w4 ⟨A7, c7, A8, c8, rfl, hq4, hv4, hB4, hb4⟩
  unfold resV
  have bw4 : Below (w3.heap.size + 1) (w3.alloc (.cells #[.int .i64 0, .slice A6 1 c6, .int .i64 2] 26)) w4 := ((Below.refl _ _).alloc (by simp) _).trans (hb4.mono (by simp))
  have bz : Below w4.heap.size w4 (w4.alloc (.cells #[.int .i64 0, .slice A8 1 c8, .int .i64 0] 26)) := (Below.refl _ _).alloc (Nat.le_refl _) _
  have hV3 := Lib.hid (((Blk.new w3 26 #[.int .i64 0, .slice A6 1 c6, .int .i64 2]).below (by rw [World.size_alloc]; exact bw4)).below bz)
  have hV13 := Lib.hid (((hV12.out.alloc (.cells #[.int .i64 0, .slice A6 1 c6, .int .i64 2] 26)).below (by rw [World.size_alloc]; exact bw4)).below bz)
  have hV22 := Lib.hid (((hV2.out.alloc (.cells #[.int .i64 0, .slice A6 1 c6, .int .i64 2] 26)).below (by rw [World.size_alloc]; exact bw4)).below bz)
  have bA3 : Below w3.heap.size w3 (w3.alloc (.cells #[.int .i64 0, .slice A6 1 c6, .int .i64 2] 26)) := (Below.refl _ _).alloc (Nat.le_refl _) _
  have b34 : Below w3.heap.size w3 (w4.alloc (.cells #[.int .i64 0, .slice A8 1 c8, .int .i64 0] 26)) := bA3.trans ((bw4.trans (bz.mono (by have := bw4.size; simp at this; omega))).mono (by omega))
  have hQ22 := hQ2.out.below b34
  obtain ⟨vs, hrow, hown⟩ := hQ22
  obtain ⟨A9, c9, hcv, ho9⟩ := hown.cell 0 [97] rfl
  obtain ⟨g, rfl, hg1, hg2⟩ := own_addrS hrow (by decide)
  have hcs := (hrow.cellAt 0 (by decide)).trans hcv
  have k9 := str_of (n := 1) (c := c9) (Rd.own_ ho9)
  have k6 := str_of (n := 1) (c := c6) ((Rd.own_ hv3).below b34)
  obtain ⟨x0, x1, x2, _, _, _⟩ := three hV13.out
  obtain ⟨y0, y1, y2, _, _, _⟩ := three hV22.out
  obtain ⟨z0, z1, z2, _, _, _⟩ := three hV3.out
  have p1 : (strB [97] == ⟨#[97]⟩) = true := by decide
  have p2 : ((strB [97]).toList == [97]) = true := by rw [ByteArray.toList_eq]; decide
  have p3 : (strB [49] == ⟨#[49]⟩) = true := by decide
  have p4 : ((strB [49]).toList == [49]) = true := by rw [ByteArray.toList_eq]; decide
  have p5 : (strB [51] == ⟨#[51]⟩) = true := by decide
  have p6 : ((strB [51]).toList == [51]) = true := by rw [ByteArray.toList_eq]; decide
  have p7 : (strB [50] == ⟨#[50]⟩) = true := by decide
  have p8 : ((strB [50]).toList == [50]) = true := by rw [ByteArray.toList_eq]; decide
  have kf := val_field
  have kf0 : ∀ (e N : Int) (A : Option Addr) (n c : Nat) (w : World), (Instr.field 26 (.agg #[.int .i64 e, .slice A n c, .int .i64 N]) 0).run Try.prog w = .ok (.int .i64 e) w := fun _ _ _ _ _ _ => rfl
  have hQ3 := Lib.hid (hq3.below b34)
  have hQ4 := Lib.hid (hq4.below bz)
  have hV4 := Lib.hid (Blk.new w4 26 #[.int .i64 0, .slice A8 1 c8, .int .i64 0])
  have hR4 := Lib.hid ((Rd.own_ hv4).below bz)
  have hBz := hB4.alloc hB4.size (.cells #[.int .i64 0, .slice A8 1 c8, .int .i64 0] 26)
  have HBz := Lib.hid hBz
  have s4 := hB4.size
  clear hrow hown hcv ho9 hg1 hg2 hq3 hq4 hv3 hv4 bw4 bz bA3 b34 hV12 hV2 hQ2 hb4 hBz hV13 hV22 hV3 b4 s3
  go_wp2_with fail
  have bk : Below (w4.heap.size + 1) (w4.alloc (.cells #[.int .i64 0, .slice A8 1 c8, .int .i64 0] 26)) ((w4.alloc (.cells #[.int .i64 0, .slice A8 1 c8, .int .i64 0] 26)).alloc (.cells #[.int .u8 98] 5 (1, 2))) := (Below.refl _ _).alloc (by simp) _
  refine (hG (W := w) (ps := [([97], [50]), ([98], [51])]) (k := [98]) (A := A5) (n := 2) (c := c5) (A' := some ⟨w4.heap.size + 1, 0, none⟩) (n' := 1) (c' := 1) hQ3.out.cap I3.out (by simp) (by omega) (hQ3.out.rd.below (by rw [World.size_alloc]; exact bk)) (Rd.made1 w4 _ #[.int .u8 98] 5 (1, 2) 1 rfl) (HBz.out.alloc (by simp; omega) _)).mono ?_
  rw [show Mp.getE [([97], [50]), ([98], [51])] [98] = 0 by decide, show Mp.getV [([97], [50]), ([98], [51])] [98] = [51] by decide]
  rintro e w5 ⟨A10, c10, rfl, hv5, hB5, hb5⟩
  unfold resV
  have bz5 : Below (w4.heap.size + 1) (w4.alloc (.cells #[.int .i64 0, .slice A8 1 c8, .int .i64 0] 26)) w5 := bk.trans (hb5.mono (by simp))
  have k10 := str_of (n := 1) (c := c10) (Rd.own_ hv5)
  have hV45 := Lib.hid (hV4.out.below (by rw [World.size_alloc]; exact bz5))
  have k8 := str_of (n := 1) (c := c8) (hR4.out.fit.below (by rw [World.size_alloc]; exact bz5))
  have hQ45 := Lib.hid (hQ4.out.below (by rw [World.size_alloc]; exact bz5))
  clear x0 x1 x2 y0 y1 y2 z0 z1 z2 hcs k9 k6
  obtain ⟨x0, x1, x2, _, _, _⟩ := three hV45.out
  have s5 := hB5.size
  clear hv5 hb5 bk bz5 hV4 hQ4 hR4
  go_wp2_with fail
  refine (hG (W := w) (ps := [([98], [51])]) (k := [97]) (A := A7) (n := 1) (c := c7) (A' := some ⟨w5.heap.size, 0, none⟩) (n' := 1) (c' := 1) hQ45.out.cap I4.out (by simp) (by omega) (hQ45.out.rd.below ((Below.refl _ _).alloc (Nat.le_refl _) _)) (Rd.made w5 #[.int .u8 97] 5 (1, 2) 1 rfl) (hB5.alloc s5 _)).mono ?_
  rw [show Mp.getE [([98], [51])] [97] = 5 by decide, show Mp.getV [([98], [51])] [97] = [] by decide]
  rintro e w6 ⟨A11, c11, rfl, hv6, hB6, hb6⟩
  unfold resV
  clear hv6 hb6
  go_wp2_with fail
  go_ret
  exact ⟨rfl, hB6⟩
end Go.Proofs.Ytmnfjobeaklokaa
