/- DiskAwake -/
import Derived.Test.YtlfkgpllleogoaaDP36
import Derived.Deep.CutBlock
import Derived.Deep.DeepCutAuto
namespace Go.Proofs.Ytlfkgpllleogoaa
open Go.RowKit
set_option linter.unusedVariables false
set_option maxHeartbeats 2000000 in
set_option maxRecDepth 100000 in
theorem diskAwake (w : World) : Calls Try.prog 28 #[] w fun e w' => e = .returned (.bool true) ∧ Below w.heap.size w w' := by
  obtain ⟨S1, S2, S3, R, hw1, hw2, hw3, hr2, hr3, hr0, hrc, h5, hp⟩ := Dk.awake_math
  have HW1 := Lib.hid hw1
  have HW2 := Lib.hid hw2
  have HW3 := Lib.hid hw3
  have HR2 := Lib.hid hr2
  have HR3 := Lib.hid hr3
  have HR0 := Lib.hid hr0
  have HRC := Lib.hid hrc
  have hl1 : (0 : Int) < (S1.length : Int) := by omega
  have hl3 : ((S3.length : Int) == 5) = true := by simp; omega
  have HL1 := Lib.hid hl1
  have HL3 := Lib.hid hl3
  clear hw1 hw2 hw3 hr2 hr3 hr0 hrc hl1 hl3 h5 hp
  go_enter Try.func28, Try.ntmps28
  go_upto_region 2 with (first
    | (go_at_call 26; refine ((OwnD.zero w w).write (W := w) (Below.refl _ _) HW1.out).mono ?_; rintro en w1 ⟨A1, d1, B1, e1, rfl, ho, hB, hb⟩
       have HO1 := Lib.hid ho
       have HB1 := Lib.hid hB
       have HBB := Lib.hid hb
       clear ho hB hb)
    | (refine wpList_store_row rfl 44 (.tmp 1) (.tmp 12) rfl w1.heap.size #[.slice A1 S1.length d1, .slice B1 0 e1] rfl rfl 44 #[.slice none 0 0, .slice none 0 0] (Blk.new w1 44 #[.slice none 0 0, .slice none 0 0]) (by kernel_rfl) rfl (by kernel_rfl) ?_)
    | fail)
  obtain ⟨g1, w2, hgE, hwE, hbE, hkE⟩ := boxed w1 #[.slice none 0 0, .slice none 0 0] #[.slice A1 S1.length d1, .slice B1 0 e1] 44
  rw [hgE, hwE]
  have HB12 := Lib.hid hbE
  have HK1 := Lib.hid hkE
  clear hgE hwE hbE hkE
  have HO1 := Lib.hid (HO1.out.below HB12.out)
  have HB2 := Lib.hid (HB1.out.trans (HB12.out.mono HB1.out.size))
  clear HB12 HB1
  go_upto_region 3 with (first
    | (refine wpList_load_row rfl  44 (.tmp 1) rfl g1 rfl 44 #[.slice A1 S1.length d1, .slice B1 0 e1] (0, 0) _ HK1.out Try.underlying44 rfl (by kernel_rfl) ?_)
    | (go_at_call 26; refine (HO1.out.write (W := w) HB2.out HW2.out).mono ?_; rintro en w3 ⟨A2, d2, B2, e2, rfl, ho, hB, hb⟩
       have HO2 := Lib.hid ho
       have HB3 := Lib.hid hB
       have HBB := Lib.hid hb
       clear ho hB hb)
    | (refine wpList_store_row rfl 44 (.tmp 2) (.tmp 15) rfl w3.heap.size #[.slice A2 S1.length d2, .slice B2 S2.length e2] rfl rfl 44 #[.slice none 0 0, .slice none 0 0] (Blk.new w3 44 #[.slice none 0 0, .slice none 0 0]) (by kernel_rfl) rfl (by kernel_rfl) ?_)
    | fail)
  obtain ⟨g2, w4, hgE, hwE, hbE, hkE⟩ := boxed w3 #[.slice none 0 0, .slice none 0 0] #[.slice A2 S1.length d2, .slice B2 S2.length e2] 44
  rw [hgE, hwE]
  have HB34 := Lib.hid hbE
  have HK2 := Lib.hid hkE
  clear hgE hwE hbE hkE
  have HO2 := Lib.hid (HO2.out.below HB34.out)
  have HB4 := Lib.hid (HB3.out.trans (HB34.out.mono HB3.out.size))
  have HK1 := Lib.hid ((HK1.out.below HBB.out).below HB34.out)
  clear HB34 HB3 HBB
  go_upto_region 4 with (first
    | (refine wpList_load_row rfl  44 (.tmp 2) rfl g2 rfl 44 #[.slice A2 S1.length d2, .slice B2 S2.length e2] (0, 0) _ HK2.out Try.underlying44 rfl (by kernel_rfl) ?_)
    | (go_at_call 26; refine (HO2.out.write (W := w) HB4.out HW3.out).mono ?_; rintro en w5 ⟨A3, d3, B3, e3, rfl, ho, hB, hb⟩
       have HO3 := Lib.hid ho
       have HB5 := Lib.hid hB
       have HBB := Lib.hid hb
       clear ho hB hb)
    | (refine wpList_store_row rfl 44 (.tmp 3) (.tmp 18) rfl w5.heap.size #[.slice A3 S3.length d3, .slice B3 S2.length e3] rfl rfl 44 #[.slice none 0 0, .slice none 0 0] (Blk.new w5 44 #[.slice none 0 0, .slice none 0 0]) (by kernel_rfl) rfl (by kernel_rfl) ?_)
    | fail)
  obtain ⟨g3, w6, hgE, hwE, hbE, hkE⟩ := boxed w5 #[.slice none 0 0, .slice none 0 0] #[.slice A3 S3.length d3, .slice B3 S2.length e3] 44
  rw [hgE, hwE]
  have HB56 := Lib.hid hbE
  have HK3 := Lib.hid hkE
  clear hgE hwE hbE hkE
  have HO3 := Lib.hid (HO3.out.below HB56.out)
  have HB6 := Lib.hid (HB5.out.trans (HB56.out.mono HB5.out.size))
  have HK1 := Lib.hid ((HK1.out.below HBB.out).below HB56.out)
  have HK2 := Lib.hid ((HK2.out.below HBB.out).below HB56.out)
  have HO2 := Lib.hid ((HO2.out.below HBB.out).below HB56.out)
  clear HB56 HB5 HBB
  go_upto_region 5 with (first
    | (refine wpList_load_row rfl  44 (.tmp 2) rfl g2 rfl 44 #[.slice A2 S1.length d2, .slice B2 S2.length e2] (0, 0) _ HK2.out Try.underlying44 rfl (by kernel_rfl) ?_)
    | (go_at_call 27; refine (HO2.out.read (W := w) HB6.out HR2.out).mono ?_; rintro en w7 ⟨he, hB, hb⟩
       have he2 : en = .returned (.tuple #[.agg #[.int .i64 2, .int .i64 8, .int .i64 0], .bool true]) := by rw [he, HRC.out]; rfl
       clear he
       subst he2
       have HB7 := Lib.hid hB
       have HBB := Lib.hid hb
       clear hB hb)
    | (refine wpList_store_row rfl 46 (.tmp 4) (.tmp 22) rfl w7.heap.size #[.int .i64 2, .int .i64 8, .int .i64 0] rfl rfl 46 #[.int .i64 0, .int .i64 0, .int .i64 0] (Blk.new w7 46 #[.int .i64 0, .int .i64 0, .int .i64 0]) (by kernel_rfl) rfl (by kernel_rfl) ?_)
    | fail)
  obtain ⟨g4, w8, hgE, hwE, hbE, hkE⟩ := boxed w7 #[.int .i64 0, .int .i64 0, .int .i64 0] #[.int .i64 2, .int .i64 8, .int .i64 0] 46
  rw [hgE, hwE]
  have HB78 := Lib.hid hbE
  have HK4 := Lib.hid hkE
  clear hgE hwE hbE hkE
  have HB8 := Lib.hid (HB7.out.trans (HB78.out.mono HB7.out.size))
  have HK1 := Lib.hid ((HK1.out.below HBB.out).below HB78.out)
  have HK2 := Lib.hid ((HK2.out.below HBB.out).below HB78.out)
  have HK3 := Lib.hid ((HK3.out.below HBB.out).below HB78.out)
  have HO3 := Lib.hid ((HO3.out.below HBB.out).below HB78.out)
  clear HB78 HB7 HBB HO2
  go_upto_region 6 with (first
    | (refine wpList_load_row rfl  44 (.tmp 3) rfl g3 rfl 44 #[.slice A3 S3.length d3, .slice B3 S2.length e3] (0, 0) _ HK3.out Try.underlying44 rfl (by kernel_rfl) ?_)
    | (go_at_call 27; refine (HO3.out.read (W := w) HB8.out HR3.out).mono ?_; rintro en w9 ⟨he, hB, hb⟩
       have he2 : en = .returned (.tuple #[.agg #[.int .i64 2, .int .i64 8, .int .i64 0], .bool true]) := by rw [he, HRC.out]; rfl
       clear he
       subst he2
       have HB9 := Lib.hid hB
       have HBB := Lib.hid hb
       clear hB hb)
    | (refine wpList_store_row rfl 46 (.tmp 6) (.tmp 27) rfl w9.heap.size #[.int .i64 2, .int .i64 8, .int .i64 0] rfl rfl 46 #[.int .i64 0, .int .i64 0, .int .i64 0] (Blk.new w9 46 #[.int .i64 0, .int .i64 0, .int .i64 0]) (by kernel_rfl) rfl (by kernel_rfl) ?_)
    | fail)
  obtain ⟨g6, wa, hgE, hwE, hbE, hkE⟩ := boxed w9 #[.int .i64 0, .int .i64 0, .int .i64 0] #[.int .i64 2, .int .i64 8, .int .i64 0] 46
  rw [hgE, hwE]
  have HB9a := Lib.hid hbE
  have HK6 := Lib.hid hkE
  clear hgE hwE hbE hkE
  have HBa := Lib.hid (HB9.out.trans (HB9a.out.mono HB9.out.size))
  have HK1 := Lib.hid ((HK1.out.below HBB.out).below HB9a.out)
  have HK3 := Lib.hid ((HK3.out.below HBB.out).below HB9a.out)
  have HK4 := Lib.hid ((HK4.out.below HBB.out).below HB9a.out)
  clear HB9a HB9 HBB HO3 HK2
  go_upto_region 7 with (first
    | (go_at_call 27; refine ((OwnD.zero w wa).read (W := w) HBa.out HR0.out).mono ?_; rintro en wb ⟨he, hB, hb⟩
       have he2 : en = .returned (.tuple #[.agg #[.int .i64 0, .int .i64 0, .int .i64 0], .bool false]) := he
       clear he
       subst he2
       have HBb := Lib.hid hB
       have HBB := Lib.hid hb
       clear hB hb)
    | (refine wpList_store_row rfl 46 (.tmp 8) (.tmp 32) rfl wb.heap.size #[.int .i64 0, .int .i64 0, .int .i64 0] rfl rfl 46 #[.int .i64 0, .int .i64 0, .int .i64 0] (Blk.new wb 46 #[.int .i64 0, .int .i64 0, .int .i64 0]) (by kernel_rfl) rfl (by kernel_rfl) ?_)
    | fail)
  obtain ⟨g8, wc, hgE, hwE, hbE, hkE⟩ := boxed wb #[.int .i64 0, .int .i64 0, .int .i64 0] #[.int .i64 0, .int .i64 0, .int .i64 0] 46
  rw [hgE, hwE]
  have HBbc := Lib.hid hbE
  have HK8 := Lib.hid hkE
  clear hgE hwE hbE hkE
  have HBc := Lib.hid (HBb.out.trans (HBbc.out.mono HBb.out.size))
  have HK1 := Lib.hid ((HK1.out.below HBB.out).below HBbc.out)
  have HK3 := Lib.hid ((HK3.out.below HBB.out).below HBbc.out)
  have HK4 := Lib.hid ((HK4.out.below HBB.out).below HBbc.out)
  have HK6 := Lib.hid ((HK6.out.below HBB.out).below HBbc.out)
  clear HBbc HBb HBB
  have x0 : wc.cell? ⟨g1, 0, none⟩ = some (.slice A1 S1.length d1) := HK1.out.cell 0
  have x1 : wc.cell? ⟨g1, 1, none⟩ = some (.slice B1 0 e1) := HK1.out.cell 1
  have x3 : wc.cell? ⟨g3, 0, none⟩ = some (.slice A3 S3.length d3) := HK3.out.cell 0
  have hl1 := HL1.out
  have hl3 := HL3.out
  obtain ⟨y0, y1, y2, _, _, _⟩ := three HK4.out
  obtain ⟨z0, z1, z2, _, _, _⟩ := three HK6.out
  go_wp2_with fail
  go_ret
  exact ⟨rfl, HBc.out⟩
end Go.Proofs.Ytlfkgpllleogoaa

