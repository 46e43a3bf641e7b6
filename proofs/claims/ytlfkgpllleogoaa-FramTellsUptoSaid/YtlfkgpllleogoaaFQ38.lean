/- FramAwake -/
import Derived.Test.YtlfkgpllleogoaaFQ35
import Derived.Test.YtlfkgpllleogoaaFQ36
import Derived.Test.YtlfkgpllleogoaaFQ37
namespace Go.Proofs.Ytlfkgpllleogoaa
open Go.RowKit
set_option linter.unusedVariables false
namespace framA
def M1 : Mg := { Mg.zero with kind := 1, frm := 1, dst := 2, view := 9 }
theorem e1 : Fr.wrap M1 = [104, 8, 208, 211, 1, 1, 2, 9] := by decide +kernel
theorem d1 : Fr.opn [104, 8, 208, 211, 1, 1, 2, 9] = some M1 := by decide +kernel
theorem d2 : Fr.opn [104, 8, 208, 211] = none := by decide +kernel
theorem e0 : Fr.wrap Mg.zero = [] := by decide +kernel
theorem w1 : M1.Wide := ⟨⟨by decide, by decide⟩, by decide, by decide, Cm.Fits.zero.wide⟩
end framA
set_option maxHeartbeats 4000000 in
set_option maxRecDepth 100000 in
theorem framAwake (w : World) : Calls Try.prog 23 #[] w fun e w' => e = .returned (.bool true) ∧ Below w.heap.size w w' := by
  have hz0 : Blk (w.alloc (.cells #[.int .i64 0, .int .i64 0, .int .i64 0, .int .i64 0, .int .i64 0, .int .i64 0, .bool false, .int .i64 0, .int .i64 0, .int .i64 0, .int .i64 0, .slice none 0 0, .int .i64 0, .int .i64 0, .slice none 0 0, .slice none 0 0, .int .i64 0, .int .i64 0, .int .i64 0, .int .i64 0, .int .i64 0, .slice none 0 0, .slice none 0 0, .slice none 0 0] 29)) w.heap.size 29 #[.int .i64 0, .int .i64 0, .int .i64 0, .int .i64 0, .int .i64 0, .int .i64 0, .bool false, .int .i64 0, .int .i64 0, .int .i64 0, .int .i64 0, .slice none 0 0, .int .i64 0, .int .i64 0, .slice none 0 0, .slice none 0 0, .int .i64 0, .int .i64 0, .int .i64 0, .int .i64 0, .int .i64 0, .slice none 0 0, .slice none 0 0, .slice none 0 0] := Blk.new _ _ _
  have hbz : Below w.heap.size w ((w.alloc (.cells #[.int .i64 0, .int .i64 0, .int .i64 0, .int .i64 0, .int .i64 0, .int .i64 0, .bool false, .int .i64 0, .int .i64 0, .int .i64 0, .int .i64 0, .slice none 0 0, .int .i64 0, .int .i64 0, .slice none 0 0, .slice none 0 0, .int .i64 0, .int .i64 0, .int .i64 0, .int .i64 0, .int .i64 0, .slice none 0 0, .slice none 0 0, .slice none 0 0] 29)).setRow w.heap.size #[.int .i64 1, .int .i64 1, .int .i64 2, .int .i64 9, .int .i64 0, .int .i64 0, .bool false, .int .i64 0, .int .i64 0, .int .i64 0, .int .i64 0, .slice none 0 0, .int .i64 0, .int .i64 0, .slice none 0 0, .slice none 0 0, .int .i64 0, .int .i64 0, .int .i64 0, .int .i64 0, .int .i64 0, .slice none 0 0, .slice none 0 0, .slice none 0 0]) := below_setRow ((Below.refl _ _).alloc (Nat.le_refl _) _) (Nat.le_refl _) _
  have c3 := hz0.row #[.int .i64 1, .int .i64 1, .int .i64 2, .int .i64 9, .int .i64 0, .int .i64 0, .bool false, .int .i64 0, .int .i64 0, .int .i64 0, .int .i64 0, .slice none 0 0, .int .i64 0, .int .i64 0, .slice none 0 0, .slice none 0 0, .int .i64 0, .int .i64 0, .int .i64 0, .int .i64 0, .int .i64 0, .slice none 0 0, .slice none 0 0, .slice none 0 0]
  have HZ := Lib.hid hz0
  clear hz0
  go_enter Try.func23, Try.ntmps23
  go_upto_region 2 with (first
    | (refine wpList_store_row rfl 29 (.tmp 1) (.tmp 7) rfl w.heap.size #[.int .i64 1, .int .i64 1, .int .i64 2, .int .i64 9, .int .i64 0, .int .i64 0, .bool false, .int .i64 0, .int .i64 0, .int .i64 0, .int .i64 0, .slice none 0 0, .int .i64 0, .int .i64 0, .slice none 0 0, .slice none 0 0, .int .i64 0, .int .i64 0, .int .i64 0, .int .i64 0, .int .i64 0, .slice none 0 0, .slice none 0 0, .slice none 0 0] rfl rfl 29 #[.int .i64 0, .int .i64 0, .int .i64 0, .int .i64 0, .int .i64 0, .int .i64 0, .bool false, .int .i64 0, .int .i64 0, .int .i64 0, .int .i64 0, .slice none 0 0, .int .i64 0, .int .i64 0, .slice none 0 0, .slice none 0 0, .int .i64 0, .int .i64 0, .int .i64 0, .int .i64 0, .int .i64 0, .slice none 0 0, .slice none 0 0, .slice none 0 0] HZ.out (by kernel_rfl) rfl (by kernel_rfl) ?_)
    | fail)
  clear HZ
  obtain ⟨h, hh⟩ : ∃ h, w.heap.size = h := ⟨_, rfl⟩
  generalize (w.alloc (.cells #[.int .i64 0, .int .i64 0, .int .i64 0, .int .i64 0, .int .i64 0, .int .i64 0, .bool false, .int .i64 0, .int .i64 0, .int .i64 0, .int .i64 0, .slice none 0 0, .int .i64 0, .int .i64 0, .slice none 0 0, .slice none 0 0, .int .i64 0, .int .i64 0, .int .i64 0, .int .i64 0, .int .i64 0, .slice none 0 0, .slice none 0 0, .slice none 0 0] 29)).setRow w.heap.size #[.int .i64 1, .int .i64 1, .int .i64 2, .int .i64 9, .int .i64 0, .int .i64 0, .bool false, .int .i64 0, .int .i64 0, .int .i64 0, .int .i64 0, .slice none 0 0, .int .i64 0, .int .i64 0, .slice none 0 0, .slice none 0 0, .int .i64 0, .int .i64 0, .int .i64 0, .int .i64 0, .int .i64 0, .slice none 0 0, .slice none 0 0, .slice none 0 0] = w1 at hbz c3 ⊢
  rw [hh] at c3 ⊢
  have HB := Lib.hid hbz
  have HK1 := Lib.hid c3
  have hv1 : msgV GA.zero framA.M1 = .agg #[.int .i64 1, .int .i64 1, .int .i64 2, .int .i64 9, .int .i64 0, .int .i64 0, .bool false, .int .i64 0, .int .i64 0, .int .i64 0, .int .i64 0, .slice none 0 0, .int .i64 0, .int .i64 0, .slice none 0 0, .slice none 0 0, .int .i64 0, .int .i64 0, .int .i64 0, .int .i64 0, .int .i64 0, .slice none 0 0, .slice none 0 0, .slice none 0 0] := rfl
  have hr1 : ∀ wx : World, RdG wx wx.heap.size GA.zero framA.M1 := fun wx => ⟨Rd.none_ _ _ _, Rd.none_ _ _ _, Rd.none_ _ _ _, RdC.zero _ _, ⟨Nat.le_refl _, Nat.zero_le _⟩, ⟨Nat.le_refl _, Nat.zero_le _⟩⟩
  have HR1 := Lib.hid hr1
  have HV1 := Lib.hid hv1
  have C1 : Hid (Calls Try.prog 21 #[.agg #[.int .i64 1, .int .i64 1, .int .i64 2, .int .i64 9, .int .i64 0, .int .i64 0, .bool false, .int .i64 0, .int .i64 0, .int .i64 0, .int .i64 0, .slice none 0 0, .int .i64 0, .int .i64 0, .slice none 0 0, .slice none 0 0, .int .i64 0, .int .i64 0, .int .i64 0, .int .i64 0, .int .i64 0, .slice none 0 0, .slice none 0 0, .slice none 0 0]] w1 (GotIn w1 w1 [104, 8, 208, 211, 1, 1, 2, 9])) := Lib.hid (by rw [← hv1]; exact frwrap_is framA.e1 framA.w1 (hr1 _) (Below.refl _ _))
  clear hbz c3 hr1 hv1 hh
  go_upto_region 3 with (first
    | (refine wpList_load_row rfl 29 (.tmp 1) rfl h rfl 29 #[.int .i64 1, .int .i64 1, .int .i64 2, .int .i64 9, .int .i64 0, .int .i64 0, .bool false, .int .i64 0, .int .i64 0, .int .i64 0, .int .i64 0, .slice none 0 0, .int .i64 0, .int .i64 0, .slice none 0 0, .slice none 0 0, .int .i64 0, .int .i64 0, .int .i64 0, .int .i64 0, .int .i64 0, .slice none 0 0, .slice none 0 0, .slice none 0 0] (0, 0) _ HK1.out Try.underlying29 rfl (by kernel_rfl) ?_)
    | (go_at_call 21; refine C1.out.mono ?_; rintro e w2 ⟨A2, c2, he, ho2, hB2, hb2⟩
       have he2 : e = .returned (.slice A2 8 c2) := he
       clear he
       subst he2
       have ho2' : OwnB w1 w2 A2 8 c2 [104, 8, 208, 211, 1, 1, 2, 9] := ho2
       have HO2 := Lib.hid ho2'
       have HB2 := Lib.hid hB2
       clear ho2 ho2' hB2 hb2 C1)
    | fail)
  have hcap : 8 ≤ c2 := (own_cap HO2.out).1
  have C2 : Hid (Calls Try.prog 22 #[.slice A2 8 c2] w2 (GotG w2 w2 (some framA.M1))) := Lib.hid (fropen_is framA.d1 (by decide) (by decide) hcap (Rd.own_ HO2.out) (Below.refl _ _))
  have HCAP := Lib.hid hcap
  clear hcap
  go_upto_region 4 with (first
    | (go_at_call 22; refine C2.out.mono ?_; rintro e w3 ⟨a3, he, ho3, hB3, hb3⟩
       have he2 : e = .returned (.tuple #[.agg #[.int .i64 1, .int .i64 1, .int .i64 2, .int .i64 9, .int .i64 0, .int .i64 0, .bool false, .int .i64 0, .int .i64 0, .int .i64 0, .int .i64 0, .slice a3.Ad 0 a3.cd, .int .i64 0, .int .i64 0, .slice a3.Ah 0 a3.ch, .slice a3.An 0 a3.cn, .int .i64 0, .int .i64 0, .int .i64 0, .int .i64 0, .int .i64 0, .slice a3.c.Ak 0 a3.c.ck, .slice a3.c.Av 0 a3.c.cv, .slice a3.c.Ao 0 a3.c.co], .bool true]) := he
       clear he
       subst he2
       have ho3' : OwnG w2 w3 a3 framA.M1 := ho3
       have HO3 := Lib.hid ho3'
       have HB3 := Lib.hid hB3
       have HZ3 := Lib.hid (Blk.new w3 29 #[.int .i64 0, .int .i64 0, .int .i64 0, .int .i64 0, .int .i64 0, .int .i64 0, .bool false, .int .i64 0, .int .i64 0, .int .i64 0, .int .i64 0, .slice none 0 0, .int .i64 0, .int .i64 0, .slice none 0 0, .slice none 0 0, .int .i64 0, .int .i64 0, .int .i64 0, .int .i64 0, .int .i64 0, .slice none 0 0, .slice none 0 0, .slice none 0 0])
       clear ho3 ho3' hB3 hb3 C2)
    | (refine wpList_store_row rfl 29 (.tmp 3) (.tmp 13) rfl w3.heap.size #[.int .i64 1, .int .i64 1, .int .i64 2, .int .i64 9, .int .i64 0, .int .i64 0, .bool false, .int .i64 0, .int .i64 0, .int .i64 0, .int .i64 0, .slice a3.Ad 0 a3.cd, .int .i64 0, .int .i64 0, .slice a3.Ah 0 a3.ch, .slice a3.An 0 a3.cn, .int .i64 0, .int .i64 0, .int .i64 0, .int .i64 0, .int .i64 0, .slice a3.c.Ak 0 a3.c.ck, .slice a3.c.Av 0 a3.c.cv, .slice a3.c.Ao 0 a3.c.co] rfl rfl 29 #[.int .i64 0, .int .i64 0, .int .i64 0, .int .i64 0, .int .i64 0, .int .i64 0, .bool false, .int .i64 0, .int .i64 0, .int .i64 0, .int .i64 0, .slice none 0 0, .int .i64 0, .int .i64 0, .slice none 0 0, .slice none 0 0, .int .i64 0, .int .i64 0, .int .i64 0, .int .i64 0, .int .i64 0, .slice none 0 0, .slice none 0 0, .slice none 0 0] HZ3.out (by kernel_rfl) rfl (by kernel_rfl) ?_)
    | fail)
  have hb34 : Below w3.heap.size w3 ((w3.alloc (.cells #[.int .i64 0, .int .i64 0, .int .i64 0, .int .i64 0, .int .i64 0, .int .i64 0, .bool false, .int .i64 0, .int .i64 0, .int .i64 0, .int .i64 0, .slice none 0 0, .int .i64 0, .int .i64 0, .slice none 0 0, .slice none 0 0, .int .i64 0, .int .i64 0, .int .i64 0, .int .i64 0, .int .i64 0, .slice none 0 0, .slice none 0 0, .slice none 0 0] 29)).setRow w3.heap.size #[.int .i64 1, .int .i64 1, .int .i64 2, .int .i64 9, .int .i64 0, .int .i64 0, .bool false, .int .i64 0, .int .i64 0, .int .i64 0, .int .i64 0, .slice a3.Ad 0 a3.cd, .int .i64 0, .int .i64 0, .slice a3.Ah 0 a3.ch, .slice a3.An 0 a3.cn, .int .i64 0, .int .i64 0, .int .i64 0, .int .i64 0, .int .i64 0, .slice a3.c.Ak 0 a3.c.ck, .slice a3.c.Av 0 a3.c.cv, .slice a3.c.Ao 0 a3.c.co]) := below_setRow ((Below.refl _ _).alloc (Nat.le_refl _) _) (Nat.le_refl _) _
  have HK3 := Lib.hid (HZ3.out.row #[.int .i64 1, .int .i64 1, .int .i64 2, .int .i64 9, .int .i64 0, .int .i64 0, .bool false, .int .i64 0, .int .i64 0, .int .i64 0, .int .i64 0, .slice a3.Ad 0 a3.cd, .int .i64 0, .int .i64 0, .slice a3.Ah 0 a3.ch, .slice a3.An 0 a3.cn, .int .i64 0, .int .i64 0, .int .i64 0, .int .i64 0, .int .i64 0, .slice a3.c.Ak 0 a3.c.ck, .slice a3.c.Av 0 a3.c.cv, .slice a3.c.Ao 0 a3.c.co])
  obtain ⟨h3, hh3⟩ : ∃ h3, w3.heap.size = h3 := ⟨_, rfl⟩
  generalize (w3.alloc (.cells #[.int .i64 0, .int .i64 0, .int .i64 0, .int .i64 0, .int .i64 0, .int .i64 0, .bool false, .int .i64 0, .int .i64 0, .int .i64 0, .int .i64 0, .slice none 0 0, .int .i64 0, .int .i64 0, .slice none 0 0, .slice none 0 0, .int .i64 0, .int .i64 0, .int .i64 0, .int .i64 0, .int .i64 0, .slice none 0 0, .slice none 0 0, .slice none 0 0] 29)).setRow w3.heap.size #[.int .i64 1, .int .i64 1, .int .i64 2, .int .i64 9, .int .i64 0, .int .i64 0, .bool false, .int .i64 0, .int .i64 0, .int .i64 0, .int .i64 0, .slice a3.Ad 0 a3.cd, .int .i64 0, .int .i64 0, .slice a3.Ah 0 a3.ch, .slice a3.An 0 a3.cn, .int .i64 0, .int .i64 0, .int .i64 0, .int .i64 0, .int .i64 0, .slice a3.c.Ak 0 a3.c.ck, .slice a3.c.Av 0 a3.c.cv, .slice a3.c.Ao 0 a3.c.co] = w4 at hb34 HK3 ⊢
  have HO3 := Lib.hid (HO3.out.below hb34)
  have HB24 : Hid (Below w2.heap.size w2 w4) := Lib.hid (HB3.out.trans (hb34.mono HB3.out.size))
  rw [hh3] at HK3 ⊢
  clear hb34 HZ3 HB3 hh3
  have hsl : ∀ w : World, (Instr.slice 22 (.slice A2 8 c2) none (some (.int .i64 4)) none).run Try.prog w = .ok (.slice A2 4 c2) w := by
    obtain ⟨i9, hi1, hi2, hi3, hi4⟩ := info_parts byteT.info
    exact fun w => run_slice_to (P := Try.prog) (t := 22) byteT.under hi1 A2 8 c2 4 (by have := HCAP.out; omega) w
  have C4 : Hid (Calls Try.prog 22 #[.slice A2 4 c2] w4 (GotG w4 w4 none)) := Lib.hid (fropen_is (l := [104, 8, 208, 211]) framA.d2 (by decide) (by decide) (by have := HCAP.out; omega) (((Rd.own_ HO2.out).below HB24.out).take (k := 4) (by omega)) (Below.refl _ _))
  go_upto_region 5 with (first
    | (go_at_call 22; refine C4.out.mono ?_; rintro e w6 ⟨a5, he, ho6, hB6, hb6⟩
       have he2 : e = .returned (.tuple #[.agg #[.int .i64 0, .int .i64 0, .int .i64 0, .int .i64 0, .int .i64 0, .int .i64 0, .bool false, .int .i64 0, .int .i64 0, .int .i64 0, .int .i64 0, .slice a5.Ad 0 a5.cd, .int .i64 0, .int .i64 0, .slice a5.Ah 0 a5.ch, .slice a5.An 0 a5.cn, .int .i64 0, .int .i64 0, .int .i64 0, .int .i64 0, .int .i64 0, .slice a5.c.Ak 0 a5.c.ck, .slice a5.c.Av 0 a5.c.cv, .slice a5.c.Ao 0 a5.c.co], .bool false]) := he
       clear he
       subst he2
       have HB6 := Lib.hid hB6
       have HZ6 := Lib.hid (Blk.new w6 29 #[.int .i64 0, .int .i64 0, .int .i64 0, .int .i64 0, .int .i64 0, .int .i64 0, .bool false, .int .i64 0, .int .i64 0, .int .i64 0, .int .i64 0, .slice none 0 0, .int .i64 0, .int .i64 0, .slice none 0 0, .slice none 0 0, .int .i64 0, .int .i64 0, .int .i64 0, .int .i64 0, .int .i64 0, .slice none 0 0, .slice none 0 0, .slice none 0 0])
       clear ho6 hB6 hb6 C4)
    | (refine wpList_store_row rfl 29 (.tmp 5) (.tmp 22) rfl w6.heap.size #[.int .i64 0, .int .i64 0, .int .i64 0, .int .i64 0, .int .i64 0, .int .i64 0, .bool false, .int .i64 0, .int .i64 0, .int .i64 0, .int .i64 0, .slice a5.Ad 0 a5.cd, .int .i64 0, .int .i64 0, .slice a5.Ah 0 a5.ch, .slice a5.An 0 a5.cn, .int .i64 0, .int .i64 0, .int .i64 0, .int .i64 0, .int .i64 0, .slice a5.c.Ak 0 a5.c.ck, .slice a5.c.Av 0 a5.c.cv, .slice a5.c.Ao 0 a5.c.co] rfl rfl 29 #[.int .i64 0, .int .i64 0, .int .i64 0, .int .i64 0, .int .i64 0, .int .i64 0, .bool false, .int .i64 0, .int .i64 0, .int .i64 0, .int .i64 0, .slice none 0 0, .int .i64 0, .int .i64 0, .slice none 0 0, .slice none 0 0, .int .i64 0, .int .i64 0, .int .i64 0, .int .i64 0, .int .i64 0, .slice none 0 0, .slice none 0 0, .slice none 0 0] HZ6.out (by kernel_rfl) rfl (by kernel_rfl) ?_)
    | fail)
  have hb67 : Below w6.heap.size w6 ((w6.alloc (.cells #[.int .i64 0, .int .i64 0, .int .i64 0, .int .i64 0, .int .i64 0, .int .i64 0, .bool false, .int .i64 0, .int .i64 0, .int .i64 0, .int .i64 0, .slice none 0 0, .int .i64 0, .int .i64 0, .slice none 0 0, .slice none 0 0, .int .i64 0, .int .i64 0, .int .i64 0, .int .i64 0, .int .i64 0, .slice none 0 0, .slice none 0 0, .slice none 0 0] 29)).setRow w6.heap.size #[.int .i64 0, .int .i64 0, .int .i64 0, .int .i64 0, .int .i64 0, .int .i64 0, .bool false, .int .i64 0, .int .i64 0, .int .i64 0, .int .i64 0, .slice a5.Ad 0 a5.cd, .int .i64 0, .int .i64 0, .slice a5.Ah 0 a5.ch, .slice a5.An 0 a5.cn, .int .i64 0, .int .i64 0, .int .i64 0, .int .i64 0, .int .i64 0, .slice a5.c.Ak 0 a5.c.ck, .slice a5.c.Av 0 a5.c.cv, .slice a5.c.Ao 0 a5.c.co]) := below_setRow ((Below.refl _ _).alloc (Nat.le_refl _) _) (Nat.le_refl _) _
  generalize (w6.alloc (.cells #[.int .i64 0, .int .i64 0, .int .i64 0, .int .i64 0, .int .i64 0, .int .i64 0, .bool false, .int .i64 0, .int .i64 0, .int .i64 0, .int .i64 0, .slice none 0 0, .int .i64 0, .int .i64 0, .slice none 0 0, .slice none 0 0, .int .i64 0, .int .i64 0, .int .i64 0, .int .i64 0, .int .i64 0, .slice none 0 0, .slice none 0 0, .slice none 0 0] 29)).setRow w6.heap.size #[.int .i64 0, .int .i64 0, .int .i64 0, .int .i64 0, .int .i64 0, .int .i64 0, .bool false, .int .i64 0, .int .i64 0, .int .i64 0, .int .i64 0, .slice a5.Ad 0 a5.cd, .int .i64 0, .int .i64 0, .slice a5.Ah 0 a5.ch, .slice a5.An 0 a5.cn, .int .i64 0, .int .i64 0, .int .i64 0, .int .i64 0, .int .i64 0, .slice a5.c.Ak 0 a5.c.ck, .slice a5.c.Av 0 a5.c.cv, .slice a5.c.Ao 0 a5.c.co] = w7 at hb67 ⊢
  have hb47 : Below w4.heap.size w4 w7 := HB6.out.trans (hb67.mono HB6.out.size)
  have HB17 : Hid (Below w1.heap.size w1 w7) := Lib.hid (HB2.out.trans ((HB24.out.trans (hb47.mono HB24.out.size)).mono HB2.out.size))
  have HK3 := Lib.hid (HK3.out.below hb47)
  have HR3 := Lib.hid ((HO3.out.rd).below hb47)
  have HK1 := Lib.hid (HK1.out.below HB17.out)
  have SA : Hid (∀ wx, Below w7.heap.size w7 wx → Calls Try.prog 18 #[.agg #[.int .i64 1, .int .i64 1, .int .i64 2, .int .i64 9, .int .i64 0, .int .i64 0, .bool false, .int .i64 0, .int .i64 0, .int .i64 0, .int .i64 0, .slice a3.Ad 0 a3.cd, .int .i64 0, .int .i64 0, .slice a3.Ah 0 a3.ch, .slice a3.An 0 a3.cn, .int .i64 0, .int .i64 0, .int .i64 0, .int .i64 0, .int .i64 0, .slice a3.c.Ak 0 a3.c.ck, .slice a3.c.Av 0 a3.c.cv, .slice a3.c.Ao 0 a3.c.co], .agg #[.int .i64 1, .int .i64 1, .int .i64 2, .int .i64 9, .int .i64 0, .int .i64 0, .bool false, .int .i64 0, .int .i64 0, .int .i64 0, .int .i64 0, .slice none 0 0, .int .i64 0, .int .i64 0, .slice none 0 0, .slice none 0 0, .int .i64 0, .int .i64 0, .int .i64 0, .int .i64 0, .int .i64 0, .slice none 0 0, .slice none 0 0, .slice none 0 0]] wx fun e w' => e = .returned (.bool true) ∧ Below wx.heap.size wx w') := Lib.hid (fun wx hb => by
    rw [← HV1.out]
    have q := refSame11_eq (a := a3) (m := framA.M1) (a' := GA.zero) (m' := framA.M1) wx rfl framA.w1 framA.w1 (HR3.out.fit.below hb) (HR1.out wx)
    rw [decide_eq_true rfl] at q
    exact q)
  have E0 : Hid (∀ wx, Calls Try.prog 21 #[.agg #[.int .i64 0, .int .i64 0, .int .i64 0, .int .i64 0, .int .i64 0, .int .i64 0, .bool false, .int .i64 0, .int .i64 0, .int .i64 0, .int .i64 0, .slice none 0 0, .int .i64 0, .int .i64 0, .slice none 0 0, .slice none 0 0, .int .i64 0, .int .i64 0, .int .i64 0, .int .i64 0, .int .i64 0, .slice none 0 0, .slice none 0 0, .slice none 0 0]] wx fun e w' => ∃ A c, e = .returned (.slice A 0 c) ∧ Below wx.heap.size wx w') := Lib.hid (fun wx => (frwrap_is (W := wx) (a := GA.zero) (m := Mg.zero) (l := []) framA.e0 Mg.Wide.zero (RdG.zero wx wx.heap.size) (Below.refl _ _)).mono fun e w' ⟨A, c, q1, _, q2, _⟩ => ⟨A, c, q1, q2⟩)
  have HB7 := Lib.hid (HB.out.trans (HB17.out.mono HB.out.size))
  have hT : Hid (Below w7.heap.size w7 w7) := Lib.hid (Below.refl _ _)
  clear hb67 hb47 HB HB17 HR1 HR3 HO3 HB2 HB24 HB6 HO2 HZ6 HV1 hsl HCAP
  go_wp2_with (first
    | (refine wpList_load_rowG (by rfl) 29 (.tmp 3) rfl h3 rfl 29 #[.int .i64 1, .int .i64 1, .int .i64 2, .int .i64 9, .int .i64 0, .int .i64 0, .bool false, .int .i64 0, .int .i64 0, .int .i64 0, .int .i64 0, .slice a3.Ad 0 a3.cd, .int .i64 0, .int .i64 0, .slice a3.Ah 0 a3.ch, .slice a3.An 0 a3.cn, .int .i64 0, .int .i64 0, .int .i64 0, .int .i64 0, .int .i64 0, .slice a3.c.Ak 0 a3.c.ck, .slice a3.c.Av 0 a3.c.cv, .slice a3.c.Ao 0 a3.c.co] (0, 0) _ (HK3.out.below hT.out) Try.underlying29 rfl (by kernel_rfl) ?_)
    | (refine wpList_load_rowG (by rfl) 29 (.tmp 1) rfl h rfl 29 #[.int .i64 1, .int .i64 1, .int .i64 2, .int .i64 9, .int .i64 0, .int .i64 0, .bool false, .int .i64 0, .int .i64 0, .int .i64 0, .int .i64 0, .slice none 0 0, .int .i64 0, .int .i64 0, .slice none 0 0, .slice none 0 0, .int .i64 0, .int .i64 0, .int .i64 0, .int .i64 0, .int .i64 0, .slice none 0 0, .slice none 0 0, .slice none 0 0] (0, 0) _ (HK1.out.below hT.out) Try.underlying29 rfl (by kernel_rfl) ?_)
    | (go_at_call 18; refine (SA.out _ hT.out).mono ?_; rintro en w8 ⟨rfl, hb8⟩; have hT := Lib.hid (hT.out.trans (hb8.mono hT.out.size)); clear hb8 SA)
    | (go_at_call 21; refine (E0.out _).mono ?_; rintro en w8 ⟨A8, c8, rfl, hb8⟩; have hT := Lib.hid (hT.out.trans (hb8.mono hT.out.size)); clear hb8 E0)
    | fail)
  go_ret
  exact ⟨rfl, HB7.out.trans (hT.out.mono HB7.out.size)⟩
end Go.Proofs.Ytlfkgpllleogoaa

