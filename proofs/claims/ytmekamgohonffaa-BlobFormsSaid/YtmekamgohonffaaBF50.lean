/- BlobAwake BlobFormsWalk -/
import Derived.Test.YtmekamgohonffaaBF15
import Derived.Test.YtmekamgohonffaaBF38
import Derived.Test.YtmekamgohonffaaBF39
import Derived.Test.YtmekamgohonffaaBF42
import Derived.Test.YtmekamgohonffaaBF45
import Derived.Test.YtmekamgohonffaaBF46
import Derived.Test.YtmekamgohonffaaBF49
import Derived.Deep.CutBlock
import Derived.Deep.DeepCutAuto
import Derived.Deep.RegionWith
import Derived.OwnWalk
import Derived.WalkLawsBesides
import Derived.WalkSpells
namespace Go.Proofs.Ytmekamgohonffaa
open Go.RowKit
set_option linter.unusedVariables false

def Sb.a0 : Sb := ⟨3, Mc.zero, [⟨1, 1, ⟨1, 0, [], [], []⟩⟩]⟩
theorem Sb.a0_ok : Sb.a0.Ok := ⟨by decide, Mc.Ok.zero, by decide, by decide, by intro e he; simp only [Sb.a0, List.mem_cons, List.not_mem_nil, or_false] at he; subst he; decide⟩
theorem Sb.a0_fits : ∀ e ∈ Sb.a0.rest, e.c.Fits := by
  intro e he
  simp only [Sb.a0, List.mem_cons, List.not_mem_nil, or_false] at he
  subst he
  exact ⟨⟨by simp, by simp⟩, ⟨by simp, by simp⟩, ⟨by simp, by simp⟩⟩
theorem Sb.a0_fine : Sb.a0.Fine := ⟨Mc.Ok.zero, by decide, Sb.a0_fits⟩
theorem Sb.a0_len : Sb.a0.enc.length = 19 := by decide +kernel
theorem Sb.a0_half : Sb.dec (Sb.a0.enc.take 9) = none := Sb.dec_none (by decide +kernel)
theorem Sb.a0_dec : Sb.dec Sb.a0.enc = some Sb.a0 := Sb.dec_enc Sb.a0_ok (by decide +kernel)
set_option maxHeartbeats 4000000 in
set_option maxRecDepth 100000 in
theorem blobAwake : AwakeC15 := by
  intro w
  have hcl := Sb.a0_len
  obtain ⟨l, hl⟩ : ∃ l, Sb.a0.enc = l := ⟨_, rfl⟩
  have HD : Hid (Sb.dec l = some Sb.a0) := Lib.hid (by rw [← hl]; exact Sb.a0_dec)
  have HN : Hid (Sb.dec (l.take 9) = none) := Lib.hid (by rw [← hl]; exact Sb.a0_half)
  have HBY : Hid (∀ x ∈ l, x < 256) := Lib.hid (by rw [← hl]; exact Sb.a0_fine.enc_facts.1)
  have HE := Lib.hid hl
  rw [hl] at hcl
  have HCL := Lib.hid hcl
  clear hl hcl
  go_enter Try.func7, Try.ntmps7
  go_upto_region 2 with fail
  have r0 : RdS (w.alloc (.cells #[.int .i64 1, .int .i64 1, .int .i64 1, .int .i64 0, .slice none 0 0, .slice none 0 0, .slice none 0 0] 26)) (w.alloc (.cells #[.int .i64 1, .int .i64 1, .int .i64 1, .int .i64 0, .slice none 0 0, .slice none 0 0, .slice none 0 0] 26)).heap.size ⟨SA.zero.m, some ⟨w.heap.size, 0, none⟩, 1⟩ Sb.a0 := by
    refine ⟨(OwnM.zero w _).rd, ?_⟩
    have q := Rd.entAt w ⟨none, 0, none, 0, none, 0⟩ ⟨1, 1, ⟨1, 0, [], [], []⟩⟩ 26 rfl
    exact ⟨_, by rw [World.size_alloc]; exact q, CellsE.one ⟨Rd.none_ _ _ _, Rd.none_ _ _ _, Rd.none_ _ _ _⟩⟩
  have bb0 : Below w.heap.size w (w.alloc (.cells #[.int .i64 1, .int .i64 1, .int .i64 1, .int .i64 0, .slice none 0 0, .slice none 0 0, .slice none 0 0] 26)) := (Below.refl _ _).alloc (Nat.le_refl _) _
  obtain ⟨g1, w1, hgE, hwE, hbE, hkE⟩ := alloced (w.alloc (.cells #[.int .i64 1, .int .i64 1, .int .i64 1, .int .i64 0, .slice none 0 0, .slice none 0 0, .slice none 0 0] 26)) #[.int .i64 3, .slice none 0 0, .slice none 0 0, .slice none 0 0, .slice none 0 0, .slice none 0 0, .slice (some ⟨w.heap.size, 0, none⟩) 1 1] 37
  rw [World.size_alloc] at hgE
  rw [hgE, hwE]
  have HBx := Lib.hid hbE
  have HK1 := Lib.hid hkE
  clear hgE hwE hbE hkE
  have HR1 := Lib.hid (r0.below HBx.out)
  have HB1 := Lib.hid (bb0.trans (HBx.out.mono bb0.size))
  clear r0 bb0 HBx
  obtain ⟨A0, hA0⟩ : ∃ A0 : Option Addr, some (⟨w.heap.size, 0, none⟩ : Addr) = A0 := ⟨_, rfl⟩
  rw [hA0] at HR1 HK1
  clear hA0
  go_upto_region 3 with (first
    | (refine wpList_load_row rfl  37 (.tmp 1) rfl g1 rfl 37 #[.int .i64 3, .slice none 0 0, .slice none 0 0, .slice none 0 0, .slice none 0 0, .slice none 0 0, .slice A0 1 1] (0, 0) _ HK1.out Try.underlying37 rfl (by kernel_rfl) ?_)
    | (go_at_call 4; refine (encode15 (W := w) (a := ⟨SA.zero.m, A0, 1⟩) (s := Sb.a0) HE.out Sb.a0_fine HR1.out HB1.out).mono ?_; rintro en w2 ⟨A2, c2, rfl, ho, hB, hb⟩
       have HO2 := Lib.hid (ho)
       have HB2 := Lib.hid (hB)
       have HK2 := Lib.hid (HK1.out.below hb)
       have HR2 := Lib.hid ((HR1.out.fit).below hb)
       clear ho hB hb)
    | fail)
  have hcl := HCL.out
  rw [hcl] at HO2 ⊢
  clear hcl HK1 HR1 HB1
  go_upto_region 4 with (first
    | (go_at_call 5; refine (decode15 (W := w) HD.out (by have := HCL.out; omega) HBY.out (own_cap HO2.out) (Rd.own_ HO2.out) HB2.out).mono ?_; rintro en w3 ⟨a3, rfl, ho, hB, hb⟩
       unfold stateV
       have HS3 := Lib.hid (ho)
       have HB3 := Lib.hid (hB)
       have HK3 := Lib.hid (HK2.out.below hb)
       have HR3 := Lib.hid (HR2.out.fit.below hb)
       have HO3 := Lib.hid (own_below HO2.out hb)
       clear ho hB hb)
    | (refine wpList_store_row rfl 37 (.tmp 3) (.tmp 20) rfl w3.heap.size (stateC a3 Sb.a0) rfl rfl 37 #[.int .i64 0, .slice none 0 0, .slice none 0 0, .slice none 0 0, .slice none 0 0, .slice none 0 0, .slice none 0 0] (Blk.new w3 37 #[.int .i64 0, .slice none 0 0, .slice none 0 0, .slice none 0 0, .slice none 0 0, .slice none 0 0, .slice none 0 0]) (by kernel_rfl) rfl (by kernel_rfl) ?_)
    | fail)
  obtain ⟨g3, w4, hgE, hwE, hbE, hkE⟩ := boxed w3 #[.int .i64 0, .slice none 0 0, .slice none 0 0, .slice none 0 0, .slice none 0 0, .slice none 0 0, .slice none 0 0] (stateC a3 Sb.a0) 37
  rw [hgE, hwE]
  have HBx := Lib.hid hbE
  have HK4 := Lib.hid hkE
  clear hgE hwE hbE hkE
  have HS4 := Lib.hid (HS3.out.below HBx.out)
  have HB4 := Lib.hid (HB3.out.trans (HBx.out.mono HB3.out.size))
  have HK1 := Lib.hid (HK3.out.below HBx.out)
  have HR4 := Lib.hid (HR3.out.fit.below HBx.out)
  have HO4 := Lib.hid (own_below HO3.out HBx.out)
  clear HBx HS3 HB3 HK3 HR3 HO3 HO2 HB2 HK2 HR2
  have hsl : ∀ w : World, (Instr.slice 22 (.slice A2 19 c2) none (some (.int .i64 9)) none).run Try.prog w = .ok (.slice A2 9 c2) w := by
    obtain ⟨i9, hi1, hi2, hi3, hi4⟩ := info_parts byteT.info
    have := (own_cap HO4.out).1
    exact fun w => run_slice_to (P := Try.prog) (t := 22) (e := 5) byteT.under hi1 A2 19 c2 9 (by omega) w
  have HR9 : Hid (Rd w4 w4.heap.size A2 9 (bv (l.take 9))) := Lib.hid (by rw [bv_take]; exact (Rd.own_ HO4.out).take (by omega))
  go_upto_region 5 with (first
    | (go_at_call 5; refine (decode15 (W := w) HN.out (by rw [List.length_take]; omega) (fun x hx => HBY.out x (List.mem_of_mem_take hx)) ⟨by have := own_cap HO4.out; omega, (own_cap HO4.out).2⟩ HR9.out HB4.out).mono ?_; rintro en w5 ⟨a5, rfl, ho, hB, hb⟩
       unfold stateV
       have HB5 := Lib.hid (hB)
       have HK5 := Lib.hid (HK1.out.below hb)
       have HK6 := Lib.hid (HK4.out.below hb)
       have HR5 := Lib.hid (HR4.out.fit.below hb)
       have HO5 := Lib.hid (own_below HO4.out hb)
       have HS5 := Lib.hid (HS4.out.below hb)
       clear ho hB hb)
    | (refine wpList_store_row rfl 37 (.tmp 5) (.tmp 29) rfl w5.heap.size (stateC a5 Sb.zero) rfl rfl 37 #[.int .i64 0, .slice none 0 0, .slice none 0 0, .slice none 0 0, .slice none 0 0, .slice none 0 0, .slice none 0 0] (Blk.new w5 37 #[.int .i64 0, .slice none 0 0, .slice none 0 0, .slice none 0 0, .slice none 0 0, .slice none 0 0, .slice none 0 0]) (by kernel_rfl) rfl (by kernel_rfl) ?_)
    | fail)
  obtain ⟨g5, w6, hgE, hwE, hbE, hkE⟩ := boxed w5 #[.int .i64 0, .slice none 0 0, .slice none 0 0, .slice none 0 0, .slice none 0 0, .slice none 0 0, .slice none 0 0] (stateC a5 Sb.zero) 37
  rw [hgE, hwE]
  have HBx := Lib.hid hbE
  have HK7 := Lib.hid hkE
  clear hgE hwE hbE hkE
  have HS6 := Lib.hid (HS5.out.below HBx.out)
  have HB6 := Lib.hid (HB5.out.trans (HBx.out.mono HB5.out.size))
  have HK8 := Lib.hid (HK5.out.below HBx.out)
  have HK9 := Lib.hid (HK6.out.below HBx.out)
  have HR6 := Lib.hid (HR5.out.fit.below HBx.out)
  have HO6 := Lib.hid (own_below HO5.out HBx.out)
  clear HBx HS5 HB5 HK5 HK6 HR5 HO5 HO4 HB4 HK1 HK4 HK7 HR4 HR9 HS4 hsl
  have HP1 : Hid (Sb.part l 4 = some ((l.drop 4).take 64)) := Lib.hid (Sb.part_step (j := 4) (by have := HCL.out; omega)).1
  have HP2 : Hid (Sb.part l 19 = none) := Lib.hid (Sb.part_stop (j := 19) (by have := HCL.out; omega))
  obtain ⟨q, hq⟩ : ∃ q, (l.drop 4).take 64 = q := ⟨_, rfl⟩
  have hq15 : q.length = 15 := by rw [← hq, List.length_take, List.length_drop]; have := HCL.out; omega
  rw [hq] at HP1
  clear hq
  go_upto_region 6 with (first
    | (go_at_call 21; refine (part15 (W := w) HP1.out (by omega) (by have := HCL.out; omega) (own_cap HO6.out) (Rd.own_ HO6.out) HB6.out).mono ?_; rintro en w7 ⟨A7, c7, rfl, ho, hB, hb⟩
       rw [show (some q).getD [] = q from rfl, hq15]
       have HB7 := Lib.hid (hB)
       have HK5 := Lib.hid (HK8.out.below hb)
       have HK6 := Lib.hid (HK9.out.below hb)
       have HR7 := Lib.hid (HR6.out.fit.below hb)
       have HO7 := Lib.hid (own_below HO6.out hb)
       have HS7 := Lib.hid (HS6.out.below hb)
       clear ho hB hb)
    | fail)
  clear HB6 HK8 HK9 HR6 HO6 HS6
  go_upto_region 7 with (first
    | (go_at_call 21; refine (part15 (W := w) HP2.out (by omega) (by have := HCL.out; omega) (own_cap HO7.out) (Rd.own_ HO7.out) HB7.out).mono ?_; rintro en w8 ⟨A8, c8, rfl, ho, hB, hb⟩
       have HB8 := Lib.hid (hB)
       have HK8 := Lib.hid (HK5.out.below hb)
       have HK9 := Lib.hid (HK6.out.below hb)
       have HR8 := Lib.hid (HR7.out.fit.below hb)
       have HS8 := Lib.hid (HS7.out.below hb)
       clear ho hB hb)
    | fail)
  clear HB7 HK5 HK6 HR7 HO7 HS7
  go_wp2_with (first
    | (refine wpList_load_rowV (by first | rfl | kernel_rfl) 37 (.tmp 1) rfl g1 rfl 37 #[.int .i64 3, .slice none 0 0, .slice none 0 0, .slice none 0 0, .slice none 0 0, .slice none 0 0, .slice A0 1 1] (0, 0) _ HK8.out Try.underlying37 rfl (by kernel_rfl) ?_)
    | (refine wpList_load_rowV (by first | rfl | kernel_rfl) 37 (.tmp 3) rfl g3 rfl 37 (stateC a3 Sb.a0) (0, 0) _ HK9.out Try.underlying37 rfl (by kernel_rfl) ?_)
    | (go_at_call 22; refine (refSame15 w8 (a := ⟨SA.zero.m, A0, 1⟩) (s := Sb.a0) (a' := a3) (s' := Sb.a0) Sb.a0_ok.m Sb.a0_ok.m Sb.a0_fits Sb.a0_fits (by decide) HR8.out HS8.out.rd).mono ?_; rintro en w9 ⟨rfl, hb⟩
       rw [decide_eq_true (rfl : Sb.a0 = Sb.a0)]
       have HB9 := Lib.hid (HB8.out.trans (hb.mono HB8.out.size))
       clear hb)
    | fail)
  go_ret
  exact ⟨rfl, HB9.out⟩
end Go.Proofs.Ytmekamgohonffaa

namespace Go.Proofs.Ytmekamgohonffaa
open Go.RowKit
set_option linter.unusedVariables false
theorem newAtC (w : World) (t : TypeId) (cs : Array Value) {g : Nat} (hg : w.heap.size = g) : Blk (w.alloc (.cells cs t)) g t cs := by subst hg; exact Blk.new _ _ _
def Sb.a1 : Sb := ⟨5, Mc.zero, [⟨1, 1, ⟨1, 0, [], [], []⟩⟩]⟩
theorem Sb.a1_ok : Sb.a1.Ok := ⟨by decide, Mc.Ok.zero, by decide, by decide, by intro e he; simp only [Sb.a1, List.mem_cons, List.not_mem_nil, or_false] at he; subst he; decide⟩
theorem Sb.a1_fits : ∀ e ∈ Sb.a1.rest, e.c.Fits := by
  intro e he
  simp only [Sb.a1, List.mem_cons, List.not_mem_nil, or_false] at he
  subst he
  exact ⟨⟨by simp, by simp⟩, ⟨by simp, by simp⟩, ⟨by simp, by simp⟩⟩
theorem Sb.a1_fine : Sb.a1.Fine := ⟨Mc.Ok.zero, by decide, Sb.a1_fits⟩
theorem Sb.a1_enc : Sb.a1.enc.length = 19 ∧ Sb.a1.enc.drop 4 = [5, 5, 0, 0, 0, 0, 0, 1, 1, 1, 1, 0, 0, 0, 0] := by decide +kernel
def tblB : List (List Nat × Bool) := [([5, 5, 0, 0, 0, 0, 0, 1, 1, 1, 1, 0, 0, 0, 0], true), ([5, 5, 0, 0, 0, 0, 0, 1, 1, 1, 1, 0, 0, 0], false), ([5, 5, 0, 0, 0, 0, 0, 1, 1, 1, 1, 0, 0, 0, 0, 0], false), ([133, 0, 5, 0, 0, 0, 0, 0, 1, 1, 1, 1, 0, 0, 0, 0], false), ([6, 5, 0, 0, 0, 0, 0, 1, 1, 1, 1, 0, 0, 0, 0], true), ([5, 0, 0, 0, 0, 0, 1, 1, 1, 1, 0, 0, 0, 0], false), ([], false), ([5, 5, 0, 0, 0, 0, 0, 0], true), ([5, 5, 0, 0, 0, 0, 0, 65], false)]
theorem tblB_at : ∀ j, j < 9 → ∃ l b, tblB[j]? = some (l, b) ∧ l.length ≤ 16 ∧ (∀ x ∈ l, x < 256) ∧ (Sb.dec (Fr.lay l)).isSome = b ∧ Sb.dec l = none := by
  have h : ∀ j, j < 9 → (tblB.getD j ([], false)).1.length ≤ 16 ∧ ((tblB.getD j ([], false)).1.all fun x => decide (x < 256)) = true ∧ (Sb.good (Fr.lay (tblB.getD j ([], false)).1)) = (tblB.getD j ([], false)).2 ∧ Fr.unf (tblB.getD j ([], false)).1 = none := by decide +kernel
  intro j hj
  obtain ⟨h1, h2, h3, h4⟩ := h j hj
  refine ⟨(tblB.getD j ([], false)).1, (tblB.getD j ([], false)).2, ?_, h1, fun x hx => by simpa using List.all_eq_true.1 h2 x hx, ?_, Sb.dec_none h4⟩
  · have hl : j < tblB.length := hj
    rw [List.getD_eq_getElem?_getD, List.getElem?_eq_getElem hl]; rfl
  · rw [← h3]
    unfold Sb.dec
    by_cases h : Sb.good (Fr.lay (tblB.getD j ([], false)).1) = true
    · rw [if_pos h, h]; rfl
    · rw [if_neg h, Bool.eq_false_iff.2 h]; rfl
/-- the table in memory -/
def TabB (v : Value) (w : World) : Prop := ∃ g, v = .slice (some ⟨g, 0, none⟩) 9 9 ∧ g < w.heap.size ∧ ∀ j, j < 9 → ∃ A c l b, tblB[j]? = some (l, b) ∧ w.rangeAt g (j * 2) [.slice A l.length c, .bool b] ∧ Rd w w.heap.size A l.length (bv l) ∧ l.length ≤ c ∧ c ≤ maxLen
def dF (i : Nat) : Nat := ([23, 24, 25, 26, 27, 28, 29, 30, 31, 32, 33, 34, 35, 36, 37, 38, 39, 40, 41, 42, 43, 44, 45, 46, 47, 48, 49, 50, 51, 52, 53, 54, 55, 56, 57, 58, 59, 60, 61, 62, 63, 64, 65, 66, 67, 68, 69, 70, 71, 6] : List Nat).getD i (1000 + i)
def dstF (i : Nat) : Option Nat := ([some 23, some 24, some 25, some 26, some 27, some 28, some 29, some 30, some 31, some 32, some 33, some 34, some 35, some 36, some 37, some 38, some 39, some 40, some 41, some 42, some 43, some 44, some 45, some 46, some 47, some 48, some 49, some 50, some 51, some 52, some 53, some 54, some 55, some 56, some 57, some 58, some 59, some 60, some 61, some 62, some 63, some 64, some 65, some 66, some 67, some 68, some 69, some 70, some 71, some 6] : List (Option Nat)).getD i none
def eqF (AB : Option Addr) (cb : Nat) (i : Nat) : Option Value := ([some (.slice AB 15 cb), some (.agg #[.slice AB 15 cb, .bool true]), some (.slice AB 15 cb), some (.slice AB 15 cb), some (.int .i64 15), some (.int .i64 14), some (.slice AB 14 cb), some (.agg #[.slice AB 14 cb, .bool false]), none, some (.slice AB 15 cb), none, none, none, none, none, some (.slice AB 15 cb), some (.slice (cutAt AB cb 1) 14 (cb - 1)), none, none, none, some (.slice AB 15 cb), some (.slice (cutAt AB cb 1) 14 (cb - 1)), none, none, some (.slice AB 15 cb), some (.slice (cutAt AB cb 1) 14 (cb - 1)), some (.agg #[.slice (cutAt AB cb 1) 14 (cb - 1), .bool false]), some (.agg #[.slice none 0 0, .bool false]), none, some (.slice AB 15 cb), some (.slice AB 15 cb), some (.int .i64 15), some (.int .i64 7), some (.slice AB 7 cb), none, none, none, none, none, some (.slice AB 15 cb), some (.slice AB 15 cb), some (.int .i64 15), some (.int .i64 7), some (.slice AB 7 cb), none, none, none, none, none, none] : List (Option Value)).getD i none
def rowF (i : Nat) : Option (List Nat) := ([none, none, none, none, none, none, none, none, some [], none, some [5, 5, 0, 0, 0, 0, 0, 1, 1, 1, 1, 0, 0, 0, 0], some [0], some [5, 5, 0, 0, 0, 0, 0, 1, 1, 1, 1, 0, 0, 0, 0, 0], none, some [133, 0], none, none, some [133, 0, 5, 0, 0, 0, 0, 0, 1, 1, 1, 1, 0, 0, 0, 0], none, some [6], none, none, some [6, 5, 0, 0, 0, 0, 0, 1, 1, 1, 1, 0, 0, 0, 0], none, none, none, none, none, some [], none, none, none, none, none, some [5, 5, 0, 0, 0, 0, 0], some [0], some [5, 5, 0, 0, 0, 0, 0, 0], none, some [], none, none, none, none, none, some [5, 5, 0, 0, 0, 0, 0], some [65], some [5, 5, 0, 0, 0, 0, 0, 65], none, none, none] : List (Option (List Nat))).getD i none
def nxF (i : Nat) : Option Nat := ([none, none, none, none, none, none, none, none, some 10, none, some 12, none, none, none, some 17, none, none, none, none, some 22, none, none, none, none, none, none, none, none, some 34, none, none, none, none, none, some 36, none, none, none, some 44, none, none, none, none, none, some 46, none, none, none, none, none] : List (Option Nat)).getD i none
def prF (i : Nat) : Option (Nat × Bool) := ([none, none, none, none, none, none, none, none, none, none, none, none, none, some (12, false), none, none, none, none, some (17, false), none, none, none, none, some (22, true), none, none, none, none, none, none, none, none, none, none, none, none, none, some (36, true), none, none, none, none, none, none, none, none, none, some (46, false), none, none] : List (Option (Nat × Bool))).getD i none
def depF (i : Nat) : List Nat := ([[], [0], [], [], [3], [4], [2, 5], [6], [], [], [8, 9], [], [10, 11], [12], [], [], [15], [14, 16], [17], [], [], [20], [19, 21], [22], [], [24], [25], [], [], [], [], [30], [31], [29, 32], [28, 33], [], [34, 35], [36], [], [], [], [40], [41], [39, 42], [38, 43], [], [44, 45], [46], [1, 7, 13, 18, 23, 26, 27, 37, 47], [48]] : List (List Nat)).getD i []
theorem dF_inj : ∀ i j, i ≤ 49 → j ≤ 49 → dF i = dF j → i = j := by
  have h : ((List.range 50).all fun i => (List.range 50).all fun j => !(dF i == dF j) || (i == j)) = true := by decide +kernel
  intro i j hi hj e
  have h2 := List.all_eq_true.1 (List.all_eq_true.1 h i (List.mem_range.2 (by omega))) j (List.mem_range.2 (by omega))
  simpa [e] using h2
theorem nxF_ne (k : Nat) (hk : 48 ≤ k) : ∀ j, nxF j ≠ some k := by
  intro j
  have h : ((List.range 50).all fun j => match nxF j with | some q => decide (q < 48) | none => true) = true := by decide +kernel
  by_cases hj : j < 50
  · have h2 := List.all_eq_true.1 h j (List.mem_range.2 hj)
    intro e
    rw [e] at h2
    simp at h2; omega
  · intro e
    unfold nxF at e
    rw [List.getD_eq_getElem?_getD, List.getElem?_eq_none (by simpa using (by omega : 50 ≤ j))] at e
    cases e
def ChF (AB : Option Addr) (cb : Nat) : Chn := ⟨dF, eqF AB cb, rowF, nxF, prF, depF, 48, TabB, 49, dF_inj⟩
def conF (j : Nat) : Nat := ([1, 48, 6, 4, 5, 6, 7, 48, 10, 10, 12, 12, 13, 48, 17, 16, 17, 18, 48, 22, 21, 22, 23, 48, 25, 26, 48, 48, 34, 33, 31, 32, 33, 34, 36, 36, 37, 48, 44, 43, 41, 42, 43, 44, 46, 46, 47, 48] : List Nat).getD j 0
theorem conF_ok : ∀ j, j < 48 → j < conF j ∧ conF j ≤ 48 ∧ j ∈ depF (conF j) := by decide +kernel
def frameF (AB : Option Addr) (cb : Nat) (x0 x1 x2 x3 x4 x7 x8 x9 x10 x11 x12 x13 x14 x15 x16 x17 x18 x19 x20 x21 x22 x72 x73 x74 x75 x76 x77 x78 x79 x80 x81 x82 x83 x84 x85 x86 x87 x88 x89 x90 x91 x92 x93 x94 x95 x96 x97 x98 x99 x100 x101 x102 x103 : Value) (U : Nat → Value) : Act := { tmps := List.toArray (x0 :: x1 :: x2 :: x3 :: x4 :: .slice AB 15 cb :: U 6 :: x7 :: x8 :: x9 :: x10 :: x11 :: x12 :: x13 :: x14 :: x15 :: x16 :: x17 :: x18 :: x19 :: x20 :: x21 :: x22 :: U 23 :: U 24 :: U 25 :: U 26 :: U 27 :: U 28 :: U 29 :: U 30 :: U 31 :: U 32 :: U 33 :: U 34 :: U 35 :: U 36 :: U 37 :: U 38 :: U 39 :: U 40 :: U 41 :: U 42 :: U 43 :: U 44 :: U 45 :: U 46 :: U 47 :: U 48 :: U 49 :: U 50 :: U 51 :: U 52 :: U 53 :: U 54 :: U 55 :: U 56 :: U 57 :: U 58 :: U 59 :: U 60 :: U 61 :: U 62 :: U 63 :: U 64 :: U 65 :: U 66 :: U 67 :: U 68 :: U 69 :: U 70 :: U 71 :: x72 :: x73 :: x74 :: x75 :: x76 :: x77 :: x78 :: x79 :: x80 :: x81 :: x82 :: x83 :: x84 :: x85 :: x86 :: x87 :: x88 :: x89 :: x90 :: x91 :: x92 :: x93 :: x94 :: x95 :: x96 :: x97 :: x98 :: x99 :: x100 :: x101 :: x102 :: x103 :: []), defers := [] }
theorem deps_ofC {md : Region.Mode} {ops : Array Oper} {deps : Nat → List Nat} (h : ((List.range ops.size).all fun i => (deps i).all fun j => Region.waitsFor md ops i j) = true) : ∀ i, i < ops.size → ∀ j ∈ deps i, Region.waitsFor md ops i j = true := by
  intro i hi j hj
  exact List.all_eq_true.1 (List.all_eq_true.1 h i (List.mem_range.2 hi)) j hj
theorem ev_tmpC {a : Act} {t : Nat} {v : Value} (h : a.eval (.tmp t) = v) : a.tmps[t]?.getD undef = v := by rw [← h]; simp [Act.eval]
set_option maxHeartbeats 4000000 in
set_option maxRecDepth 100000 in
theorem blobForms_raw (w : World) (which : Int) : Calls Try.prog 3 #[.int .i64 which] w fun e w' => e = .returned (.bool true) ∧ Below w.heap.size w w' := by
  go_enter Try.func3, Try.ntmps3
  go_upto_region 2 with fail
  have r0 : RdS (w.alloc (.cells #[.int .i64 1, .int .i64 1, .int .i64 1, .int .i64 0, .slice none 0 0, .slice none 0 0, .slice none 0 0] 26)) (w.alloc (.cells #[.int .i64 1, .int .i64 1, .int .i64 1, .int .i64 0, .slice none 0 0, .slice none 0 0, .slice none 0 0] 26)).heap.size ⟨SA.zero.m, some ⟨w.heap.size, 0, none⟩, 1⟩ Sb.a1 := by
    refine ⟨(OwnM.zero w _).rd, ?_⟩
    have q := Rd.entAt w ⟨none, 0, none, 0, none, 0⟩ ⟨1, 1, ⟨1, 0, [], [], []⟩⟩ 26 rfl
    exact ⟨_, by rw [World.size_alloc]; exact q, CellsE.one ⟨Rd.none_ _ _ _, Rd.none_ _ _ _, Rd.none_ _ _ _⟩⟩
  have bb0 : Below w.heap.size w (w.alloc (.cells #[.int .i64 1, .int .i64 1, .int .i64 1, .int .i64 0, .slice none 0 0, .slice none 0 0, .slice none 0 0] 26)) := (Below.refl _ _).alloc (Nat.le_refl _) _
  obtain ⟨g1, w1, hgE, hwE, hbE, hkE⟩ := alloced (w.alloc (.cells #[.int .i64 1, .int .i64 1, .int .i64 1, .int .i64 0, .slice none 0 0, .slice none 0 0, .slice none 0 0] 26)) #[.int .i64 5, .slice none 0 0, .slice none 0 0, .slice none 0 0, .slice none 0 0, .slice none 0 0, .slice (some ⟨w.heap.size, 0, none⟩) 1 1] 37
  rw [World.size_alloc] at hgE
  rw [hgE, hwE]
  have HBx := Lib.hid hbE
  have HK1 := Lib.hid hkE
  clear hgE hwE hbE hkE
  have HR1 := Lib.hid (r0.below HBx.out)
  have HB1 := Lib.hid (bb0.trans (HBx.out.mono bb0.size))
  clear r0 bb0 HBx
  obtain ⟨A0, hA0⟩ : ∃ A0 : Option Addr, some (⟨w.heap.size, 0, none⟩ : Addr) = A0 := ⟨_, rfl⟩
  rw [hA0] at HR1 HK1
  clear hA0
  have hcl := Sb.a1_enc
  obtain ⟨l, hl⟩ : ∃ l, Sb.a1.enc = l := ⟨_, rfl⟩
  rw [hl] at hcl
  have HE := Lib.hid hl
  have HCL := Lib.hid hcl
  clear hl hcl
  go_upto_region 3 with (first
    | (refine wpList_load_row rfl  37 (.tmp 3) rfl g1 rfl 37 #[.int .i64 5, .slice none 0 0, .slice none 0 0, .slice none 0 0, .slice none 0 0, .slice none 0 0, .slice A0 1 1] (0, 0) _ HK1.out Try.underlying37 rfl (by kernel_rfl) ?_)
    | (go_at_call 4; refine (encode15 (W := w) (a := ⟨SA.zero.m, A0, 1⟩) (s := Sb.a1) HE.out Sb.a1_fine HR1.out HB1.out).mono ?_; rintro en w2 ⟨A2, c2, rfl, ho, hB, hb⟩
       rw [HCL.out.1] at ho
       rw [HCL.out.1]
       have HO2 := Lib.hid (ho)
       have HB2 := Lib.hid (hB)
       clear ho hB hb)
    | fail)
  clear HK1 HR1 HB1 HE
  have hc := own_cap HO2.out
  obtain ⟨i9, hi1, hi2, hi3, hi4⟩ := info_parts byteT.info
  have hsl : ∀ w : World, (Instr.slice 22 (.slice A2 19 c2) (some (.int .i64 4)) none none).run Try.prog w = .ok (.slice (cutAt A2 c2 4) 15 (c2 - 4)) w := fun w => run_slice_from (P := Try.prog) (t := 22) (e := 5) byteT.under hi1 hi3 A2 19 c2 4 (by omega) w
  have RB0 : Rd w2 w2.heap.size (cutAt A2 c2 4) 15 (bv [5, 5, 0, 0, 0, 0, 0, 1, 1, 1, 1, 0, 0, 0, 0]) := by
    have := (Rd.own_ HO2.out).drop (show 4 ≤ 19 by omega) hc.1
    rw [← bv_drop, HCL.out.2] at this
    exact this
  go_upto_region 6 with fail
  obtain ⟨AB, hAB⟩ : ∃ A, cutAt A2 c2 4 = A := ⟨_, rfl⟩
  obtain ⟨cb, hcb⟩ : ∃ c, c2 - 4 = c := ⟨_, rfl⟩
  rw [hAB] at RB0 ⊢
  rw [hcb]
  have HCB : Hid (15 ≤ cb ∧ cb ≤ maxLen) := Lib.hid (by unfold maxLen at *; omega)
  have RB := Lib.hid RB0
  have hs14 : ∀ w : World, (Instr.slice 22 (.slice AB 15 cb) none (some (.int .i64 14)) none).run Try.prog w = .ok (.slice AB 14 cb) w := fun w => run_slice_to (P := Try.prog) (t := 22) (e := 5) byteT.under hi1 AB 15 cb 14 (by have := HCB.out; omega) w
  have hs7 : ∀ w : World, (Instr.slice 22 (.slice AB 15 cb) none (some (.int .i64 7)) none).run Try.prog w = .ok (.slice AB 7 cb) w := fun w => run_slice_to (P := Try.prog) (t := 22) (e := 5) byteT.under hi1 AB 15 cb 7 (by have := HCB.out; omega) w
  have hs1 : ∀ w : World, (Instr.slice 22 (.slice AB 15 cb) (some (.int .i64 1)) none none).run Try.prog w = .ok (.slice (cutAt AB cb 1) 14 (cb - 1)) w := fun w => run_slice_from (P := Try.prog) (t := 22) (e := 5) byteT.under hi1 hi3 AB 15 cb 1 (by omega) w
  have R14 : Hid (Rd w2 w2.heap.size AB 14 (bv [5, 5, 0, 0, 0, 0, 0, 1, 1, 1, 1, 0, 0, 0])) := Lib.hid (by have := RB0.take (show 14 ≤ 15 by omega); rw [← bv_take] at this; exact this)
  have R7 : Hid (Rd w2 w2.heap.size AB 7 (bv [5, 5, 0, 0, 0, 0, 0])) := Lib.hid (by have := RB0.take (show 7 ≤ 15 by omega); rw [← bv_take] at this; exact this)
  have RD : Hid (Rd w2 w2.heap.size (cutAt AB cb 1) 14 (bv [5, 0, 0, 0, 0, 0, 1, 1, 1, 1, 0, 0, 0, 0])) := Lib.hid (by have := RB0.drop (show 1 ≤ 15 by omega) HCB.out.1; rw [← bv_drop] at this; exact this)
  clear hc hi1 hi2 hi3 hi4 RB0 hAB hcb hsl HO2 HCL
  obtain ⟨w4, hw4⟩ : ∃ x, w2 = x := ⟨_, rfl⟩
  rw [hw4] at RB R14 R7 RD HB2 ⊢
  clear hw4
  have hw14 : IntKind.i64.wrap (15 - 1) = 14 := by decide
  have hw7 : IntKind.i64.wrap (15 - 8) = 7 := by decide
  go_cut [6] from 23 to 71 (fun s6 wx => ∃ gx, s6 = .slice (some ⟨gx, 0, none⟩) 9 9 ∧ Hid (∀ j, j < 9 → ∃ A c l b, tblB[j]? = some (l, b) ∧ wx.rangeAt gx (j * 2) [.slice A l.length c, .bool b] ∧ Rd wx wx.heap.size A l.length (bv l) ∧ l.length ≤ c ∧ c ≤ maxLen) ∧ Hid (gx < wx.heap.size) ∧ Hid (Below w4.heap.size w4 wx))
  case first =>
    refine region_J2 (U0 := fun _ => undef) (frameF AB cb _ _ _ _ _ _ _ _ _ _ _ _ _ _ _ _ _ _ _ _ _ _ _ _ _ _ _ _ _ _ _ _ _ _ _ _ _ _ _ _ _ _ _ _ _ _ _ _ _ _ _ _ _) dstF depF (fun a => a.eval (.tmp 5) = .slice AB 15 cb) (JC (ChF AB cb) w4) (by kernel_rfl) (by kernel_rfl) ?dst ?deps ?put ?ev ?fr ?h0 ?hok ?done
    case dst => exact all_ops (AllFrom.cons rfl (AllFrom.cons rfl (AllFrom.cons rfl (AllFrom.cons rfl (AllFrom.cons rfl (AllFrom.cons rfl (AllFrom.cons rfl (AllFrom.cons rfl (AllFrom.cons rfl (AllFrom.cons rfl (AllFrom.cons rfl (AllFrom.cons rfl (AllFrom.cons rfl (AllFrom.cons rfl (AllFrom.cons rfl (AllFrom.cons rfl (AllFrom.cons rfl (AllFrom.cons rfl (AllFrom.cons rfl (AllFrom.cons rfl (AllFrom.cons rfl (AllFrom.cons rfl (AllFrom.cons rfl (AllFrom.cons rfl (AllFrom.cons rfl (AllFrom.cons rfl (AllFrom.cons rfl (AllFrom.cons rfl (AllFrom.cons rfl (AllFrom.cons rfl (AllFrom.cons rfl (AllFrom.cons rfl (AllFrom.cons rfl (AllFrom.cons rfl (AllFrom.cons rfl (AllFrom.cons rfl (AllFrom.cons rfl (AllFrom.cons rfl (AllFrom.cons rfl (AllFrom.cons rfl (AllFrom.cons rfl (AllFrom.cons rfl (AllFrom.cons rfl (AllFrom.cons rfl (AllFrom.cons rfl (AllFrom.cons rfl (AllFrom.cons rfl (AllFrom.cons rfl (AllFrom.cons rfl (AllFrom.cons rfl AllFrom.nil))))))))))))))))))))))))))))))))))))))))))))))))))
    case deps =>
      intro i hi j hj
      refine deps_ofC (deps := depF) ?_ i hi j hj
      kernel_rfl
    case put => exact all_ops (AllFrom.cons (fun U v => by kernel_rfl) (AllFrom.cons (fun U v => by kernel_rfl) (AllFrom.cons (fun U v => by kernel_rfl) (AllFrom.cons (fun U v => by kernel_rfl) (AllFrom.cons (fun U v => by kernel_rfl) (AllFrom.cons (fun U v => by kernel_rfl) (AllFrom.cons (fun U v => by kernel_rfl) (AllFrom.cons (fun U v => by kernel_rfl) (AllFrom.cons (fun U v => by kernel_rfl) (AllFrom.cons (fun U v => by kernel_rfl) (AllFrom.cons (fun U v => by kernel_rfl) (AllFrom.cons (fun U v => by kernel_rfl) (AllFrom.cons (fun U v => by kernel_rfl) (AllFrom.cons (fun U v => by kernel_rfl) (AllFrom.cons (fun U v => by kernel_rfl) (AllFrom.cons (fun U v => by kernel_rfl) (AllFrom.cons (fun U v => by kernel_rfl) (AllFrom.cons (fun U v => by kernel_rfl) (AllFrom.cons (fun U v => by kernel_rfl) (AllFrom.cons (fun U v => by kernel_rfl) (AllFrom.cons (fun U v => by kernel_rfl) (AllFrom.cons (fun U v => by kernel_rfl) (AllFrom.cons (fun U v => by kernel_rfl) (AllFrom.cons (fun U v => by kernel_rfl) (AllFrom.cons (fun U v => by kernel_rfl) (AllFrom.cons (fun U v => by kernel_rfl) (AllFrom.cons (fun U v => by kernel_rfl) (AllFrom.cons (fun U v => by kernel_rfl) (AllFrom.cons (fun U v => by kernel_rfl) (AllFrom.cons (fun U v => by kernel_rfl) (AllFrom.cons (fun U v => by kernel_rfl) (AllFrom.cons (fun U v => by kernel_rfl) (AllFrom.cons (fun U v => by kernel_rfl) (AllFrom.cons (fun U v => by kernel_rfl) (AllFrom.cons (fun U v => by kernel_rfl) (AllFrom.cons (fun U v => by kernel_rfl) (AllFrom.cons (fun U v => by kernel_rfl) (AllFrom.cons (fun U v => by kernel_rfl) (AllFrom.cons (fun U v => by kernel_rfl) (AllFrom.cons (fun U v => by kernel_rfl) (AllFrom.cons (fun U v => by kernel_rfl) (AllFrom.cons (fun U v => by kernel_rfl) (AllFrom.cons (fun U v => by kernel_rfl) (AllFrom.cons (fun U v => by kernel_rfl) (AllFrom.cons (fun U v => by kernel_rfl) (AllFrom.cons (fun U v => by kernel_rfl) (AllFrom.cons (fun U v => by kernel_rfl) (AllFrom.cons (fun U v => by kernel_rfl) (AllFrom.cons (fun U v => by kernel_rfl) (AllFrom.cons (fun U v => by kernel_rfl) AllFrom.nil))))))))))))))))))))))))))))))))))))))))))))))))))
    case ev =>
      intro j d h U
      match j, h with
      | 0, h => obtain rfl : 23 = d := Option.some.inj h; exact (show (frameF AB cb _ _ _ _ _ _ _ _ _ _ _ _ _ _ _ _ _ _ _ _ _ _ _ _ _ _ _ _ _ _ _ _ _ _ _ _ _ _ _ _ _ _ _ _ _ _ _ _ _ _ _ _ _ U).eval (.tmp 23) = U 23 from by kernel_rfl)
      | 1, h => obtain rfl : 24 = d := Option.some.inj h; exact (show (frameF AB cb _ _ _ _ _ _ _ _ _ _ _ _ _ _ _ _ _ _ _ _ _ _ _ _ _ _ _ _ _ _ _ _ _ _ _ _ _ _ _ _ _ _ _ _ _ _ _ _ _ _ _ _ _ U).eval (.tmp 24) = U 24 from by kernel_rfl)
      | 2, h => obtain rfl : 25 = d := Option.some.inj h; exact (show (frameF AB cb _ _ _ _ _ _ _ _ _ _ _ _ _ _ _ _ _ _ _ _ _ _ _ _ _ _ _ _ _ _ _ _ _ _ _ _ _ _ _ _ _ _ _ _ _ _ _ _ _ _ _ _ _ U).eval (.tmp 25) = U 25 from by kernel_rfl)
      | 3, h => obtain rfl : 26 = d := Option.some.inj h; exact (show (frameF AB cb _ _ _ _ _ _ _ _ _ _ _ _ _ _ _ _ _ _ _ _ _ _ _ _ _ _ _ _ _ _ _ _ _ _ _ _ _ _ _ _ _ _ _ _ _ _ _ _ _ _ _ _ _ U).eval (.tmp 26) = U 26 from by kernel_rfl)
      | 4, h => obtain rfl : 27 = d := Option.some.inj h; exact (show (frameF AB cb _ _ _ _ _ _ _ _ _ _ _ _ _ _ _ _ _ _ _ _ _ _ _ _ _ _ _ _ _ _ _ _ _ _ _ _ _ _ _ _ _ _ _ _ _ _ _ _ _ _ _ _ _ U).eval (.tmp 27) = U 27 from by kernel_rfl)
      | 5, h => obtain rfl : 28 = d := Option.some.inj h; exact (show (frameF AB cb _ _ _ _ _ _ _ _ _ _ _ _ _ _ _ _ _ _ _ _ _ _ _ _ _ _ _ _ _ _ _ _ _ _ _ _ _ _ _ _ _ _ _ _ _ _ _ _ _ _ _ _ _ U).eval (.tmp 28) = U 28 from by kernel_rfl)
      | 6, h => obtain rfl : 29 = d := Option.some.inj h; exact (show (frameF AB cb _ _ _ _ _ _ _ _ _ _ _ _ _ _ _ _ _ _ _ _ _ _ _ _ _ _ _ _ _ _ _ _ _ _ _ _ _ _ _ _ _ _ _ _ _ _ _ _ _ _ _ _ _ U).eval (.tmp 29) = U 29 from by kernel_rfl)
      | 7, h => obtain rfl : 30 = d := Option.some.inj h; exact (show (frameF AB cb _ _ _ _ _ _ _ _ _ _ _ _ _ _ _ _ _ _ _ _ _ _ _ _ _ _ _ _ _ _ _ _ _ _ _ _ _ _ _ _ _ _ _ _ _ _ _ _ _ _ _ _ _ U).eval (.tmp 30) = U 30 from by kernel_rfl)
      | 8, h => obtain rfl : 31 = d := Option.some.inj h; exact (show (frameF AB cb _ _ _ _ _ _ _ _ _ _ _ _ _ _ _ _ _ _ _ _ _ _ _ _ _ _ _ _ _ _ _ _ _ _ _ _ _ _ _ _ _ _ _ _ _ _ _ _ _ _ _ _ _ U).eval (.tmp 31) = U 31 from by kernel_rfl)
      | 9, h => obtain rfl : 32 = d := Option.some.inj h; exact (show (frameF AB cb _ _ _ _ _ _ _ _ _ _ _ _ _ _ _ _ _ _ _ _ _ _ _ _ _ _ _ _ _ _ _ _ _ _ _ _ _ _ _ _ _ _ _ _ _ _ _ _ _ _ _ _ _ U).eval (.tmp 32) = U 32 from by kernel_rfl)
      | 10, h => obtain rfl : 33 = d := Option.some.inj h; exact (show (frameF AB cb _ _ _ _ _ _ _ _ _ _ _ _ _ _ _ _ _ _ _ _ _ _ _ _ _ _ _ _ _ _ _ _ _ _ _ _ _ _ _ _ _ _ _ _ _ _ _ _ _ _ _ _ _ U).eval (.tmp 33) = U 33 from by kernel_rfl)
      | 11, h => obtain rfl : 34 = d := Option.some.inj h; exact (show (frameF AB cb _ _ _ _ _ _ _ _ _ _ _ _ _ _ _ _ _ _ _ _ _ _ _ _ _ _ _ _ _ _ _ _ _ _ _ _ _ _ _ _ _ _ _ _ _ _ _ _ _ _ _ _ _ U).eval (.tmp 34) = U 34 from by kernel_rfl)
      | 12, h => obtain rfl : 35 = d := Option.some.inj h; exact (show (frameF AB cb _ _ _ _ _ _ _ _ _ _ _ _ _ _ _ _ _ _ _ _ _ _ _ _ _ _ _ _ _ _ _ _ _ _ _ _ _ _ _ _ _ _ _ _ _ _ _ _ _ _ _ _ _ U).eval (.tmp 35) = U 35 from by kernel_rfl)
      | 13, h => obtain rfl : 36 = d := Option.some.inj h; exact (show (frameF AB cb _ _ _ _ _ _ _ _ _ _ _ _ _ _ _ _ _ _ _ _ _ _ _ _ _ _ _ _ _ _ _ _ _ _ _ _ _ _ _ _ _ _ _ _ _ _ _ _ _ _ _ _ _ U).eval (.tmp 36) = U 36 from by kernel_rfl)
      | 14, h => obtain rfl : 37 = d := Option.some.inj h; exact (show (frameF AB cb _ _ _ _ _ _ _ _ _ _ _ _ _ _ _ _ _ _ _ _ _ _ _ _ _ _ _ _ _ _ _ _ _ _ _ _ _ _ _ _ _ _ _ _ _ _ _ _ _ _ _ _ _ U).eval (.tmp 37) = U 37 from by kernel_rfl)
      | 15, h => obtain rfl : 38 = d := Option.some.inj h; exact (show (frameF AB cb _ _ _ _ _ _ _ _ _ _ _ _ _ _ _ _ _ _ _ _ _ _ _ _ _ _ _ _ _ _ _ _ _ _ _ _ _ _ _ _ _ _ _ _ _ _ _ _ _ _ _ _ _ U).eval (.tmp 38) = U 38 from by kernel_rfl)
      | 16, h => obtain rfl : 39 = d := Option.some.inj h; exact (show (frameF AB cb _ _ _ _ _ _ _ _ _ _ _ _ _ _ _ _ _ _ _ _ _ _ _ _ _ _ _ _ _ _ _ _ _ _ _ _ _ _ _ _ _ _ _ _ _ _ _ _ _ _ _ _ _ U).eval (.tmp 39) = U 39 from by kernel_rfl)
      | 17, h => obtain rfl : 40 = d := Option.some.inj h; exact (show (frameF AB cb _ _ _ _ _ _ _ _ _ _ _ _ _ _ _ _ _ _ _ _ _ _ _ _ _ _ _ _ _ _ _ _ _ _ _ _ _ _ _ _ _ _ _ _ _ _ _ _ _ _ _ _ _ U).eval (.tmp 40) = U 40 from by kernel_rfl)
      | 18, h => obtain rfl : 41 = d := Option.some.inj h; exact (show (frameF AB cb _ _ _ _ _ _ _ _ _ _ _ _ _ _ _ _ _ _ _ _ _ _ _ _ _ _ _ _ _ _ _ _ _ _ _ _ _ _ _ _ _ _ _ _ _ _ _ _ _ _ _ _ _ U).eval (.tmp 41) = U 41 from by kernel_rfl)
      | 19, h => obtain rfl : 42 = d := Option.some.inj h; exact (show (frameF AB cb _ _ _ _ _ _ _ _ _ _ _ _ _ _ _ _ _ _ _ _ _ _ _ _ _ _ _ _ _ _ _ _ _ _ _ _ _ _ _ _ _ _ _ _ _ _ _ _ _ _ _ _ _ U).eval (.tmp 42) = U 42 from by kernel_rfl)
      | 20, h => obtain rfl : 43 = d := Option.some.inj h; exact (show (frameF AB cb _ _ _ _ _ _ _ _ _ _ _ _ _ _ _ _ _ _ _ _ _ _ _ _ _ _ _ _ _ _ _ _ _ _ _ _ _ _ _ _ _ _ _ _ _ _ _ _ _ _ _ _ _ U).eval (.tmp 43) = U 43 from by kernel_rfl)
      | 21, h => obtain rfl : 44 = d := Option.some.inj h; exact (show (frameF AB cb _ _ _ _ _ _ _ _ _ _ _ _ _ _ _ _ _ _ _ _ _ _ _ _ _ _ _ _ _ _ _ _ _ _ _ _ _ _ _ _ _ _ _ _ _ _ _ _ _ _ _ _ _ U).eval (.tmp 44) = U 44 from by kernel_rfl)
      | 22, h => obtain rfl : 45 = d := Option.some.inj h; exact (show (frameF AB cb _ _ _ _ _ _ _ _ _ _ _ _ _ _ _ _ _ _ _ _ _ _ _ _ _ _ _ _ _ _ _ _ _ _ _ _ _ _ _ _ _ _ _ _ _ _ _ _ _ _ _ _ _ U).eval (.tmp 45) = U 45 from by kernel_rfl)
      | 23, h => obtain rfl : 46 = d := Option.some.inj h; exact (show (frameF AB cb _ _ _ _ _ _ _ _ _ _ _ _ _ _ _ _ _ _ _ _ _ _ _ _ _ _ _ _ _ _ _ _ _ _ _ _ _ _ _ _ _ _ _ _ _ _ _ _ _ _ _ _ _ U).eval (.tmp 46) = U 46 from by kernel_rfl)
      | 24, h => obtain rfl : 47 = d := Option.some.inj h; exact (show (frameF AB cb _ _ _ _ _ _ _ _ _ _ _ _ _ _ _ _ _ _ _ _ _ _ _ _ _ _ _ _ _ _ _ _ _ _ _ _ _ _ _ _ _ _ _ _ _ _ _ _ _ _ _ _ _ U).eval (.tmp 47) = U 47 from by kernel_rfl)
      | 25, h => obtain rfl : 48 = d := Option.some.inj h; exact (show (frameF AB cb _ _ _ _ _ _ _ _ _ _ _ _ _ _ _ _ _ _ _ _ _ _ _ _ _ _ _ _ _ _ _ _ _ _ _ _ _ _ _ _ _ _ _ _ _ _ _ _ _ _ _ _ _ U).eval (.tmp 48) = U 48 from by kernel_rfl)
      | 26, h => obtain rfl : 49 = d := Option.some.inj h; exact (show (frameF AB cb _ _ _ _ _ _ _ _ _ _ _ _ _ _ _ _ _ _ _ _ _ _ _ _ _ _ _ _ _ _ _ _ _ _ _ _ _ _ _ _ _ _ _ _ _ _ _ _ _ _ _ _ _ U).eval (.tmp 49) = U 49 from by kernel_rfl)
      | 27, h => obtain rfl : 50 = d := Option.some.inj h; exact (show (frameF AB cb _ _ _ _ _ _ _ _ _ _ _ _ _ _ _ _ _ _ _ _ _ _ _ _ _ _ _ _ _ _ _ _ _ _ _ _ _ _ _ _ _ _ _ _ _ _ _ _ _ _ _ _ _ U).eval (.tmp 50) = U 50 from by kernel_rfl)
      | 28, h => obtain rfl : 51 = d := Option.some.inj h; exact (show (frameF AB cb _ _ _ _ _ _ _ _ _ _ _ _ _ _ _ _ _ _ _ _ _ _ _ _ _ _ _ _ _ _ _ _ _ _ _ _ _ _ _ _ _ _ _ _ _ _ _ _ _ _ _ _ _ U).eval (.tmp 51) = U 51 from by kernel_rfl)
      | 29, h => obtain rfl : 52 = d := Option.some.inj h; exact (show (frameF AB cb _ _ _ _ _ _ _ _ _ _ _ _ _ _ _ _ _ _ _ _ _ _ _ _ _ _ _ _ _ _ _ _ _ _ _ _ _ _ _ _ _ _ _ _ _ _ _ _ _ _ _ _ _ U).eval (.tmp 52) = U 52 from by kernel_rfl)
      | 30, h => obtain rfl : 53 = d := Option.some.inj h; exact (show (frameF AB cb _ _ _ _ _ _ _ _ _ _ _ _ _ _ _ _ _ _ _ _ _ _ _ _ _ _ _ _ _ _ _ _ _ _ _ _ _ _ _ _ _ _ _ _ _ _ _ _ _ _ _ _ _ U).eval (.tmp 53) = U 53 from by kernel_rfl)
      | 31, h => obtain rfl : 54 = d := Option.some.inj h; exact (show (frameF AB cb _ _ _ _ _ _ _ _ _ _ _ _ _ _ _ _ _ _ _ _ _ _ _ _ _ _ _ _ _ _ _ _ _ _ _ _ _ _ _ _ _ _ _ _ _ _ _ _ _ _ _ _ _ U).eval (.tmp 54) = U 54 from by kernel_rfl)
      | 32, h => obtain rfl : 55 = d := Option.some.inj h; exact (show (frameF AB cb _ _ _ _ _ _ _ _ _ _ _ _ _ _ _ _ _ _ _ _ _ _ _ _ _ _ _ _ _ _ _ _ _ _ _ _ _ _ _ _ _ _ _ _ _ _ _ _ _ _ _ _ _ U).eval (.tmp 55) = U 55 from by kernel_rfl)
      | 33, h => obtain rfl : 56 = d := Option.some.inj h; exact (show (frameF AB cb _ _ _ _ _ _ _ _ _ _ _ _ _ _ _ _ _ _ _ _ _ _ _ _ _ _ _ _ _ _ _ _ _ _ _ _ _ _ _ _ _ _ _ _ _ _ _ _ _ _ _ _ _ U).eval (.tmp 56) = U 56 from by kernel_rfl)
      | 34, h => obtain rfl : 57 = d := Option.some.inj h; exact (show (frameF AB cb _ _ _ _ _ _ _ _ _ _ _ _ _ _ _ _ _ _ _ _ _ _ _ _ _ _ _ _ _ _ _ _ _ _ _ _ _ _ _ _ _ _ _ _ _ _ _ _ _ _ _ _ _ U).eval (.tmp 57) = U 57 from by kernel_rfl)
      | 35, h => obtain rfl : 58 = d := Option.some.inj h; exact (show (frameF AB cb _ _ _ _ _ _ _ _ _ _ _ _ _ _ _ _ _ _ _ _ _ _ _ _ _ _ _ _ _ _ _ _ _ _ _ _ _ _ _ _ _ _ _ _ _ _ _ _ _ _ _ _ _ U).eval (.tmp 58) = U 58 from by kernel_rfl)
      | 36, h => obtain rfl : 59 = d := Option.some.inj h; exact (show (frameF AB cb _ _ _ _ _ _ _ _ _ _ _ _ _ _ _ _ _ _ _ _ _ _ _ _ _ _ _ _ _ _ _ _ _ _ _ _ _ _ _ _ _ _ _ _ _ _ _ _ _ _ _ _ _ U).eval (.tmp 59) = U 59 from by kernel_rfl)
      | 37, h => obtain rfl : 60 = d := Option.some.inj h; exact (show (frameF AB cb _ _ _ _ _ _ _ _ _ _ _ _ _ _ _ _ _ _ _ _ _ _ _ _ _ _ _ _ _ _ _ _ _ _ _ _ _ _ _ _ _ _ _ _ _ _ _ _ _ _ _ _ _ U).eval (.tmp 60) = U 60 from by kernel_rfl)
      | 38, h => obtain rfl : 61 = d := Option.some.inj h; exact (show (frameF AB cb _ _ _ _ _ _ _ _ _ _ _ _ _ _ _ _ _ _ _ _ _ _ _ _ _ _ _ _ _ _ _ _ _ _ _ _ _ _ _ _ _ _ _ _ _ _ _ _ _ _ _ _ _ U).eval (.tmp 61) = U 61 from by kernel_rfl)
      | 39, h => obtain rfl : 62 = d := Option.some.inj h; exact (show (frameF AB cb _ _ _ _ _ _ _ _ _ _ _ _ _ _ _ _ _ _ _ _ _ _ _ _ _ _ _ _ _ _ _ _ _ _ _ _ _ _ _ _ _ _ _ _ _ _ _ _ _ _ _ _ _ U).eval (.tmp 62) = U 62 from by kernel_rfl)
      | 40, h => obtain rfl : 63 = d := Option.some.inj h; exact (show (frameF AB cb _ _ _ _ _ _ _ _ _ _ _ _ _ _ _ _ _ _ _ _ _ _ _ _ _ _ _ _ _ _ _ _ _ _ _ _ _ _ _ _ _ _ _ _ _ _ _ _ _ _ _ _ _ U).eval (.tmp 63) = U 63 from by kernel_rfl)
      | 41, h => obtain rfl : 64 = d := Option.some.inj h; exact (show (frameF AB cb _ _ _ _ _ _ _ _ _ _ _ _ _ _ _ _ _ _ _ _ _ _ _ _ _ _ _ _ _ _ _ _ _ _ _ _ _ _ _ _ _ _ _ _ _ _ _ _ _ _ _ _ _ U).eval (.tmp 64) = U 64 from by kernel_rfl)
      | 42, h => obtain rfl : 65 = d := Option.some.inj h; exact (show (frameF AB cb _ _ _ _ _ _ _ _ _ _ _ _ _ _ _ _ _ _ _ _ _ _ _ _ _ _ _ _ _ _ _ _ _ _ _ _ _ _ _ _ _ _ _ _ _ _ _ _ _ _ _ _ _ U).eval (.tmp 65) = U 65 from by kernel_rfl)
      | 43, h => obtain rfl : 66 = d := Option.some.inj h; exact (show (frameF AB cb _ _ _ _ _ _ _ _ _ _ _ _ _ _ _ _ _ _ _ _ _ _ _ _ _ _ _ _ _ _ _ _ _ _ _ _ _ _ _ _ _ _ _ _ _ _ _ _ _ _ _ _ _ U).eval (.tmp 66) = U 66 from by kernel_rfl)
      | 44, h => obtain rfl : 67 = d := Option.some.inj h; exact (show (frameF AB cb _ _ _ _ _ _ _ _ _ _ _ _ _ _ _ _ _ _ _ _ _ _ _ _ _ _ _ _ _ _ _ _ _ _ _ _ _ _ _ _ _ _ _ _ _ _ _ _ _ _ _ _ _ U).eval (.tmp 67) = U 67 from by kernel_rfl)
      | 45, h => obtain rfl : 68 = d := Option.some.inj h; exact (show (frameF AB cb _ _ _ _ _ _ _ _ _ _ _ _ _ _ _ _ _ _ _ _ _ _ _ _ _ _ _ _ _ _ _ _ _ _ _ _ _ _ _ _ _ _ _ _ _ _ _ _ _ _ _ _ _ U).eval (.tmp 68) = U 68 from by kernel_rfl)
      | 46, h => obtain rfl : 69 = d := Option.some.inj h; exact (show (frameF AB cb _ _ _ _ _ _ _ _ _ _ _ _ _ _ _ _ _ _ _ _ _ _ _ _ _ _ _ _ _ _ _ _ _ _ _ _ _ _ _ _ _ _ _ _ _ _ _ _ _ _ _ _ _ U).eval (.tmp 69) = U 69 from by kernel_rfl)
      | 47, h => obtain rfl : 70 = d := Option.some.inj h; exact (show (frameF AB cb _ _ _ _ _ _ _ _ _ _ _ _ _ _ _ _ _ _ _ _ _ _ _ _ _ _ _ _ _ _ _ _ _ _ _ _ _ _ _ _ _ _ _ _ _ _ _ _ _ _ _ _ _ U).eval (.tmp 70) = U 70 from by kernel_rfl)
      | 48, h => obtain rfl : 71 = d := Option.some.inj h; exact (show (frameF AB cb _ _ _ _ _ _ _ _ _ _ _ _ _ _ _ _ _ _ _ _ _ _ _ _ _ _ _ _ _ _ _ _ _ _ _ _ _ _ _ _ _ _ _ _ _ _ _ _ _ _ _ _ _ U).eval (.tmp 71) = U 71 from by kernel_rfl)
      | 49, h => obtain rfl : 6 = d := Option.some.inj h; exact (show (frameF AB cb _ _ _ _ _ _ _ _ _ _ _ _ _ _ _ _ _ _ _ _ _ _ _ _ _ _ _ _ _ _ _ _ _ _ _ _ _ _ _ _ _ _ _ _ _ _ _ _ _ _ _ _ _ U).eval (.tmp 6) = U 6 from by kernel_rfl)
      | j + 50, h => cases h
    case fr => exact fun U => by kernel_rfl
    case h0 =>
      exact ⟨⟨rfl, rfl, rfl, Nat.le_refl _, fun _ _ => rfl⟩, fun i u _ _ h => (by cases h), fun i l _ _ h => (by cases h.1), fun i j l m _ _ _ _ _ h => (by cases h.1), fun i p b _ _ h => (by cases h), fun i j h => (by cases h), fun h => (by cases h), fun h => (by cases h)⟩
    case hok =>
      refine all_ops (AllFrom.cons ?s0 (AllFrom.cons ?s1 (AllFrom.cons ?s2 (AllFrom.cons ?s3 (AllFrom.cons ?s4 (AllFrom.cons ?s5 (AllFrom.cons ?s6 (AllFrom.cons ?s7 (AllFrom.cons ?s8 (AllFrom.cons ?s9 (AllFrom.cons ?s10 (AllFrom.cons ?s11 (AllFrom.cons ?s12 (AllFrom.cons ?s13 (AllFrom.cons ?s14 (AllFrom.cons ?s15 (AllFrom.cons ?s16 (AllFrom.cons ?s17 (AllFrom.cons ?s18 (AllFrom.cons ?s19 (AllFrom.cons ?s20 (AllFrom.cons ?s21 (AllFrom.cons ?s22 (AllFrom.cons ?s23 (AllFrom.cons ?s24 (AllFrom.cons ?s25 (AllFrom.cons ?s26 (AllFrom.cons ?s27 (AllFrom.cons ?s28 (AllFrom.cons ?s29 (AllFrom.cons ?s30 (AllFrom.cons ?s31 (AllFrom.cons ?s32 (AllFrom.cons ?s33 (AllFrom.cons ?s34 (AllFrom.cons ?s35 (AllFrom.cons ?s36 (AllFrom.cons ?s37 (AllFrom.cons ?s38 (AllFrom.cons ?s39 (AllFrom.cons ?s40 (AllFrom.cons ?s41 (AllFrom.cons ?s42 (AllFrom.cons ?s43 (AllFrom.cons ?s44 (AllFrom.cons ?s45 (AllFrom.cons ?s46 (AllFrom.cons ?s47 (AllFrom.cons ?s48 (AllFrom.cons ?s49 AllFrom.nil))))))))))))))))))))))))))))))))))))))))))))))))))
      case s0 =>
        intro ac L U w1 hF hev hJ hn hl K hK
        have f5 := ev_tmpC hF
        go_simp
        exact hK.out _ _ (hJ.put_eq (i := 0) (show 0 ≤ 49 by decide) (show 0 < 48 by decide) (show 48 < 49 by decide) hn hl rfl rfl rfl)
      case s1 =>
        intro ac L U w1 hF hev hJ hn hl K hK
        have e0 : ac.tmps[23]?.getD undef = .slice AB 15 cb := ev_tmpC ((hev 0 (by decide) 23 rfl).trans (hJ.eq 0 _ (show 0 ≤ 49 by decide) rfl (hl 0 (by decide))))
        go_simp
        exact hK.out _ _ (hJ.put_eq (i := 1) (show 1 ≤ 49 by decide) (show 1 < 48 by decide) (show 48 < 49 by decide) hn hl rfl rfl rfl)
      case s2 =>
        intro ac L U w1 hF hev hJ hn hl K hK
        have f5 := ev_tmpC hF
        go_simp
        exact hK.out _ _ (hJ.put_eq (i := 2) (show 2 ≤ 49 by decide) (show 2 < 48 by decide) (show 48 < 49 by decide) hn hl rfl rfl rfl)
      case s3 =>
        intro ac L U w1 hF hev hJ hn hl K hK
        have f5 := ev_tmpC hF
        go_simp
        exact hK.out _ _ (hJ.put_eq (i := 3) (show 3 ≤ 49 by decide) (show 3 < 48 by decide) (show 48 < 49 by decide) hn hl rfl rfl rfl)
      case s4 =>
        intro ac L U w1 hF hev hJ hn hl K hK
        have e3 : ac.tmps[26]?.getD undef = .slice AB 15 cb := ev_tmpC ((hev 3 (by decide) 26 rfl).trans (hJ.eq 3 _ (show 3 ≤ 49 by decide) rfl (hl 3 (by decide))))
        go_simp
        exact hK.out _ _ (hJ.put_eq (i := 4) (show 4 ≤ 49 by decide) (show 4 < 48 by decide) (show 48 < 49 by decide) hn hl rfl rfl rfl)
      case s5 =>
        intro ac L U w1 hF hev hJ hn hl K hK
        have e4 : ac.tmps[27]?.getD undef = .int .i64 15 := ev_tmpC ((hev 4 (by decide) 27 rfl).trans (hJ.eq 4 _ (show 4 ≤ 49 by decide) rfl (hl 4 (by decide))))
        go_simp
        exact hK.out _ _ (hJ.put_eq (i := 5) (show 5 ≤ 49 by decide) (show 5 < 48 by decide) (show 48 < 49 by decide) hn hl rfl rfl rfl)
      case s6 =>
        intro ac L U w1 hF hev hJ hn hl K hK
        have e2 : ac.tmps[25]?.getD undef = .slice AB 15 cb := ev_tmpC ((hev 2 (by decide) 25 rfl).trans (hJ.eq 2 _ (show 2 ≤ 49 by decide) rfl (hl 2 (by decide))))
        have e5 : ac.tmps[28]?.getD undef = .int .i64 14 := ev_tmpC ((hev 5 (by decide) 28 rfl).trans (hJ.eq 5 _ (show 5 ≤ 49 by decide) rfl (hl 5 (by decide))))
        go_simp
        exact hK.out _ _ (hJ.put_eq (i := 6) (show 6 ≤ 49 by decide) (show 6 < 48 by decide) (show 48 < 49 by decide) hn hl rfl rfl rfl)
      case s7 =>
        intro ac L U w1 hF hev hJ hn hl K hK
        have e6 : ac.tmps[29]?.getD undef = .slice AB 14 cb := ev_tmpC ((hev 6 (by decide) 29 rfl).trans (hJ.eq 6 _ (show 6 ≤ 49 by decide) rfl (hl 6 (by decide))))
        go_simp
        exact hK.out _ _ (hJ.put_eq (i := 7) (show 7 ≤ 49 by decide) (show 7 < 48 by decide) (show 48 < 49 by decide) hn hl rfl rfl rfl)
      case s8 =>
        intro ac L U w1 hF hev hJ hn hl K hK
        go_simp
        exact hK.out _ _ (hJ.put_new (i := 8) (l := []) (show 8 ≤ 49 by decide) (show 8 < 48 by decide) (show 48 < 49 by decide) hn hl rfl rfl rfl rfl (by decide))
      case s9 =>
        intro ac L U w1 hF hev hJ hn hl K hK
        have f5 := ev_tmpC hF
        go_simp
        exact hK.out _ _ (hJ.put_eq (i := 9) (show 9 ≤ 49 by decide) (show 9 < 48 by decide) (show 48 < 49 by decide) hn hl rfl rfl rfl)
      case s10 =>
        intro ac L U w1 hF hev hJ hn hl K hK
        refine hJ.app (i := 10) (p := 8) (l := []) (lx := [5, 5, 0, 0, 0, 0, 0, 1, 1, 1, 1, 0, 0, 0, 0]) byteT (show 10 ≤ 49 by decide) (show 10 < 48 by decide) (show 48 < 49 by decide) hn hl rfl rfl rfl (show 8 ≤ 49 by decide) rfl (hl 8 (by decide)) rfl (s := .tmp 31) (x := .tmp 32) rfl rfl (hev 8 (by decide) 31 rfl) ((hev 9 (by decide) 32 rfl).trans (hJ.eq 9 _ (show 9 ≤ 49 by decide) rfl (hl 9 (by decide)))) (RB.out.below hJ.bel) (by decide) (by decide) (fun v w2 h2 => hK.out _ _ h2)
      case s11 =>
        intro ac L U w1 hF hev hJ hn hl K hK
        go_simp
        exact hK.out _ _ (hJ.put_new (i := 11) (l := [0]) (show 11 ≤ 49 by decide) (show 11 < 48 by decide) (show 48 < 49 by decide) hn hl rfl rfl rfl rfl (by decide))
      case s12 =>
        intro ac L U w1 hF hev hJ hn hl K hK
        obtain ⟨gx, cx, ex, hox⟩ := hJ.row 11 [0] (show 11 ≤ 49 by decide) rfl ⟨hl 11 (by decide), fun k hk => by cases hk⟩
        refine hJ.app (i := 12) (p := 10) (l := [5, 5, 0, 0, 0, 0, 0, 1, 1, 1, 1, 0, 0, 0, 0]) (lx := [0]) byteT (show 12 ≤ 49 by decide) (show 12 < 48 by decide) (show 48 < 49 by decide) hn hl rfl rfl rfl (show 10 ≤ 49 by decide) rfl (hl 10 (by decide)) rfl (s := .tmp 33) (x := .tmp 34) rfl rfl (hev 10 (by decide) 33 rfl) ((hev 11 (by decide) 34 rfl).trans ex) (Rd.own_ hox) (by decide) (by decide) (fun v w2 h2 => hK.out _ _ h2)
      case s13 =>
        intro ac L U w1 hF hev hJ hn hl K hK
        obtain ⟨gp, cp, rp, _⟩ := hJ.row 12 [5, 5, 0, 0, 0, 0, 0, 1, 1, 1, 1, 0, 0, 0, 0, 0] (show 12 ≤ 49 by decide) rfl ⟨hl 12 (by decide), fun k hk => by cases hk⟩
        have e12 : ac.tmps[35]?.getD undef = .slice (some ⟨gp, 0, none⟩) 16 cp := ev_tmpC ((hev 12 (by decide) 35 rfl).trans rp)
        have q := hJ.put_pr (i := 13) (p := 12) (show 13 ≤ 49 by decide) (show 13 < 48 by decide) (show 48 < 49 by decide) hn hl rfl rfl rfl (show 12 ≤ 49 by decide) (hl 12 (by decide))
        rw [rp] at q
        go_simp
        exact hK.out _ _ q
      case s14 =>
        intro ac L U w1 hF hev hJ hn hl K hK
        go_simp
        exact hK.out _ _ (hJ.put_new (i := 14) (l := [133, 0]) (show 14 ≤ 49 by decide) (show 14 < 48 by decide) (show 48 < 49 by decide) hn hl rfl rfl rfl rfl (by decide))
      case s15 =>
        intro ac L U w1 hF hev hJ hn hl K hK
        have f5 := ev_tmpC hF
        go_simp
        exact hK.out _ _ (hJ.put_eq (i := 15) (show 15 ≤ 49 by decide) (show 15 < 48 by decide) (show 48 < 49 by decide) hn hl rfl rfl rfl)
      case s16 =>
        intro ac L U w1 hF hev hJ hn hl K hK
        have e15 : ac.tmps[38]?.getD undef = .slice AB 15 cb := ev_tmpC ((hev 15 (by decide) 38 rfl).trans (hJ.eq 15 _ (show 15 ≤ 49 by decide) rfl (hl 15 (by decide))))
        go_simp
        exact hK.out _ _ (hJ.put_eq (i := 16) (show 16 ≤ 49 by decide) (show 16 < 48 by decide) (show 48 < 49 by decide) hn hl rfl rfl rfl)
      case s17 =>
        intro ac L U w1 hF hev hJ hn hl K hK
        refine hJ.app (i := 17) (p := 14) (l := [133, 0]) (lx := [5, 0, 0, 0, 0, 0, 1, 1, 1, 1, 0, 0, 0, 0]) byteT (show 17 ≤ 49 by decide) (show 17 < 48 by decide) (show 48 < 49 by decide) hn hl rfl rfl rfl (show 14 ≤ 49 by decide) rfl (hl 14 (by decide)) rfl (s := .tmp 37) (x := .tmp 39) rfl rfl (hev 14 (by decide) 37 rfl) ((hev 16 (by decide) 39 rfl).trans (hJ.eq 16 _ (show 16 ≤ 49 by decide) rfl (hl 16 (by decide)))) (RD.out.below hJ.bel) (by decide) (by decide) (fun v w2 h2 => hK.out _ _ h2)
      case s18 =>
        intro ac L U w1 hF hev hJ hn hl K hK
        obtain ⟨gp, cp, rp, _⟩ := hJ.row 17 [133, 0, 5, 0, 0, 0, 0, 0, 1, 1, 1, 1, 0, 0, 0, 0] (show 17 ≤ 49 by decide) rfl ⟨hl 17 (by decide), fun k hk => by cases hk⟩
        have e17 : ac.tmps[40]?.getD undef = .slice (some ⟨gp, 0, none⟩) 16 cp := ev_tmpC ((hev 17 (by decide) 40 rfl).trans rp)
        have q := hJ.put_pr (i := 18) (p := 17) (show 18 ≤ 49 by decide) (show 18 < 48 by decide) (show 48 < 49 by decide) hn hl rfl rfl rfl (show 17 ≤ 49 by decide) (hl 17 (by decide))
        rw [rp] at q
        go_simp
        exact hK.out _ _ q
      case s19 =>
        intro ac L U w1 hF hev hJ hn hl K hK
        go_simp
        exact hK.out _ _ (hJ.put_new (i := 19) (l := [6]) (show 19 ≤ 49 by decide) (show 19 < 48 by decide) (show 48 < 49 by decide) hn hl rfl rfl rfl rfl (by decide))
      case s20 =>
        intro ac L U w1 hF hev hJ hn hl K hK
        have f5 := ev_tmpC hF
        go_simp
        exact hK.out _ _ (hJ.put_eq (i := 20) (show 20 ≤ 49 by decide) (show 20 < 48 by decide) (show 48 < 49 by decide) hn hl rfl rfl rfl)
      case s21 =>
        intro ac L U w1 hF hev hJ hn hl K hK
        have e20 : ac.tmps[43]?.getD undef = .slice AB 15 cb := ev_tmpC ((hev 20 (by decide) 43 rfl).trans (hJ.eq 20 _ (show 20 ≤ 49 by decide) rfl (hl 20 (by decide))))
        go_simp
        exact hK.out _ _ (hJ.put_eq (i := 21) (show 21 ≤ 49 by decide) (show 21 < 48 by decide) (show 48 < 49 by decide) hn hl rfl rfl rfl)
      case s22 =>
        intro ac L U w1 hF hev hJ hn hl K hK
        refine hJ.app (i := 22) (p := 19) (l := [6]) (lx := [5, 0, 0, 0, 0, 0, 1, 1, 1, 1, 0, 0, 0, 0]) byteT (show 22 ≤ 49 by decide) (show 22 < 48 by decide) (show 48 < 49 by decide) hn hl rfl rfl rfl (show 19 ≤ 49 by decide) rfl (hl 19 (by decide)) rfl (s := .tmp 42) (x := .tmp 44) rfl rfl (hev 19 (by decide) 42 rfl) ((hev 21 (by decide) 44 rfl).trans (hJ.eq 21 _ (show 21 ≤ 49 by decide) rfl (hl 21 (by decide)))) (RD.out.below hJ.bel) (by decide) (by decide) (fun v w2 h2 => hK.out _ _ h2)
      case s23 =>
        intro ac L U w1 hF hev hJ hn hl K hK
        obtain ⟨gp, cp, rp, _⟩ := hJ.row 22 [6, 5, 0, 0, 0, 0, 0, 1, 1, 1, 1, 0, 0, 0, 0] (show 22 ≤ 49 by decide) rfl ⟨hl 22 (by decide), fun k hk => by cases hk⟩
        have e22 : ac.tmps[45]?.getD undef = .slice (some ⟨gp, 0, none⟩) 15 cp := ev_tmpC ((hev 22 (by decide) 45 rfl).trans rp)
        have q := hJ.put_pr (i := 23) (p := 22) (show 23 ≤ 49 by decide) (show 23 < 48 by decide) (show 48 < 49 by decide) hn hl rfl rfl rfl (show 22 ≤ 49 by decide) (hl 22 (by decide))
        rw [rp] at q
        go_simp
        exact hK.out _ _ q
      case s24 =>
        intro ac L U w1 hF hev hJ hn hl K hK
        have f5 := ev_tmpC hF
        go_simp
        exact hK.out _ _ (hJ.put_eq (i := 24) (show 24 ≤ 49 by decide) (show 24 < 48 by decide) (show 48 < 49 by decide) hn hl rfl rfl rfl)
      case s25 =>
        intro ac L U w1 hF hev hJ hn hl K hK
        have e24 : ac.tmps[47]?.getD undef = .slice AB 15 cb := ev_tmpC ((hev 24 (by decide) 47 rfl).trans (hJ.eq 24 _ (show 24 ≤ 49 by decide) rfl (hl 24 (by decide))))
        go_simp
        exact hK.out _ _ (hJ.put_eq (i := 25) (show 25 ≤ 49 by decide) (show 25 < 48 by decide) (show 48 < 49 by decide) hn hl rfl rfl rfl)
      case s26 =>
        intro ac L U w1 hF hev hJ hn hl K hK
        have e25 : ac.tmps[48]?.getD undef = .slice (cutAt AB cb 1) 14 (cb - 1) := ev_tmpC ((hev 25 (by decide) 48 rfl).trans (hJ.eq 25 _ (show 25 ≤ 49 by decide) rfl (hl 25 (by decide))))
        go_simp
        exact hK.out _ _ (hJ.put_eq (i := 26) (show 26 ≤ 49 by decide) (show 26 < 48 by decide) (show 48 < 49 by decide) hn hl rfl rfl rfl)
      case s27 =>
        intro ac L U w1 hF hev hJ hn hl K hK
        go_simp
        exact hK.out _ _ (hJ.put_eq (i := 27) (show 27 ≤ 49 by decide) (show 27 < 48 by decide) (show 48 < 49 by decide) hn hl rfl rfl rfl)
      case s28 =>
        intro ac L U w1 hF hev hJ hn hl K hK
        go_simp
        exact hK.out _ _ (hJ.put_new (i := 28) (l := []) (show 28 ≤ 49 by decide) (show 28 < 48 by decide) (show 48 < 49 by decide) hn hl rfl rfl rfl rfl (by decide))
      case s29 =>
        intro ac L U w1 hF hev hJ hn hl K hK
        have f5 := ev_tmpC hF
        go_simp
        exact hK.out _ _ (hJ.put_eq (i := 29) (show 29 ≤ 49 by decide) (show 29 < 48 by decide) (show 48 < 49 by decide) hn hl rfl rfl rfl)
      case s30 =>
        intro ac L U w1 hF hev hJ hn hl K hK
        have f5 := ev_tmpC hF
        go_simp
        exact hK.out _ _ (hJ.put_eq (i := 30) (show 30 ≤ 49 by decide) (show 30 < 48 by decide) (show 48 < 49 by decide) hn hl rfl rfl rfl)
      case s31 =>
        intro ac L U w1 hF hev hJ hn hl K hK
        have e30 : ac.tmps[53]?.getD undef = .slice AB 15 cb := ev_tmpC ((hev 30 (by decide) 53 rfl).trans (hJ.eq 30 _ (show 30 ≤ 49 by decide) rfl (hl 30 (by decide))))
        go_simp
        exact hK.out _ _ (hJ.put_eq (i := 31) (show 31 ≤ 49 by decide) (show 31 < 48 by decide) (show 48 < 49 by decide) hn hl rfl rfl rfl)
      case s32 =>
        intro ac L U w1 hF hev hJ hn hl K hK
        have e31 : ac.tmps[54]?.getD undef = .int .i64 15 := ev_tmpC ((hev 31 (by decide) 54 rfl).trans (hJ.eq 31 _ (show 31 ≤ 49 by decide) rfl (hl 31 (by decide))))
        go_simp
        exact hK.out _ _ (hJ.put_eq (i := 32) (show 32 ≤ 49 by decide) (show 32 < 48 by decide) (show 48 < 49 by decide) hn hl rfl rfl rfl)
      case s33 =>
        intro ac L U w1 hF hev hJ hn hl K hK
        have e29 : ac.tmps[52]?.getD undef = .slice AB 15 cb := ev_tmpC ((hev 29 (by decide) 52 rfl).trans (hJ.eq 29 _ (show 29 ≤ 49 by decide) rfl (hl 29 (by decide))))
        have e32 : ac.tmps[55]?.getD undef = .int .i64 7 := ev_tmpC ((hev 32 (by decide) 55 rfl).trans (hJ.eq 32 _ (show 32 ≤ 49 by decide) rfl (hl 32 (by decide))))
        go_simp
        exact hK.out _ _ (hJ.put_eq (i := 33) (show 33 ≤ 49 by decide) (show 33 < 48 by decide) (show 48 < 49 by decide) hn hl rfl rfl rfl)
      case s34 =>
        intro ac L U w1 hF hev hJ hn hl K hK
        refine hJ.app (i := 34) (p := 28) (l := []) (lx := [5, 5, 0, 0, 0, 0, 0]) byteT (show 34 ≤ 49 by decide) (show 34 < 48 by decide) (show 48 < 49 by decide) hn hl rfl rfl rfl (show 28 ≤ 49 by decide) rfl (hl 28 (by decide)) rfl (s := .tmp 51) (x := .tmp 56) rfl rfl (hev 28 (by decide) 51 rfl) ((hev 33 (by decide) 56 rfl).trans (hJ.eq 33 _ (show 33 ≤ 49 by decide) rfl (hl 33 (by decide)))) (R7.out.below hJ.bel) (by decide) (by decide) (fun v w2 h2 => hK.out _ _ h2)
      case s35 =>
        intro ac L U w1 hF hev hJ hn hl K hK
        go_simp
        exact hK.out _ _ (hJ.put_new (i := 35) (l := [0]) (show 35 ≤ 49 by decide) (show 35 < 48 by decide) (show 48 < 49 by decide) hn hl rfl rfl rfl rfl (by decide))
      case s36 =>
        intro ac L U w1 hF hev hJ hn hl K hK
        obtain ⟨gx, cx, ex, hox⟩ := hJ.row 35 [0] (show 35 ≤ 49 by decide) rfl ⟨hl 35 (by decide), fun k hk => by cases hk⟩
        refine hJ.app (i := 36) (p := 34) (l := [5, 5, 0, 0, 0, 0, 0]) (lx := [0]) byteT (show 36 ≤ 49 by decide) (show 36 < 48 by decide) (show 48 < 49 by decide) hn hl rfl rfl rfl (show 34 ≤ 49 by decide) rfl (hl 34 (by decide)) rfl (s := .tmp 57) (x := .tmp 58) rfl rfl (hev 34 (by decide) 57 rfl) ((hev 35 (by decide) 58 rfl).trans ex) (Rd.own_ hox) (by decide) (by decide) (fun v w2 h2 => hK.out _ _ h2)
      case s37 =>
        intro ac L U w1 hF hev hJ hn hl K hK
        obtain ⟨gp, cp, rp, _⟩ := hJ.row 36 [5, 5, 0, 0, 0, 0, 0, 0] (show 36 ≤ 49 by decide) rfl ⟨hl 36 (by decide), fun k hk => by cases hk⟩
        have e36 : ac.tmps[59]?.getD undef = .slice (some ⟨gp, 0, none⟩) 8 cp := ev_tmpC ((hev 36 (by decide) 59 rfl).trans rp)
        have q := hJ.put_pr (i := 37) (p := 36) (show 37 ≤ 49 by decide) (show 37 < 48 by decide) (show 48 < 49 by decide) hn hl rfl rfl rfl (show 36 ≤ 49 by decide) (hl 36 (by decide))
        rw [rp] at q
        go_simp
        exact hK.out _ _ q
      case s38 =>
        intro ac L U w1 hF hev hJ hn hl K hK
        go_simp
        exact hK.out _ _ (hJ.put_new (i := 38) (l := []) (show 38 ≤ 49 by decide) (show 38 < 48 by decide) (show 48 < 49 by decide) hn hl rfl rfl rfl rfl (by decide))
      case s39 =>
        intro ac L U w1 hF hev hJ hn hl K hK
        have f5 := ev_tmpC hF
        go_simp
        exact hK.out _ _ (hJ.put_eq (i := 39) (show 39 ≤ 49 by decide) (show 39 < 48 by decide) (show 48 < 49 by decide) hn hl rfl rfl rfl)
      case s40 =>
        intro ac L U w1 hF hev hJ hn hl K hK
        have f5 := ev_tmpC hF
        go_simp
        exact hK.out _ _ (hJ.put_eq (i := 40) (show 40 ≤ 49 by decide) (show 40 < 48 by decide) (show 48 < 49 by decide) hn hl rfl rfl rfl)
      case s41 =>
        intro ac L U w1 hF hev hJ hn hl K hK
        have e40 : ac.tmps[63]?.getD undef = .slice AB 15 cb := ev_tmpC ((hev 40 (by decide) 63 rfl).trans (hJ.eq 40 _ (show 40 ≤ 49 by decide) rfl (hl 40 (by decide))))
        go_simp
        exact hK.out _ _ (hJ.put_eq (i := 41) (show 41 ≤ 49 by decide) (show 41 < 48 by decide) (show 48 < 49 by decide) hn hl rfl rfl rfl)
      case s42 =>
        intro ac L U w1 hF hev hJ hn hl K hK
        have e41 : ac.tmps[64]?.getD undef = .int .i64 15 := ev_tmpC ((hev 41 (by decide) 64 rfl).trans (hJ.eq 41 _ (show 41 ≤ 49 by decide) rfl (hl 41 (by decide))))
        go_simp
        exact hK.out _ _ (hJ.put_eq (i := 42) (show 42 ≤ 49 by decide) (show 42 < 48 by decide) (show 48 < 49 by decide) hn hl rfl rfl rfl)
      case s43 =>
        intro ac L U w1 hF hev hJ hn hl K hK
        have e39 : ac.tmps[62]?.getD undef = .slice AB 15 cb := ev_tmpC ((hev 39 (by decide) 62 rfl).trans (hJ.eq 39 _ (show 39 ≤ 49 by decide) rfl (hl 39 (by decide))))
        have e42 : ac.tmps[65]?.getD undef = .int .i64 7 := ev_tmpC ((hev 42 (by decide) 65 rfl).trans (hJ.eq 42 _ (show 42 ≤ 49 by decide) rfl (hl 42 (by decide))))
        go_simp
        exact hK.out _ _ (hJ.put_eq (i := 43) (show 43 ≤ 49 by decide) (show 43 < 48 by decide) (show 48 < 49 by decide) hn hl rfl rfl rfl)
      case s44 =>
        intro ac L U w1 hF hev hJ hn hl K hK
        refine hJ.app (i := 44) (p := 38) (l := []) (lx := [5, 5, 0, 0, 0, 0, 0]) byteT (show 44 ≤ 49 by decide) (show 44 < 48 by decide) (show 48 < 49 by decide) hn hl rfl rfl rfl (show 38 ≤ 49 by decide) rfl (hl 38 (by decide)) rfl (s := .tmp 61) (x := .tmp 66) rfl rfl (hev 38 (by decide) 61 rfl) ((hev 43 (by decide) 66 rfl).trans (hJ.eq 43 _ (show 43 ≤ 49 by decide) rfl (hl 43 (by decide)))) (R7.out.below hJ.bel) (by decide) (by decide) (fun v w2 h2 => hK.out _ _ h2)
      case s45 =>
        intro ac L U w1 hF hev hJ hn hl K hK
        go_simp
        exact hK.out _ _ (hJ.put_new (i := 45) (l := [65]) (show 45 ≤ 49 by decide) (show 45 < 48 by decide) (show 48 < 49 by decide) hn hl rfl rfl rfl rfl (by decide))
      case s46 =>
        intro ac L U w1 hF hev hJ hn hl K hK
        obtain ⟨gx, cx, ex, hox⟩ := hJ.row 45 [65] (show 45 ≤ 49 by decide) rfl ⟨hl 45 (by decide), fun k hk => by cases hk⟩
        refine hJ.app (i := 46) (p := 44) (l := [5, 5, 0, 0, 0, 0, 0]) (lx := [65]) byteT (show 46 ≤ 49 by decide) (show 46 < 48 by decide) (show 48 < 49 by decide) hn hl rfl rfl rfl (show 44 ≤ 49 by decide) rfl (hl 44 (by decide)) rfl (s := .tmp 67) (x := .tmp 68) rfl rfl (hev 44 (by decide) 67 rfl) ((hev 45 (by decide) 68 rfl).trans ex) (Rd.own_ hox) (by decide) (by decide) (fun v w2 h2 => hK.out _ _ h2)
      case s47 =>
        intro ac L U w1 hF hev hJ hn hl K hK
        obtain ⟨gp, cp, rp, _⟩ := hJ.row 46 [5, 5, 0, 0, 0, 0, 0, 65] (show 46 ≤ 49 by decide) rfl ⟨hl 46 (by decide), fun k hk => by cases hk⟩
        have e46 : ac.tmps[69]?.getD undef = .slice (some ⟨gp, 0, none⟩) 8 cp := ev_tmpC ((hev 46 (by decide) 69 rfl).trans rp)
        have q := hJ.put_pr (i := 47) (p := 46) (show 47 ≤ 49 by decide) (show 47 < 48 by decide) (show 48 < 49 by decide) hn hl rfl rfl rfl (show 46 ≤ 49 by decide) (hl 46 (by decide))
        rw [rp] at q
        go_simp
        exact hK.out _ _ q
      case s48 =>
        intro ac L U w1 hF hev hJ hn hl K hK
        obtain ⟨g12, c12, r12, o12⟩ := hJ.row 12 [5, 5, 0, 0, 0, 0, 0, 1, 1, 1, 1, 0, 0, 0, 0, 0] (show 12 ≤ 49 by decide) rfl ⟨hJ.cl 13 12 (hl 13 (by decide)) (show 12 ∈ depF 13 by decide), fun k hk => by cases hk⟩
        obtain ⟨_, _, q13⟩ := hJ.pr 13 12 false (show 13 ≤ 49 by decide) rfl (hl 13 (by decide))
        have e13 : ac.tmps[36]?.getD undef = .agg #[.slice (some ⟨g12, 0, none⟩) 16 c12, .bool false] := ev_tmpC ((hev 13 (by decide) 36 rfl).trans (q13.trans (by rw [show (ChF AB cb).d 12 = 35 from rfl] at r12 ⊢; rw [r12]; rfl)))
        obtain ⟨g17, c17, r17, o17⟩ := hJ.row 17 [133, 0, 5, 0, 0, 0, 0, 0, 1, 1, 1, 1, 0, 0, 0, 0] (show 17 ≤ 49 by decide) rfl ⟨hJ.cl 18 17 (hl 18 (by decide)) (show 17 ∈ depF 18 by decide), fun k hk => by cases hk⟩
        obtain ⟨_, _, q18⟩ := hJ.pr 18 17 false (show 18 ≤ 49 by decide) rfl (hl 18 (by decide))
        have e18 : ac.tmps[41]?.getD undef = .agg #[.slice (some ⟨g17, 0, none⟩) 16 c17, .bool false] := ev_tmpC ((hev 18 (by decide) 41 rfl).trans (q18.trans (by rw [show (ChF AB cb).d 17 = 40 from rfl] at r17 ⊢; rw [r17]; rfl)))
        obtain ⟨g22, c22, r22, o22⟩ := hJ.row 22 [6, 5, 0, 0, 0, 0, 0, 1, 1, 1, 1, 0, 0, 0, 0] (show 22 ≤ 49 by decide) rfl ⟨hJ.cl 23 22 (hl 23 (by decide)) (show 22 ∈ depF 23 by decide), fun k hk => by cases hk⟩
        obtain ⟨_, _, q23⟩ := hJ.pr 23 22 true (show 23 ≤ 49 by decide) rfl (hl 23 (by decide))
        have e23 : ac.tmps[46]?.getD undef = .agg #[.slice (some ⟨g22, 0, none⟩) 15 c22, .bool true] := ev_tmpC ((hev 23 (by decide) 46 rfl).trans (q23.trans (by rw [show (ChF AB cb).d 22 = 45 from rfl] at r22 ⊢; rw [r22]; rfl)))
        obtain ⟨g36, c36, r36, o36⟩ := hJ.row 36 [5, 5, 0, 0, 0, 0, 0, 0] (show 36 ≤ 49 by decide) rfl ⟨hJ.cl 37 36 (hl 37 (by decide)) (show 36 ∈ depF 37 by decide), fun k hk => by cases hk⟩
        obtain ⟨_, _, q37⟩ := hJ.pr 37 36 true (show 37 ≤ 49 by decide) rfl (hl 37 (by decide))
        have e37 : ac.tmps[60]?.getD undef = .agg #[.slice (some ⟨g36, 0, none⟩) 8 c36, .bool true] := ev_tmpC ((hev 37 (by decide) 60 rfl).trans (q37.trans (by rw [show (ChF AB cb).d 36 = 59 from rfl] at r36 ⊢; rw [r36]; rfl)))
        obtain ⟨g46, c46, r46, o46⟩ := hJ.row 46 [5, 5, 0, 0, 0, 0, 0, 65] (show 46 ≤ 49 by decide) rfl ⟨hJ.cl 47 46 (hl 47 (by decide)) (show 46 ∈ depF 47 by decide), fun k hk => by cases hk⟩
        obtain ⟨_, _, q47⟩ := hJ.pr 47 46 false (show 47 ≤ 49 by decide) rfl (hl 47 (by decide))
        have e47 : ac.tmps[70]?.getD undef = .agg #[.slice (some ⟨g46, 0, none⟩) 8 c46, .bool false] := ev_tmpC ((hev 47 (by decide) 70 rfl).trans (q47.trans (by rw [show (ChF AB cb).d 46 = 69 from rfl] at r46 ⊢; rw [r46]; rfl)))
        have e1 : ac.tmps[24]?.getD undef = .agg #[.slice AB 15 cb, .bool true] := ev_tmpC ((hev 1 (by decide) 24 rfl).trans (hJ.eq 1 _ (show 1 ≤ 49 by decide) rfl (hl 1 (by decide))))
        have e7 : ac.tmps[30]?.getD undef = .agg #[.slice AB 14 cb, .bool false] := ev_tmpC ((hev 7 (by decide) 30 rfl).trans (hJ.eq 7 _ (show 7 ≤ 49 by decide) rfl (hl 7 (by decide))))
        have e26 : ac.tmps[49]?.getD undef = .agg #[.slice (cutAt AB cb 1) 14 (cb - 1), .bool false] := ev_tmpC ((hev 26 (by decide) 49 rfl).trans (hJ.eq 26 _ (show 26 ≤ 49 by decide) rfl (hl 26 (by decide))))
        have e27 : ac.tmps[50]?.getD undef = .agg #[.slice none 0 0, .bool false] := ev_tmpC ((hev 27 (by decide) 50 rfl).trans (hJ.eq 27 _ (show 27 ≤ 49 by decide) rfl (hl 27 (by decide))))
        go_simp
        obtain ⟨gx, hgx⟩ : ∃ g, w1.heap.size = g := ⟨_, rfl⟩
        have hbx := newAtC w1 39 #[.slice AB 15 cb, .bool true, .slice AB 14 cb, .bool false, .slice (some ⟨g12, 0, none⟩) 16 c12, .bool false, .slice (some ⟨g17, 0, none⟩) 16 c17, .bool false, .slice (some ⟨g22, 0, none⟩) 15 c22, .bool true, .slice (cutAt AB cb 1) 14 (cb - 1), .bool false, .slice none 0 0, .bool false, .slice (some ⟨g36, 0, none⟩) 8 c36, .bool true, .slice (some ⟨g46, 0, none⟩) 8 c46, .bool false] hgx
        have hb0 : Below w1.heap.size w1 (w1.alloc (.cells #[.slice AB 15 cb, .bool true, .slice AB 14 cb, .bool false, .slice (some ⟨g12, 0, none⟩) 16 c12, .bool false, .slice (some ⟨g17, 0, none⟩) 16 c17, .bool false, .slice (some ⟨g22, 0, none⟩) 15 c22, .bool true, .slice (cutAt AB cb 1) 14 (cb - 1), .bool false, .slice none 0 0, .bool false, .slice (some ⟨g36, 0, none⟩) 8 c36, .bool true, .slice (some ⟨g46, 0, none⟩) 8 c46, .bool false] 39)) := (Below.refl _ _).alloc (Nat.le_refl _) _
        have hlt : gx < (w1.alloc (.cells #[.slice AB 15 cb, .bool true, .slice AB 14 cb, .bool false, .slice (some ⟨g12, 0, none⟩) 16 c12, .bool false, .slice (some ⟨g17, 0, none⟩) 16 c17, .bool false, .slice (some ⟨g22, 0, none⟩) 15 c22, .bool true, .slice (cutAt AB cb 1) 14 (cb - 1), .bool false, .slice none 0 0, .bool false, .slice (some ⟨g36, 0, none⟩) 8 c36, .bool true, .slice (some ⟨g46, 0, none⟩) 8 c46, .bool false] 39)).heap.size := by rw [World.size_alloc]; omega
        have hbel := hJ.bel.trans (hb0.mono hJ.bel.size)
        rw [hgx]
        refine hK.out _ _ (hJ.put_tab (show 48 < 49 by decide) hn (hJ.all conF conF_ok hl) hl rfl rfl rfl hb0 ⟨gx, rfl, hlt, fun j hj => ?_⟩ (nxF_ne 48 (by decide)))
        generalize w1.alloc (.cells #[.slice AB 15 cb, .bool true, .slice AB 14 cb, .bool false, .slice (some ⟨g12, 0, none⟩) 16 c12, .bool false, .slice (some ⟨g17, 0, none⟩) 16 c17, .bool false, .slice (some ⟨g22, 0, none⟩) 15 c22, .bool true, .slice (cutAt AB cb 1) 14 (cb - 1), .bool false, .slice none 0 0, .bool false, .slice (some ⟨g36, 0, none⟩) 8 c36, .bool true, .slice (some ⟨g46, 0, none⟩) 8 c46, .bool false] 39) = w2 at hbx hb0 hbel
        match j, hj with
        | 0, _ => exact ⟨AB, cb, [5, 5, 0, 0, 0, 0, 0, 1, 1, 1, 1, 0, 0, 0, 0], true, rfl, by have q := World.rangeAt_of_block hbx 0 2; simpa using q, (RB.out.below hbel).fit, HCB.out.1, HCB.out.2⟩
        | 1, _ => exact ⟨AB, cb, [5, 5, 0, 0, 0, 0, 0, 1, 1, 1, 1, 0, 0, 0], false, rfl, by have q := World.rangeAt_of_block hbx 2 2; simpa using q, (R14.out.below hbel).fit, by have := HCB.out; show 14 ≤ cb; omega, HCB.out.2⟩
        | 2, _ => exact ⟨(some ⟨g12, 0, none⟩), c12, [5, 5, 0, 0, 0, 0, 0, 1, 1, 1, 1, 0, 0, 0, 0, 0], false, rfl, by have q := World.rangeAt_of_block hbx 4 2; simpa using q, ((Rd.own_ o12).below hb0).fit, (own_cap o12).1, (own_cap o12).2⟩
        | 3, _ => exact ⟨(some ⟨g17, 0, none⟩), c17, [133, 0, 5, 0, 0, 0, 0, 0, 1, 1, 1, 1, 0, 0, 0, 0], false, rfl, by have q := World.rangeAt_of_block hbx 6 2; simpa using q, ((Rd.own_ o17).below hb0).fit, (own_cap o17).1, (own_cap o17).2⟩
        | 4, _ => exact ⟨(some ⟨g22, 0, none⟩), c22, [6, 5, 0, 0, 0, 0, 0, 1, 1, 1, 1, 0, 0, 0, 0], true, rfl, by have q := World.rangeAt_of_block hbx 8 2; simpa using q, ((Rd.own_ o22).below hb0).fit, (own_cap o22).1, (own_cap o22).2⟩
        | 5, _ => exact ⟨(cutAt AB cb 1), (cb - 1), [5, 0, 0, 0, 0, 0, 1, 1, 1, 1, 0, 0, 0, 0], false, rfl, by have q := World.rangeAt_of_block hbx 10 2; simpa using q, (RD.out.below hbel).fit, by have := HCB.out; show 14 ≤ cb - 1; omega, by have := HCB.out; omega⟩
        | 6, _ => exact ⟨none, 0, [], false, rfl, by have q := World.rangeAt_of_block hbx 12 2; simpa using q, Rd.none_ _ _ _, Nat.le_refl _, by decide⟩
        | 7, _ => exact ⟨(some ⟨g36, 0, none⟩), c36, [5, 5, 0, 0, 0, 0, 0, 0], true, rfl, by have q := World.rangeAt_of_block hbx 14 2; simpa using q, ((Rd.own_ o36).below hb0).fit, (own_cap o36).1, (own_cap o36).2⟩
        | 8, _ => exact ⟨(some ⟨g46, 0, none⟩), c46, [5, 5, 0, 0, 0, 0, 0, 65], false, rfl, by have q := World.rangeAt_of_block hbx 16 2; simpa using q, ((Rd.own_ o46).below hb0).fit, (own_cap o46).1, (own_cap o46).2⟩
      case s49 =>
        intro ac L U w1 hF hev hJ hn hl K hK
        have e48 : ac.tmps[71]?.getD undef = U 71 := ev_tmpC (hev 48 (by decide) 71 rfl)
        go_simp
        exact hK.out _ _ (hJ.put_fin (show 48 < 49 by decide) hn hl (hl 48 (by decide)) rfl rfl rfl (nxF_ne 49 (by decide)))
    case done =>
      intro L U w3 hall hJ
      obtain ⟨_, gx, e71, hgx, hrow⟩ := hJ.tb (hall 48 (by decide))
      have e6 : U 6 = .slice (some ⟨gx, 0, none⟩) 9 9 := ((hJ.fn (hall 49 (by decide))).2).trans e71
      have HRW := Lib.hid hrow
      have HBX := Lib.hid hJ.bel
      have HGX := Lib.hid hgx
      clear hall hJ hrow e71 hgx
      unfold frameF
      rw [e6]
      go_simp
      go_wp2_with fail
      go_meet
      exact ⟨gx, rfl, HRW, HGX, HBX⟩
  case rest =>
    obtain ⟨gx, rfl, HRW, HGX, HBX⟩ := hcut
    rename World => w5
    clear hs14 hs7 hs1 hw14 hw7 RB R14 R7 RD HCB
    have HB5 := Lib.hid (HB2.out.trans (HBX.out.mono HB2.out.size))
    clear HBX HB2
    have a255 := and_255
    obtain ⟨j, hj, hj9⟩ : ∃ j : Nat, (which % 256).tmod 9 = (j : Int) ∧ j < 9 := by
      rw [Int.tmod_eq_emod_of_nonneg (by omega)]
      exact ⟨(which % 256 % 9).toNat, by omega, by omega⟩
    have hj0 : (0 : Int) ≤ (j : Int) := by omega
    have hji : (j : Int) < 9 := by omega
    obtain ⟨A, c, x, bb, ht, hrg, hrd, hc1, hc2⟩ := HRW.out j hj9
    obtain ⟨x', b', ht', hx16, hxb, hxs, hxn⟩ := tblB_at j hj9
    rw [ht] at ht'
    injection ht' with ht'
    injection ht' with e1 e2
    subst e1 e2
    have HRG := Lib.hid hrg
    have HRD := Lib.hid hrd
    have HC := Lib.hid (And.intro hc1 hc2)
    have HX := Lib.hid (And.intro hx16 hxb)
    have HXS := Lib.hid hxs
    have HXN := Lib.hid hxn
    clear hrg hrd hc1 hc2 hx16 hxb hxs hxn ht HRW
    go_upto_region 8 with (first
      | (refine wpList_load_mid rfl 39 (.tmp 78) rfl gx (j * 2) rfl [.slice A x.length c, .bool bb] _ HRG.out Try.underlying39 rfl (by kernel_rfl) ?_)
      | (refine wpList_store_row rfl 39 (.tmp 7) (.tmp 79) rfl w5.heap.size #[.slice A x.length c, .bool bb] rfl rfl 39 #[.slice none 0 0, .bool false] (Blk.new w5 39 #[.slice none 0 0, .bool false]) (by kernel_rfl) rfl (by kernel_rfl) ?_)
      | fail)
    obtain ⟨g7, w6, hgE, hwE, hbE, hkE⟩ := boxed w5 #[.slice none 0 0, .bool false] #[.slice A x.length c, .bool bb] 39
    rw [hgE, hwE]
    have HBx := Lib.hid hbE
    have HK6 := Lib.hid hkE
    clear hgE hwE hbE hkE
    have HR6 := Lib.hid ((HRD.out.below HBx.out).fit)
    have HB6 := Lib.hid (HB5.out.trans (HBx.out.mono HB5.out.size))
    clear HBx HB5 HRD HRG
    have x0 : w6.cell? ⟨g7, 0, none⟩ = some (.slice A x.length c) := HK6.out.cell 0
    have CF0 := refFour (W := w) (c := c) HX.out.2 (by have := HX.out.1; omega) HR6.out HB6.out
    have hyl : (Fr.lay x).length ≤ 100000 := by have := Fr.lay_len x; have := HX.out.1; omega
    have hyb : ∀ y ∈ Fr.lay x, y < 256 := fun y hy => by unfold Fr.lay at hy; exact (List.mem_append.1 hy).elim (fun h => Fr.four_lt _ y h) (fun h => HX.out.2 y h)
    obtain ⟨Y, hY⟩ : ∃ Y, Fr.lay x = Y := ⟨_, rfl⟩
    obtain ⟨R, hR⟩ : ∃ R, Sb.dec Y = R := ⟨_, rfl⟩
    obtain ⟨RM, hRM⟩ : ∃ M, R.getD Sb.zero = M := ⟨_, rfl⟩
    rw [show Fr.four (Crc.sum x) ++ x = Y from hY] at CF0
    rw [hY] at hyl hyb HXS
    rw [hR] at HXS
    have CF := Lib.hid CF0
    have HDY := Lib.hid hR
    have HRM := Lib.hid hRM
    have HY := Lib.hid (And.intro hyl hyb)
    clear CF0 hyl hyb hY hR hRM
    go_upto_region 9 with (first
      | (go_at_call 6; refine (CF.out).mono ?_; rintro en w7 ⟨A7, c7, rfl, ho, hB, hb⟩
         have HO7 := Lib.hid (ho)
         have HB7 := Lib.hid (hB)
         have HK7 := Lib.hid (HK6.out.below hb)
         have HR7 := Lib.hid ((HR6.out.below hb).fit)
         clear ho hB hb)
      | (go_at_call 5; refine (decode15 (W := w) HDY.out HY.out.1 HY.out.2 (own_cap HO7.out) (Rd.own_ HO7.out) HB7.out).mono ?_; rintro en w8 ⟨a8, rfl, ho, hB, hb⟩
         unfold stateV
         rw [HRM.out, HXS.out]
         have HB8 := Lib.hid (hB)
         have HK8 := Lib.hid (HK7.out.below hb)
         have HR8 := Lib.hid ((HR7.out.below hb).fit)
         clear ho hB hb)
      | (refine wpList_store_row rfl 37 (.tmp 8) (.tmp 85) rfl w8.heap.size (stateC a8 RM) rfl rfl 37 #[.int .i64 0, .slice none 0 0, .slice none 0 0, .slice none 0 0, .slice none 0 0, .slice none 0 0, .slice none 0 0] (Blk.new w8 37 #[.int .i64 0, .slice none 0 0, .slice none 0 0, .slice none 0 0, .slice none 0 0, .slice none 0 0, .slice none 0 0]) (by kernel_rfl) rfl (by kernel_rfl) ?_)
      | fail)
    obtain ⟨g8, w9, hgE, hwE, hbE, hkE⟩ := boxed w8 #[.int .i64 0, .slice none 0 0, .slice none 0 0, .slice none 0 0, .slice none 0 0, .slice none 0 0, .slice none 0 0] (stateC a8 RM) 37
    rw [hgE, hwE]
    have HBx := Lib.hid hbE
    have HKs := Lib.hid hkE
    clear hgE hwE hbE hkE
    have HR9 := Lib.hid ((HR8.out.below HBx.out).fit)
    have HB9 := Lib.hid (HB8.out.trans (HBx.out.mono HB8.out.size))
    have HK9 := Lib.hid (HK8.out.below HBx.out)
    clear HBx HB8 HR8 HK8 HKs HB7 HO7 HR7 HK7 HB6 HR6 HK6 x0
    have x0 : w9.cell? ⟨g7, 0, none⟩ = some (.slice A x.length c) := HK9.out.cell 0
    go_upto_region 10 with (first
      | (go_at_call 5; refine (decode15 (W := w) HXN.out (by have := HX.out.1; omega) HX.out.2 HC.out HR9.out HB9.out).mono ?_; rintro en wa ⟨aa, rfl, ho, hB, hb⟩
         unfold stateV
         have HBa := Lib.hid (hB)
         have HKa := Lib.hid (HK9.out.below hb)
         clear ho hB hb)
      | (refine wpList_store_row rfl 37 (.tmp 10) (.tmp 91) rfl wa.heap.size (stateC aa Sb.zero) rfl rfl 37 #[.int .i64 0, .slice none 0 0, .slice none 0 0, .slice none 0 0, .slice none 0 0, .slice none 0 0, .slice none 0 0] (Blk.new wa 37 #[.int .i64 0, .slice none 0 0, .slice none 0 0, .slice none 0 0, .slice none 0 0, .slice none 0 0, .slice none 0 0]) (by kernel_rfl) rfl (by kernel_rfl) ?_)
      | fail)
    obtain ⟨g10, wb, hgE, hwE, hbE, hkE⟩ := boxed wa #[.int .i64 0, .slice none 0 0, .slice none 0 0, .slice none 0 0, .slice none 0 0, .slice none 0 0, .slice none 0 0] (stateC aa Sb.zero) 37
    rw [hgE, hwE]
    have HBx := Lib.hid hbE
    have HKt := Lib.hid hkE
    clear hgE hwE hbE hkE
    have HBb := Lib.hid (HBa.out.trans (HBx.out.mono HBa.out.size))
    have HKb := Lib.hid (HKa.out.below HBx.out)
    clear HBx HBa HKa HKt x0 HB9 HR9 HK9
    have x1 : wb.cell? ⟨g7, 1, none⟩ = some (.bool bb) := HKb.out.cell 1
    have hbb : (bb == bb) = true := by simp
    go_wp2_with (first
      | (go_at_call 7; refine (blobAwake _).mono ?_; rintro e wz ⟨rfl, hBz⟩
         have HBz := Lib.hid (HBb.out.trans (hBz.mono HBb.out.size))
         clear hBz)
      | fail)
    go_ret
    exact ⟨rfl, HBz.out⟩
theorem blobForms_walk (a0 : Int) (w : World) (w0 : (Lit.int .i64 a0).wf = true) : Calls Try.prog 3 #[.int .i64 a0] w fun e w' => e = .returned (.bool true) ∧ Below w.heap.size w w' := blobForms_raw w a0
end Go.Proofs.Ytmekamgohonffaa

