/- ViewAwake -/
import Derived.Test.YtjindkeojhihdaaVT22
import Derived.Test.YtjindkeojhihdaaVT24
import Derived.Test.YtjindkeojhihdaaVT25
import Derived.OwnWalk
import Derived.WalkLawsBesides
import Derived.WalkSpells
namespace Go.Proofs.Ytjindkeojhihdaa
open Go.RowKit
set_option linter.unusedVariables false
def lawL : List (List Value) := [stC 2 0 8 5 false, stC 2 1 8 3 true, stC 2 2 0 9 true]
set_option maxHeartbeats 2000000 in
set_option maxRecDepth 100000 in
theorem awake14 : AwakeC14 := by
  intro w
  go_enter Try.func9, Try.ntmps9
  go_upto_region 2 with (first
    | (refine wpList_buildV rfl 3 #[(0, .tmp 10), (1, .tmp 11), (2, .tmp 12)] rfl lawL (by intro cs hc; unfold lawL at hc; simp at hc; rcases hc with rfl | rfl | rfl <;> rfl) rfl (by decide) (by decide) rfl ?_)
    | fail)
  generalize hw1 : w.alloc (.cells _ 29) = w1
  have hL : RdV w1 (w.heap.size + 1) (some ⟨w.heap.size, 0, none⟩) 3 lawL := by rw [← hw1]; exact litV w lawL (by intro cs hc; unfold lawL at hc; simp at hc; rcases hc with rfl | rfl | rfl <;> exact stC_ms (by decide))
  have hs1 : w1.heap.size = w.heap.size + 1 := by rw [← hw1]; simp
  rw [← hs1] at hL
  have HB1 : Hid (Below w.heap.size w w1) := Lib.hid (by rw [← hw1]; exact (Below.refl _ _).alloc (Nat.le_refl _) _)
  obtain ⟨g, hg⟩ : ∃ g, w.heap.size = g := ⟨_, rfl⟩
  rw [hg] at hL ⊢
  have HL := Lib.hid hL
  clear hL hs1 hw1 hg
  go_wp2_with fail
  refine (choose14 (es := lawL) (r := (7, 1, 3, true)) 5 (by kernel_rfl) ⟨by decide, by decide⟩ (by decide) HL.out).mono ?_
  unfold chV
  simp only
  rintro e w2 ⟨rfl, hb⟩
  have HB2 := Lib.hid (HB1.out.trans (hb.mono HB1.out.size))
  have HL2 := Lib.hid (HL.out.below hb)
  clear HB1 HL hb
  go_wp2_with fail
  refine (choose14 (es := lawL.take 2) (r := (0, 0, 0, false)) 5 (by kernel_rfl) ⟨by decide, by decide⟩ (by decide) (HL2.out.take (by decide))).mono ?_
  unfold chV
  simp only
  rintro e w3 ⟨rfl, hb⟩
  have HB3 := Lib.hid (HB2.out.trans (hb.mono HB2.out.size))
  clear HB2 HL2 hb
  go_wp2_with fail
  refine (next14 w3 0 3 ⟨by decide, by decide⟩ ⟨by decide, by decide⟩).mono ?_
  rw [show Vw.next 0 3 = 11 by decide]
  rintro e w4 ⟨rfl, hb⟩
  have HB4 := Lib.hid (HB3.out.trans (hb.mono HB3.out.size))
  clear HB3 hb
  go_wp2_with fail
  refine (next14 w4 11 2 ⟨by decide, by decide⟩ ⟨by decide, by decide⟩).mono ?_
  rw [show Vw.next 11 2 = 18 by decide]
  rintro e w5 ⟨rfl, hb⟩
  have HB5 := Lib.hid (HB4.out.trans (hb.mono HB4.out.size))
  clear HB4 hb
  go_wp2_with fail
  refine (who14 w5 18 ⟨by decide, by decide⟩).mono ?_
  rw [show Vw.who 18 = 2 by decide]
  rintro e w6 ⟨rfl, hb⟩
  have HB6 := Lib.hid (HB5.out.trans (hb.mono HB5.out.size))
  clear HB5 hb
  go_wp2_with fail
  refine (members14 w6 11 ⟨by decide, by decide⟩).mono ?_
  rw [show Vw.mem 11 = [0, 1, 3] by decide]
  rintro e w7 ⟨A7, c7, rfl, ho, _, hb⟩
  have HO7 := Lib.hid ho
  have HB7 := Lib.hid (HB6.out.trans (hb.mono HB6.out.size))
  clear HB6 hb ho
  go_wp2_with fail
  refine (same_any _ A7 (some ⟨w7.heap.size, 0, none⟩) 3 c7 3 3 (w7.heap.size) (w7.heap.size + 1) [0, 1, 3] [0, 1, 3] ((Rd.own_ HO7.out).alloc (Nat.le_refl _) _) (Rd.made w7 #[.int .i64 0, .int .i64 1, .int .i64 3] 3 (0, 0) 3 rfl) (by decide) (by decide)).mono ?_
  rw [show decide (([0, 1, 3] : List Int) = [0, 1, 3]) = true by decide]
  rintro e w8 ⟨rfl, k8, hw8⟩
  have HB8 : Hid (Below w.heap.size w w8) := Lib.hid (by rw [hw8]; exact (HB7.out.alloc HB7.out.size _).trans ⟨rfl, rfl, rfl, Nat.le_refl _, fun _ _ => rfl⟩)
  clear hw8 HB7 HO7
  go_wp2_with fail
  refine (most14' w8 3 4 ⟨by decide, by decide⟩ ⟨by decide, by decide⟩).mono ?_
  rw [show Vw.most 3 4 = false by decide]
  rintro e w9 ⟨rfl, hb⟩
  have HB9 := Lib.hid (HB8.out.trans (hb.mono HB8.out.size))
  clear HB8 hb
  go_wp2_with fail
  refine (most14' w9 7 5 ⟨by decide, by decide⟩ ⟨by decide, by decide⟩).mono ?_
  rw [show Vw.most 7 5 = true by decide]
  rintro e w10 ⟨rfl, hb⟩
  have HB10 := Lib.hid (HB9.out.trans (hb.mono HB9.out.size))
  clear HB9 hb
  go_wp2_with fail
  refine (after14 w10 11 1 ⟨by decide, by decide⟩ ⟨by decide, by decide⟩).mono ?_
  rw [show Vw.after 11 1 = 3 by decide]
  rintro e w11 ⟨rfl, hb⟩
  have HB11 := Lib.hid (HB10.out.trans (hb.mono HB10.out.size))
  clear HB10 hb
  go_wp2_with fail
  refine (after14 w11 11 3 ⟨by decide, by decide⟩ ⟨by decide, by decide⟩).mono ?_
  rw [show Vw.after 11 3 = 0 by decide]
  rintro e w12 ⟨rfl, hb⟩
  have HB12 := Lib.hid (HB11.out.trans (hb.mono HB11.out.size))
  clear HB11 hb
  go_wp2_with fail
  refine (after14 w12 0 0 ⟨by decide, by decide⟩ ⟨by decide, by decide⟩).mono ?_
  rw [show Vw.after 0 0 = -1 by decide]
  rintro e w13 ⟨rfl, hb⟩
  have HB13 := Lib.hid (HB12.out.trans (hb.mono HB12.out.size))
  clear HB12 hb
  go_wp2_with fail
  refine (limit14 w13 1 ⟨by decide, by decide⟩).mono ?_
  rw [show Vw.limit 1 = 440 by decide]
  rintro e w14 ⟨rfl, hb⟩
  have HB14 := Lib.hid (HB13.out.trans (hb.mono HB13.out.size))
  clear HB13 hb
  go_wp2_with fail
  go_ret
  exact ⟨rfl, HB14.out⟩
end Go.Proofs.Ytjindkeojhihdaa

