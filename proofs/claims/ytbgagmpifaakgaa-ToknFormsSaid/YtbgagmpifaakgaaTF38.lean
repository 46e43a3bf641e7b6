/- TknFirst2 -/
import Derived.Test.YtbgagmpifaakgaaTF37
namespace Go.Proofs.Ytbgagmpifaakgaa
open Go.RowKit
set_option linter.unusedVariables false
set_option maxHeartbeats 2000000 in
set_option maxRecDepth 100000 in
theorem first17 (w : World) (view n len : Int) : Calls Try.prog 14 #[.int .i64 view, .int .i64 n, .int .i64 len] w (GotMs w w (Tk.first view n len)) := by
  obtain ⟨k, hk, hk1, hk7⟩ : ∃ k : Nat, Tk.held n 1 7 = (k : Int) ∧ 1 ≤ k ∧ k ≤ 7 := ⟨(Tk.held n 1 7).toNat, by unfold Tk.held; omega, by unfold Tk.held; omega, by unfold Tk.held; omega⟩
  have HE : Hid (Tk.first view n len = { Mg.zero with kind := 7, view := view, hop := 1, seq := len, hav := List.replicate k len }) := Lib.hid (by unfold Tk.first; rw [hk]; rfl)
  obtain ⟨g, hg⟩ : ∃ g, w.heap.size = g := ⟨_, rfl⟩
  obtain ⟨wx, hwx⟩ : ∃ wx, w.alloc (.cells msgZ 29) = wx := ⟨_, rfl⟩
  have hbb : Below w.heap.size w wx := by rw [← hwx]; exact (Below.refl _ _).alloc (Nat.le_refl _) _
  have k1 : Blk wx g 29 msgZ := by rw [← hwx, ← hg]; exact Blk.new _ _ _
  have HB := Lib.hid hbb
  have HWX := Lib.hid hwx
  have HG := Lib.hid hg
  have HK := Lib.hid k1
  have CH := Lib.hid (fun wz => held17 wz n 1 7)
  have HKK := Lib.hid (And.intro hk1 hk7)
  rw [hk] at CH
  unfold msgZ at HWX
  clear hbb k1 hwx hg hk hk1 hk7
  go_enter Try.func14, Try.ntmps14
  go_upto_region 1 with fail
  rw [HG.out, HWX.out]
  clear HWX
  go_wp2_with (first
    | (go_at_call 16; refine (CH.out _).mono ?_; rintro e w2 ⟨rfl, hw2⟩; rw [hw2]; clear hw2)
    | (go_at_call 22; refine (repeat17 (k := k) (c := 1) len (Rd.oneV _ _ _) HKK.out.1 HKK.out.2).mono ?_; rintro e w3 ⟨A1, c1, rfl, ho3, hB3, hb3⟩
       have HO3 := Lib.hid (own_of (W := w) (by simp; exact Nat.le_trans HB.out.size (Nat.le_succ _)) ho3)
       have HB3 := Lib.hid ((HB.out.alloc HB.out.size _).trans (hB3.mono (by simp; exact Nat.le_trans HB.out.size (Nat.le_succ _))))
       have HK3 := Lib.hid ((HK.out.alloc _).below hB3)
       rw [List.length_replicate] at HO3 ⊢
       clear ho3 hB3 hb3)
    | (refine wpList_store_row rfl 29 (.tmp 6) (.tmp 16) rfl g #[.int .i64 7, .int .i64 0, .int .i64 0, .int .i64 view, .int .i64 0, .int .i64 0, .bool false, .int .i64 0, .int .i64 0, .int .i64 0, .int .i64 0, .slice none 0 0, .int .i64 1, .int .i64 len, .slice A1 k c1, .slice none 0 0, .int .i64 0, .int .i64 0, .int .i64 0, .int .i64 0, .int .i64 0, .slice none 0 0, .slice none 0 0, .slice none 0 0] rfl rfl 29 msgZ HK3.out (by kernel_rfl) rfl (by kernel_rfl) ?_)
    | fail)
  refine bodyPost_ret (results_cell_row rfl _ _ _ _ _ _ _ rfl (Blk.row HK3.out #[.int .i64 7, .int .i64 0, .int .i64 0, .int .i64 view, .int .i64 0, .int .i64 0, .bool false, .int .i64 0, .int .i64 0, .int .i64 0, .int .i64 0, .slice none 0 0, .int .i64 1, .int .i64 len, .slice A1 k c1, .slice none 0 0, .int .i64 0, .int .i64 0, .int .i64 0, .int .i64 0, .int .i64 0, .slice none 0 0, .slice none 0 0, .slice none 0 0]) Try.underlying29 rfl (by kernel_rfl)) rfl ?_
  have h3 := below_setRow HB3.out (show w.heap.size ≤ g by have := HG.out; omega) #[.int .i64 7, .int .i64 0, .int .i64 0, .int .i64 view, .int .i64 0, .int .i64 0, .bool false, .int .i64 0, .int .i64 0, .int .i64 0, .int .i64 0, .slice none 0 0, .int .i64 1, .int .i64 len, .slice A1 k c1, .slice none 0 0, .int .i64 0, .int .i64 0, .int .i64 0, .int .i64 0, .int .i64 0, .slice none 0 0, .slice none 0 0, .slice none 0 0]
  rw [HE.out]
  refine ⟨⟨none, 0, A1, c1, none, 0, CA.zero⟩, ?_, ⟨own_nil _ _, ?_, ownI_nil _ _, OwnC.zero _ _⟩, h3, h3⟩
  · unfold msgV msgC; rw [List.length_replicate]; rfl
  · show OwnI w _ A1 (List.replicate k len).length c1 (List.replicate k len)
    rw [List.length_replicate]; exact own_row_t HO3.out HK3.out (by decide)
end Go.Proofs.Ytbgagmpifaakgaa

