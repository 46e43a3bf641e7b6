/- MesgMsg -/
import Derived.Test.YtneehnoolhadbaaGP51
namespace Go.Proofs.Ytneehnoolhadbaa
open Go.RowKit
set_option linter.unusedVariables false
set_option maxHeartbeats 8000000 in
set_option maxRecDepth 100000 in
theorem msg_any (n m : Int) (w : World) : Calls Try.prog 20 #[.int .i64 n, .int .i64 m] w fun e w' => ∃ a, e = .returned (msgV a (mgOf n m)) ∧ RdG w' w'.heap.size a (mgOf n m) ∧ Below w.heap.size w w' := by
  have a1 := and_1
  have a7 := and_7
  have a15 := and_15
  have a63 := and_63
  have a127 := and_127
  have a255 := and_255
  have a1023 : ∀ n : Int, bits .and .i64 n 1023 = n % 1024 := fun n => by simpa using and_mask n 10 (by omega)
  have a4095 : ∀ n : Int, bits .and .i64 n 4095 = n % 4096 := fun n => by simpa using and_mask n 12 (by omega)
  have hz0 : Blk ((w.alloc (.cells #[.int .i64 0, .int .i64 0, .int .i64 0, .int .i64 0, .int .i64 0, .int .i64 0, .bool false, .int .i64 0, .int .i64 0, .int .i64 0, .int .i64 0, .slice none 0 0, .int .i64 0, .int .i64 0, .slice none 0 0, .slice none 0 0, .int .i64 0, .int .i64 0, .int .i64 0, .int .i64 0, .int .i64 0, .slice none 0 0, .slice none 0 0, .slice none 0 0] 31)).alloc (.cells #[.int .i64 0, .int .i64 0, .int .i64 0, .int .i64 0, .int .i64 0, .int .i64 0, .bool false, .int .i64 0, .int .i64 0, .int .i64 0, .int .i64 0, .slice none 0 0, .int .i64 0, .int .i64 0, .slice none 0 0, .slice none 0 0, .int .i64 0, .int .i64 0, .int .i64 0, .int .i64 0, .int .i64 0, .slice none 0 0, .slice none 0 0, .slice none 0 0] 31)) (w.heap.size + 1) 31 #[.int .i64 0, .int .i64 0, .int .i64 0, .int .i64 0, .int .i64 0, .int .i64 0, .bool false, .int .i64 0, .int .i64 0, .int .i64 0, .int .i64 0, .slice none 0 0, .int .i64 0, .int .i64 0, .slice none 0 0, .slice none 0 0, .int .i64 0, .int .i64 0, .int .i64 0, .int .i64 0, .int .i64 0, .slice none 0 0, .slice none 0 0, .slice none 0 0] := by
    have := Blk.new (w.alloc (.cells #[.int .i64 0, .int .i64 0, .int .i64 0, .int .i64 0, .int .i64 0, .int .i64 0, .bool false, .int .i64 0, .int .i64 0, .int .i64 0, .int .i64 0, .slice none 0 0, .int .i64 0, .int .i64 0, .slice none 0 0, .slice none 0 0, .int .i64 0, .int .i64 0, .int .i64 0, .int .i64 0, .int .i64 0, .slice none 0 0, .slice none 0 0, .slice none 0 0] 31)) 31 #[.int .i64 0, .int .i64 0, .int .i64 0, .int .i64 0, .int .i64 0, .int .i64 0, .bool false, .int .i64 0, .int .i64 0, .int .i64 0, .int .i64 0, .slice none 0 0, .int .i64 0, .int .i64 0, .slice none 0 0, .slice none 0 0, .int .i64 0, .int .i64 0, .int .i64 0, .int .i64 0, .int .i64 0, .slice none 0 0, .slice none 0 0, .slice none 0 0]
    rwa [World.size_alloc] at this
  have hr0 : Blk ((w.alloc (.cells #[.int .i64 0, .int .i64 0, .int .i64 0, .int .i64 0, .int .i64 0, .int .i64 0, .bool false, .int .i64 0, .int .i64 0, .int .i64 0, .int .i64 0, .slice none 0 0, .int .i64 0, .int .i64 0, .slice none 0 0, .slice none 0 0, .int .i64 0, .int .i64 0, .int .i64 0, .int .i64 0, .int .i64 0, .slice none 0 0, .slice none 0 0, .slice none 0 0] 31)).alloc (.cells #[.int .i64 0, .int .i64 0, .int .i64 0, .int .i64 0, .int .i64 0, .int .i64 0, .bool false, .int .i64 0, .int .i64 0, .int .i64 0, .int .i64 0, .slice none 0 0, .int .i64 0, .int .i64 0, .slice none 0 0, .slice none 0 0, .int .i64 0, .int .i64 0, .int .i64 0, .int .i64 0, .int .i64 0, .slice none 0 0, .slice none 0 0, .slice none 0 0] 31)) w.heap.size 31 msgZ := (Blk.new _ _ _).alloc _
  have hb0 : Below w.heap.size w ((w.alloc (.cells #[.int .i64 0, .int .i64 0, .int .i64 0, .int .i64 0, .int .i64 0, .int .i64 0, .bool false, .int .i64 0, .int .i64 0, .int .i64 0, .int .i64 0, .slice none 0 0, .int .i64 0, .int .i64 0, .slice none 0 0, .slice none 0 0, .int .i64 0, .int .i64 0, .int .i64 0, .int .i64 0, .int .i64 0, .slice none 0 0, .slice none 0 0, .slice none 0 0] 31)).alloc (.cells #[.int .i64 0, .int .i64 0, .int .i64 0, .int .i64 0, .int .i64 0, .int .i64 0, .bool false, .int .i64 0, .int .i64 0, .int .i64 0, .int .i64 0, .slice none 0 0, .int .i64 0, .int .i64 0, .slice none 0 0, .slice none 0 0, .int .i64 0, .int .i64 0, .int .i64 0, .int .i64 0, .int .i64 0, .slice none 0 0, .slice none 0 0, .slice none 0 0] 31)) := ((Below.refl _ _).alloc (Nat.le_refl _) _).alloc (by rw [World.size_alloc]; omega) _
  have hs0 : MsSt w (((w.alloc (.cells #[.int .i64 0, .int .i64 0, .int .i64 0, .int .i64 0, .int .i64 0, .int .i64 0, .bool false, .int .i64 0, .int .i64 0, .int .i64 0, .int .i64 0, .slice none 0 0, .int .i64 0, .int .i64 0, .slice none 0 0, .slice none 0 0, .int .i64 0, .int .i64 0, .int .i64 0, .int .i64 0, .int .i64 0, .slice none 0 0, .slice none 0 0, .slice none 0 0] 31)).alloc (.cells #[.int .i64 0, .int .i64 0, .int .i64 0, .int .i64 0, .int .i64 0, .int .i64 0, .bool false, .int .i64 0, .int .i64 0, .int .i64 0, .int .i64 0, .slice none 0 0, .int .i64 0, .int .i64 0, .slice none 0 0, .slice none 0 0, .int .i64 0, .int .i64 0, .int .i64 0, .int .i64 0, .int .i64 0, .slice none 0 0, .slice none 0 0, .slice none 0 0] 31)).setRow (w.heap.size + 1) #[.int .i64 (n % 8 + 1), .int .i64 (n / 8 % 8 % 7), .int .i64 (n / 64 % 8 % 7), .int .i64 (n / 512 % 1024), .int .i64 0, .int .i64 0, .bool false, .int .i64 0, .int .i64 0, .int .i64 0, .int .i64 0, .slice none 0 0, .int .i64 0, .int .i64 0, .slice none 0 0, .slice none 0 0, .int .i64 0, .int .i64 0, .int .i64 0, .int .i64 0, .int .i64 0, .slice none 0 0, .slice none 0 0, .slice none 0 0]) w.heap.size #[.int .i64 (n % 8 + 1), .int .i64 (n / 8 % 8 % 7), .int .i64 (n / 64 % 8 % 7), .int .i64 (n / 512 % 1024), .int .i64 0, .int .i64 0, .bool false, .int .i64 0, .int .i64 0, .int .i64 0, .int .i64 0, .slice none 0 0, .int .i64 0, .int .i64 0, .slice none 0 0, .slice none 0 0, .int .i64 0, .int .i64 0, .int .i64 0, .int .i64 0, .int .i64 0, .slice none 0 0, .slice none 0 0, .slice none 0 0] := ⟨hr0.row_other (by omega) _, hz0.row _, below_setRow hb0 (by omega) _, rfl⟩
  have HZ := Lib.hid hz0
  clear hz0 hr0 hb0
  go_enter Try.func20, Try.ntmps20
  go_upto_region 2 with (first
    | (refine wpList_store_row rfl 31 (.tmp 5) (.tmp 23) rfl (w.heap.size + 1) #[.int .i64 (n % 8 + 1), .int .i64 (n / 8 % 8 % 7), .int .i64 (n / 64 % 8 % 7), .int .i64 (n / 512 % 1024), .int .i64 0, .int .i64 0, .bool false, .int .i64 0, .int .i64 0, .int .i64 0, .int .i64 0, .slice none 0 0, .int .i64 0, .int .i64 0, .slice none 0 0, .slice none 0 0, .int .i64 0, .int .i64 0, .int .i64 0, .int .i64 0, .int .i64 0, .slice none 0 0, .slice none 0 0, .slice none 0 0] rfl rfl 31 #[.int .i64 0, .int .i64 0, .int .i64 0, .int .i64 0, .int .i64 0, .int .i64 0, .bool false, .int .i64 0, .int .i64 0, .int .i64 0, .int .i64 0, .slice none 0 0, .int .i64 0, .int .i64 0, .slice none 0 0, .slice none 0 0, .int .i64 0, .int .i64 0, .int .i64 0, .int .i64 0, .int .i64 0, .slice none 0 0, .slice none 0 0, .slice none 0 0] HZ.out (by kernel_rfl) rfl (by kernel_rfl) ?_)
    | fail)
  clear HZ
  obtain ⟨g, hg⟩ : ∃ g, w.heap.size = g := ⟨_, rfl⟩
  generalize ((w.alloc (.cells #[.int .i64 0, .int .i64 0, .int .i64 0, .int .i64 0, .int .i64 0, .int .i64 0, .bool false, .int .i64 0, .int .i64 0, .int .i64 0, .int .i64 0, .slice none 0 0, .int .i64 0, .int .i64 0, .slice none 0 0, .slice none 0 0, .int .i64 0, .int .i64 0, .int .i64 0, .int .i64 0, .int .i64 0, .slice none 0 0, .slice none 0 0, .slice none 0 0] 31)).alloc (.cells #[.int .i64 0, .int .i64 0, .int .i64 0, .int .i64 0, .int .i64 0, .int .i64 0, .bool false, .int .i64 0, .int .i64 0, .int .i64 0, .int .i64 0, .slice none 0 0, .int .i64 0, .int .i64 0, .slice none 0 0, .slice none 0 0, .int .i64 0, .int .i64 0, .int .i64 0, .int .i64 0, .int .i64 0, .slice none 0 0, .slice none 0 0, .slice none 0 0] 31)).setRow (w.heap.size + 1) #[.int .i64 (n % 8 + 1), .int .i64 (n / 8 % 8 % 7), .int .i64 (n / 64 % 8 % 7), .int .i64 (n / 512 % 1024), .int .i64 0, .int .i64 0, .bool false, .int .i64 0, .int .i64 0, .int .i64 0, .int .i64 0, .slice none 0 0, .int .i64 0, .int .i64 0, .slice none 0 0, .slice none 0 0, .int .i64 0, .int .i64 0, .int .i64 0, .int .i64 0, .int .i64 0, .slice none 0 0, .slice none 0 0, .slice none 0 0] = wx at hs0 ⊢
  rw [hg] at hs0 ⊢
  obtain ⟨kk, hkk⟩ : ∃ kk, n % 8 + 1 = kk := ⟨_, rfl⟩
  have hk1 : 1 ≤ kk ∧ kk ≤ 8 := by omega
  rw [hkk] at hs0
  have HS := Lib.hid hs0
  have HG := Lib.hid hg
  have HKK := Lib.hid hkk
  clear hs0 hg hkk
  by_cases c2 : kk = 2
  · have r2 : (kk == 2) = true := by rw [beq_iff_eq]; omega
    have HCK := Lib.hid c2
    clear c2
    have x0 : wx.cell? ⟨g + 1, 0, none⟩ = some (.int .i64 kk) := HS.out.blk.cell 0
    go_upto_region 4 with fail
    clear x0
    have x4 : wx.cell? ⟨g + 1, 4, none⟩ = some (.int .i64 0) := HS.out.blk.cell 4
    have f4 := HS.out.blk.frozen 4
    have x5 : wx.cell? ⟨g + 1, 5, none⟩ = some (.int .i64 0) := HS.out.blk.cell 5
    have f5 := HS.out.blk.frozen 5
    have x6 : wx.cell? ⟨g + 1, 6, none⟩ = some (.bool false) := HS.out.blk.cell 6
    have f6 := HS.out.blk.frozen 6
    go_upto_region 28 with fail
    have HS : Hid (MsSt w (((wx.setCell ⟨g + 1, 4, none⟩ (.int .i64 (m % 256))).setCell ⟨g + 1, 5, none⟩ (.int .i64 (m / 256 % 64))).setCell ⟨g + 1, 6, none⟩ (.bool (m / 16384 % 2 == 1))) g #[.int .i64 kk, .int .i64 (n / 8 % 8 % 7), .int .i64 (n / 64 % 8 % 7), .int .i64 (n / 512 % 1024), .int .i64 (m % 256), .int .i64 (m / 256 % 64), .bool (m / 16384 % 2 == 1), .int .i64 0, .int .i64 0, .int .i64 0, .int .i64 0, .slice none 0 0, .int .i64 0, .int .i64 0, .slice none 0 0, .slice none 0 0, .int .i64 0, .int .i64 0, .int .i64 0, .int .i64 0, .int .i64 0, .slice none 0 0, .slice none 0 0, .slice none 0 0]) := Lib.hid (((HS.out.put 4 (.int .i64 (m % 256))).put 5 (.int .i64 (m / 256 % 64))).put 6 (.bool (m / 16384 % 2 == 1)))
    clear x4 f4 x5 f5 x6 f6
    generalize (((wx.setCell ⟨g + 1, 4, none⟩ (.int .i64 (m % 256))).setCell ⟨g + 1, 5, none⟩ (.int .i64 (m / 256 % 64))).setCell ⟨g + 1, 6, none⟩ (.bool (m / 16384 % 2 == 1))) = wy at HS ⊢
    go_wp2_with (first
      | (refine wpList_load_row rfl 31 (.tmp 5) rfl (g + 1) rfl 31 #[.int .i64 kk, .int .i64 (n / 8 % 8 % 7), .int .i64 (n / 64 % 8 % 7), .int .i64 (n / 512 % 1024), .int .i64 (m % 256), .int .i64 (m / 256 % 64), .bool (m / 16384 % 2 == 1), .int .i64 0, .int .i64 0, .int .i64 0, .int .i64 0, .slice none 0 0, .int .i64 0, .int .i64 0, .slice none 0 0, .slice none 0 0, .int .i64 0, .int .i64 0, .int .i64 0, .int .i64 0, .int .i64 0, .slice none 0 0, .slice none 0 0, .slice none 0 0] (0, 0) _ HS.out.blk Try.underlying31 rfl (by kernel_rfl) ?_)
      | (refine wpList_store_row rfl 31 (.tmp 4) (.tmp 149) rfl g #[.int .i64 kk, .int .i64 (n / 8 % 8 % 7), .int .i64 (n / 64 % 8 % 7), .int .i64 (n / 512 % 1024), .int .i64 (m % 256), .int .i64 (m / 256 % 64), .bool (m / 16384 % 2 == 1), .int .i64 0, .int .i64 0, .int .i64 0, .int .i64 0, .slice none 0 0, .int .i64 0, .int .i64 0, .slice none 0 0, .slice none 0 0, .int .i64 0, .int .i64 0, .int .i64 0, .int .i64 0, .int .i64 0, .slice none 0 0, .slice none 0 0, .slice none 0 0] rfl rfl 31 msgZ HS.out.res (by kernel_rfl) rfl (by kernel_rfl) ?_)
      | fail)
    have hbelE : Below w.heap.size w (wy.setRow g #[.int .i64 kk, .int .i64 (n / 8 % 8 % 7), .int .i64 (n / 64 % 8 % 7), .int .i64 (n / 512 % 1024), .int .i64 (m % 256), .int .i64 (m / 256 % 64), .bool (m / 16384 % 2 == 1), .int .i64 0, .int .i64 0, .int .i64 0, .int .i64 0, .slice none 0 0, .int .i64 0, .int .i64 0, .slice none 0 0, .slice none 0 0, .int .i64 0, .int .i64 0, .int .i64 0, .int .i64 0, .int .i64 0, .slice none 0 0, .slice none 0 0, .slice none 0 0]) := below_setRow HS.out.bel (by rw [HS.out.hg]; exact Nat.le_refl _) _
    refine bodyPost_ret (results_cell_row rfl _ _ _ _ _ _ _ rfl (HS.out.res.row #[.int .i64 kk, .int .i64 (n / 8 % 8 % 7), .int .i64 (n / 64 % 8 % 7), .int .i64 (n / 512 % 1024), .int .i64 (m % 256), .int .i64 (m / 256 % 64), .bool (m / 16384 % 2 == 1), .int .i64 0, .int .i64 0, .int .i64 0, .int .i64 0, .slice none 0 0, .int .i64 0, .int .i64 0, .slice none 0 0, .slice none 0 0, .int .i64 0, .int .i64 0, .int .i64 0, .int .i64 0, .int .i64 0, .slice none 0 0, .slice none 0 0, .slice none 0 0]) Try.underlying31 rfl (by kernel_rfl)) rfl ?_
    have hkk := HKK.out
    have cK := HCK.out
    have hm : mgOf n m = { hdOf n with inst := m % 256, len := m / 256 % 64, has := (m / 16384 % 2 == 1) } := by unfold mgOf; rw [if_pos (by omega)]
    rw [hm]
    clear hm
    subst hkk
    exact ⟨GA.zero, rfl, ⟨Rd.none_ _ _ _, Rd.none_ _ _ _, Rd.none_ _ _ _, RdC.zero _ _, ⟨Nat.le_refl _, Nat.zero_le _⟩, ⟨Nat.le_refl _, Nat.zero_le _⟩⟩, hbelE⟩
  by_cases c3 : kk = 3
  · have r2 : (kk == 2) = false := by rw [beq_eq_false_iff_ne]; omega
    have r3 : (kk == 3) = true := by rw [beq_iff_eq]; omega
    have HCK := Lib.hid c3
    clear c3
    have x0 : wx.cell? ⟨g + 1, 0, none⟩ = some (.int .i64 kk) := HS.out.blk.cell 0
    go_upto_region 6 with fail
    clear x0
    have x7 : wx.cell? ⟨g + 1, 7, none⟩ = some (.int .i64 0) := HS.out.blk.cell 7
    have f7 := HS.out.blk.frozen 7
    have x8 : wx.cell? ⟨g + 1, 8, none⟩ = some (.int .i64 0) := HS.out.blk.cell 8
    have f8 := HS.out.blk.frozen 8
    have x5 : wx.cell? ⟨g + 1, 5, none⟩ = some (.int .i64 0) := HS.out.blk.cell 5
    have f5 := HS.out.blk.frozen 5
    go_upto_region 28 with fail
    have HS : Hid (MsSt w (((wx.setCell ⟨g + 1, 7, none⟩ (.int .i64 (m % 128))).setCell ⟨g + 1, 8, none⟩ (.int .i64 (m / 128 % 8 % 7))).setCell ⟨g + 1, 5, none⟩ (.int .i64 (m / 1024 % 64))) g #[.int .i64 kk, .int .i64 (n / 8 % 8 % 7), .int .i64 (n / 64 % 8 % 7), .int .i64 (n / 512 % 1024), .int .i64 0, .int .i64 (m / 1024 % 64), .bool false, .int .i64 (m % 128), .int .i64 (m / 128 % 8 % 7), .int .i64 0, .int .i64 0, .slice none 0 0, .int .i64 0, .int .i64 0, .slice none 0 0, .slice none 0 0, .int .i64 0, .int .i64 0, .int .i64 0, .int .i64 0, .int .i64 0, .slice none 0 0, .slice none 0 0, .slice none 0 0]) := Lib.hid (((HS.out.put 7 (.int .i64 (m % 128))).put 8 (.int .i64 (m / 128 % 8 % 7))).put 5 (.int .i64 (m / 1024 % 64)))
    clear x7 f7 x8 f8 x5 f5
    generalize (((wx.setCell ⟨g + 1, 7, none⟩ (.int .i64 (m % 128))).setCell ⟨g + 1, 8, none⟩ (.int .i64 (m / 128 % 8 % 7))).setCell ⟨g + 1, 5, none⟩ (.int .i64 (m / 1024 % 64))) = wy at HS ⊢
    go_wp2_with (first
      | (refine wpList_load_row rfl 31 (.tmp 5) rfl (g + 1) rfl 31 #[.int .i64 kk, .int .i64 (n / 8 % 8 % 7), .int .i64 (n / 64 % 8 % 7), .int .i64 (n / 512 % 1024), .int .i64 0, .int .i64 (m / 1024 % 64), .bool false, .int .i64 (m % 128), .int .i64 (m / 128 % 8 % 7), .int .i64 0, .int .i64 0, .slice none 0 0, .int .i64 0, .int .i64 0, .slice none 0 0, .slice none 0 0, .int .i64 0, .int .i64 0, .int .i64 0, .int .i64 0, .int .i64 0, .slice none 0 0, .slice none 0 0, .slice none 0 0] (0, 0) _ HS.out.blk Try.underlying31 rfl (by kernel_rfl) ?_)
      | (refine wpList_store_row rfl 31 (.tmp 4) (.tmp 149) rfl g #[.int .i64 kk, .int .i64 (n / 8 % 8 % 7), .int .i64 (n / 64 % 8 % 7), .int .i64 (n / 512 % 1024), .int .i64 0, .int .i64 (m / 1024 % 64), .bool false, .int .i64 (m % 128), .int .i64 (m / 128 % 8 % 7), .int .i64 0, .int .i64 0, .slice none 0 0, .int .i64 0, .int .i64 0, .slice none 0 0, .slice none 0 0, .int .i64 0, .int .i64 0, .int .i64 0, .int .i64 0, .int .i64 0, .slice none 0 0, .slice none 0 0, .slice none 0 0] rfl rfl 31 msgZ HS.out.res (by kernel_rfl) rfl (by kernel_rfl) ?_)
      | fail)
    have hbelE : Below w.heap.size w (wy.setRow g #[.int .i64 kk, .int .i64 (n / 8 % 8 % 7), .int .i64 (n / 64 % 8 % 7), .int .i64 (n / 512 % 1024), .int .i64 0, .int .i64 (m / 1024 % 64), .bool false, .int .i64 (m % 128), .int .i64 (m / 128 % 8 % 7), .int .i64 0, .int .i64 0, .slice none 0 0, .int .i64 0, .int .i64 0, .slice none 0 0, .slice none 0 0, .int .i64 0, .int .i64 0, .int .i64 0, .int .i64 0, .int .i64 0, .slice none 0 0, .slice none 0 0, .slice none 0 0]) := below_setRow HS.out.bel (by rw [HS.out.hg]; exact Nat.le_refl _) _
    refine bodyPost_ret (results_cell_row rfl _ _ _ _ _ _ _ rfl (HS.out.res.row #[.int .i64 kk, .int .i64 (n / 8 % 8 % 7), .int .i64 (n / 64 % 8 % 7), .int .i64 (n / 512 % 1024), .int .i64 0, .int .i64 (m / 1024 % 64), .bool false, .int .i64 (m % 128), .int .i64 (m / 128 % 8 % 7), .int .i64 0, .int .i64 0, .slice none 0 0, .int .i64 0, .int .i64 0, .slice none 0 0, .slice none 0 0, .int .i64 0, .int .i64 0, .int .i64 0, .int .i64 0, .int .i64 0, .slice none 0 0, .slice none 0 0, .slice none 0 0]) Try.underlying31 rfl (by kernel_rfl)) rfl ?_
    have hkk := HKK.out
    have cK := HCK.out
    have hm : mgOf n m = { hdOf n with mem := m % 128, src := m / 128 % 8 % 7, len := m / 1024 % 64 } := by unfold mgOf; rw [if_neg (by omega), if_pos (by omega)]
    rw [hm]
    clear hm
    subst hkk
    exact ⟨GA.zero, rfl, ⟨Rd.none_ _ _ _, Rd.none_ _ _ _, Rd.none_ _ _ _, RdC.zero _ _, ⟨Nat.le_refl _, Nat.zero_le _⟩, ⟨Nat.le_refl _, Nat.zero_le _⟩⟩, hbelE⟩
  by_cases c4 : kk = 4
  · have r2 : (kk == 2) = false := by rw [beq_eq_false_iff_ne]; omega
    have r3 : (kk == 3) = false := by rw [beq_eq_false_iff_ne]; omega
    have r4 : (kk == 4) = true := by rw [beq_iff_eq]; omega
    have HCK := Lib.hid c4
    clear c4
    have x0 : wx.cell? ⟨g + 1, 0, none⟩ = some (.int .i64 kk) := HS.out.blk.cell 0
    go_upto_region 8 with fail
    clear x0
    have x9 : wx.cell? ⟨g + 1, 9, none⟩ = some (.int .i64 0) := HS.out.blk.cell 9
    have f9 := HS.out.blk.frozen 9
    go_upto_region 28 with fail
    have HS : Hid (MsSt w (wx.setCell ⟨g + 1, 9, none⟩ (.int .i64 (m % 4096))) g #[.int .i64 kk, .int .i64 (n / 8 % 8 % 7), .int .i64 (n / 64 % 8 % 7), .int .i64 (n / 512 % 1024), .int .i64 0, .int .i64 0, .bool false, .int .i64 0, .int .i64 0, .int .i64 (m % 4096), .int .i64 0, .slice none 0 0, .int .i64 0, .int .i64 0, .slice none 0 0, .slice none 0 0, .int .i64 0, .int .i64 0, .int .i64 0, .int .i64 0, .int .i64 0, .slice none 0 0, .slice none 0 0, .slice none 0 0]) := Lib.hid (HS.out.put 9 (.int .i64 (m % 4096)))
    clear x9 f9
    generalize (wx.setCell ⟨g + 1, 9, none⟩ (.int .i64 (m % 4096))) = wy at HS ⊢
    go_wp2_with (first
      | (refine wpList_load_row rfl 31 (.tmp 5) rfl (g + 1) rfl 31 #[.int .i64 kk, .int .i64 (n / 8 % 8 % 7), .int .i64 (n / 64 % 8 % 7), .int .i64 (n / 512 % 1024), .int .i64 0, .int .i64 0, .bool false, .int .i64 0, .int .i64 0, .int .i64 (m % 4096), .int .i64 0, .slice none 0 0, .int .i64 0, .int .i64 0, .slice none 0 0, .slice none 0 0, .int .i64 0, .int .i64 0, .int .i64 0, .int .i64 0, .int .i64 0, .slice none 0 0, .slice none 0 0, .slice none 0 0] (0, 0) _ HS.out.blk Try.underlying31 rfl (by kernel_rfl) ?_)
      | (refine wpList_store_row rfl 31 (.tmp 4) (.tmp 149) rfl g #[.int .i64 kk, .int .i64 (n / 8 % 8 % 7), .int .i64 (n / 64 % 8 % 7), .int .i64 (n / 512 % 1024), .int .i64 0, .int .i64 0, .bool false, .int .i64 0, .int .i64 0, .int .i64 (m % 4096), .int .i64 0, .slice none 0 0, .int .i64 0, .int .i64 0, .slice none 0 0, .slice none 0 0, .int .i64 0, .int .i64 0, .int .i64 0, .int .i64 0, .int .i64 0, .slice none 0 0, .slice none 0 0, .slice none 0 0] rfl rfl 31 msgZ HS.out.res (by kernel_rfl) rfl (by kernel_rfl) ?_)
      | fail)
    have hbelE : Below w.heap.size w (wy.setRow g #[.int .i64 kk, .int .i64 (n / 8 % 8 % 7), .int .i64 (n / 64 % 8 % 7), .int .i64 (n / 512 % 1024), .int .i64 0, .int .i64 0, .bool false, .int .i64 0, .int .i64 0, .int .i64 (m % 4096), .int .i64 0, .slice none 0 0, .int .i64 0, .int .i64 0, .slice none 0 0, .slice none 0 0, .int .i64 0, .int .i64 0, .int .i64 0, .int .i64 0, .int .i64 0, .slice none 0 0, .slice none 0 0, .slice none 0 0]) := below_setRow HS.out.bel (by rw [HS.out.hg]; exact Nat.le_refl _) _
    refine bodyPost_ret (results_cell_row rfl _ _ _ _ _ _ _ rfl (HS.out.res.row #[.int .i64 kk, .int .i64 (n / 8 % 8 % 7), .int .i64 (n / 64 % 8 % 7), .int .i64 (n / 512 % 1024), .int .i64 0, .int .i64 0, .bool false, .int .i64 0, .int .i64 0, .int .i64 (m % 4096), .int .i64 0, .slice none 0 0, .int .i64 0, .int .i64 0, .slice none 0 0, .slice none 0 0, .int .i64 0, .int .i64 0, .int .i64 0, .int .i64 0, .int .i64 0, .slice none 0 0, .slice none 0 0, .slice none 0 0]) Try.underlying31 rfl (by kernel_rfl)) rfl ?_
    have hkk := HKK.out
    have cK := HCK.out
    have hm : mgOf n m = { hdOf n with pos := m % 4096 } := by unfold mgOf; rw [if_neg (by omega), if_neg (by omega), if_pos (by omega)]
    rw [hm]
    clear hm
    subst hkk
    exact ⟨GA.zero, rfl, ⟨Rd.none_ _ _ _, Rd.none_ _ _ _, Rd.none_ _ _ _, RdC.zero _ _, ⟨Nat.le_refl _, Nat.zero_le _⟩, ⟨Nat.le_refl _, Nat.zero_le _⟩⟩, hbelE⟩
  by_cases c5 : kk = 5
  · have r2 : (kk == 2) = false := by rw [beq_eq_false_iff_ne]; omega
    have r3 : (kk == 3) = false := by rw [beq_eq_false_iff_ne]; omega
    have r4 : (kk == 4) = false := by rw [beq_eq_false_iff_ne]; omega
    have r5 : (kk == 5) = true := by rw [beq_iff_eq]; omega
    have HCK := Lib.hid c5
    clear c5
    have x0 : wx.cell? ⟨g + 1, 0, none⟩ = some (.int .i64 kk) := HS.out.blk.cell 0
    go_upto_region 10 with fail
    clear x0
    have x9 : wx.cell? ⟨g + 1, 9, none⟩ = some (.int .i64 0) := HS.out.blk.cell 9
    have f9 := HS.out.blk.frozen 9
    have x10 : wx.cell? ⟨g + 1, 10, none⟩ = some (.int .i64 0) := HS.out.blk.cell 10
    have f10 := HS.out.blk.frozen 10
    go_upto_region 11 with fail
    have HS : Hid (MsSt w ((wx.setCell ⟨g + 1, 9, none⟩ (.int .i64 (m % 4096))).setCell ⟨g + 1, 10, none⟩ (.int .i64 (m / 4096 % 4096))) g #[.int .i64 kk, .int .i64 (n / 8 % 8 % 7), .int .i64 (n / 64 % 8 % 7), .int .i64 (n / 512 % 1024), .int .i64 0, .int .i64 0, .bool false, .int .i64 0, .int .i64 0, .int .i64 (m % 4096), .int .i64 (m / 4096 % 4096), .slice none 0 0, .int .i64 0, .int .i64 0, .slice none 0 0, .slice none 0 0, .int .i64 0, .int .i64 0, .int .i64 0, .int .i64 0, .int .i64 0, .slice none 0 0, .slice none 0 0, .slice none 0 0]) := Lib.hid ((HS.out.put 9 (.int .i64 (m % 4096))).put 10 (.int .i64 (m / 4096 % 4096)))
    clear x9 f9 x10 f10
    generalize ((wx.setCell ⟨g + 1, 9, none⟩ (.int .i64 (m % 4096))).setCell ⟨g + 1, 10, none⟩ (.int .i64 (m / 4096 % 4096))) = wy at HS ⊢
    obtain ⟨N, hN⟩ : ∃ N : Nat, (m / 16777216 % 64).toNat = N := ⟨_, rfl⟩
    have hN2 : (N : Int) = m / 16777216 % 64 := by omega
    have hN64 : N ≤ 64 := by omega
    have HNN := Lib.hid hN
    have HN2 := Lib.hid hN2
    clear hN hN2
    have HW0 : Hid (w.heap.size ≤ w.heap.size) := Lib.hid (Nat.le_refl _)
    go_wp2_with fail
    go_loopw [6] (fun sv wr => ∃ (k : Nat) (A1 : Option Addr) (c1 : Nat), k ≤ N ∧ sv = .int .i64 (k : Int) ∧ Hid (MsSt w wr g #[.int .i64 kk, .int .i64 (n / 8 % 8 % 7), .int .i64 (n / 64 % 8 % 7), .int .i64 (n / 512 % 1024), .int .i64 0, .int .i64 0, .bool false, .int .i64 0, .int .i64 0, .int .i64 (m % 4096), .int .i64 (m / 4096 % 4096), .slice A1 k c1, .int .i64 0, .int .i64 0, .slice none 0 0, .slice none 0 0, .int .i64 0, .int .i64 0, .int .i64 0, .int .i64 0, .int .i64 0, .slice none 0 0, .slice none 0 0, .slice none 0 0]) ∧ Hid (OwnB w wr A1 k c1 ((List.range k).map (datF m))) ∧ Hid (w.heap.size ≤ wr.heap.size)) (fun sv _ => N - (intOf sv).toNat)
    case atStart => exact ⟨0, none, 0, Nat.zero_le _, rfl, HS, Lib.hid (own_nil _ _), Lib.hid HS.out.bel.size⟩
    case round =>
      clear HS
      obtain ⟨k, A1, c1, hk, rfl, HS, HO, HBW⟩ := hrel
      by_cases hlt : k < N
      · have hlt' : (k : Int) < m / 16777216 % 64 := by have := HN2.out; omega
        have b1 : Below wr.heap.size wr (wr.alloc (.cells #[.int .u8 (m / 2 ^ (k % 16) % 256)] 5)) := (Below.refl _ _).alloc (Nat.le_refl _) _
        have HS1 := Lib.hid (HS.out.below b1)
        have hv1 := ownsRow_below HO.out b1
        have hsz : w.heap.size ≤ (wr.alloc (.cells #[.int .u8 (m / 2 ^ (k % 16) % 256)] 5)).heap.size := by have := HBW.out; rw [World.size_alloc]; omega
        have xc : wr.cell? ⟨g + 1, 11, none⟩ = some (.slice A1 k c1) := HS.out.blk.cell 11
        go_wp2_with (first
          | (at_builtin
             refine wpList_append_at w.heap.size hsz cellB (.tmp 76) (.tmp 83) rfl (by rfl) rfl hv1 rfl (Rd.oneV _ _ _) (by intro u hu; simp at hu; subst hu; rfl) (by omega) (by omega) ?_
             intro A3 c3 w3 hown3 hg3
             have HS3 := Lib.hid (HS1.out.row (own_of HW0.out hv1) (by decide) hg3)
             have HO3 := Lib.hid hown3
             have HBW3 : Hid (w.heap.size ≤ w3.heap.size) := Lib.hid (Nat.le_trans hsz hg3.size)
             have x3 : w3.cell? ⟨g + 1, 11, none⟩ = some (.slice A1 k c1) := HS3.out.blk.cell 11
             have f3 := HS3.out.blk.frozen 11
             clear hg3 hown3)
          | fail)
        go_roundw
        case rel =>
          refine ⟨k + 1, A3, c3, by omega, by go_num, Lib.hid (HS3.out.put 11 (.slice A3 (k + 1) c3)), Lib.hid ?_, Lib.hid (by have := HBW3.out; simpa [World.setCell] using this)⟩
          have q := own_set_t (i := 11) (u := .slice A3 (k + 1) c3) HO3.out HS3.out.blk (by decide)
          unfold OwnB
          rw [List.range_succ, List.map_append]
          have hx : ((datF m k : Nat) : Int) = m / 2 ^ (k % 16) % 256 := by unfold datF; exact Int.toNat_of_nonneg (Int.emod_nonneg _ (by omega))
          have hb : bv ((List.range k).map (datF m) ++ [k].map (datF m)) = bv ((List.range k).map (datF m)) ++ [.int .u8 (m / 2 ^ (k % 16) % 256)] := by simp [bv, hx]
          rw [hb]
          exact q
        case measure => simp only [intOf]; omega
      · have hlt' : ¬ (k : Int) < m / 16777216 % 64 := by have := HN2.out; omega
        obtain rfl : k = N := by omega
        have hl := HO.out
        obtain ⟨l, hl0⟩ : ∃ l, (List.range k).map (datF m) = l := ⟨_, rfl⟩
        rw [hl0] at hl
        have HO := Lib.hid hl
        have HL := Lib.hid hl0
        clear hl hl0
        have xc : wr.cell? ⟨g + 1, 0, none⟩ = some (.int .i64 kk) := HS.out.blk.cell 0
        obtain rfl : k = l.length := (own_len HO.out).symm
        go_wp2_with (first
          | (refine wpList_load_row rfl 31 (.tmp 5) rfl (g + 1) rfl 31 #[.int .i64 kk, .int .i64 (n / 8 % 8 % 7), .int .i64 (n / 64 % 8 % 7), .int .i64 (n / 512 % 1024), .int .i64 0, .int .i64 0, .bool false, .int .i64 0, .int .i64 0, .int .i64 (m % 4096), .int .i64 (m / 4096 % 4096), .slice A1 l.length c1, .int .i64 0, .int .i64 0, .slice none 0 0, .slice none 0 0, .int .i64 0, .int .i64 0, .int .i64 0, .int .i64 0, .int .i64 0, .slice none 0 0, .slice none 0 0, .slice none 0 0] (0, 0) _ HS.out.blk Try.underlying31 rfl (by kernel_rfl) ?_)
          | (refine wpList_store_row rfl 31 (.tmp 4) (.tmp 149) rfl g #[.int .i64 kk, .int .i64 (n / 8 % 8 % 7), .int .i64 (n / 64 % 8 % 7), .int .i64 (n / 512 % 1024), .int .i64 0, .int .i64 0, .bool false, .int .i64 0, .int .i64 0, .int .i64 (m % 4096), .int .i64 (m / 4096 % 4096), .slice A1 l.length c1, .int .i64 0, .int .i64 0, .slice none 0 0, .slice none 0 0, .int .i64 0, .int .i64 0, .int .i64 0, .int .i64 0, .int .i64 0, .slice none 0 0, .slice none 0 0, .slice none 0 0] rfl rfl 31 msgZ HS.out.res (by kernel_rfl) rfl (by kernel_rfl) ?_)
          | fail)
        have hbelE : Below w.heap.size w (wr.setRow g #[.int .i64 kk, .int .i64 (n / 8 % 8 % 7), .int .i64 (n / 64 % 8 % 7), .int .i64 (n / 512 % 1024), .int .i64 0, .int .i64 0, .bool false, .int .i64 0, .int .i64 0, .int .i64 (m % 4096), .int .i64 (m / 4096 % 4096), .slice A1 l.length c1, .int .i64 0, .int .i64 0, .slice none 0 0, .slice none 0 0, .int .i64 0, .int .i64 0, .int .i64 0, .int .i64 0, .int .i64 0, .slice none 0 0, .slice none 0 0, .slice none 0 0]) := below_setRow HS.out.bel (by rw [HS.out.hg]; exact Nat.le_refl _) _
        refine bodyPost_ret (results_cell_row rfl _ _ _ _ _ _ _ rfl (HS.out.res.row #[.int .i64 kk, .int .i64 (n / 8 % 8 % 7), .int .i64 (n / 64 % 8 % 7), .int .i64 (n / 512 % 1024), .int .i64 0, .int .i64 0, .bool false, .int .i64 0, .int .i64 0, .int .i64 (m % 4096), .int .i64 (m / 4096 % 4096), .slice A1 l.length c1, .int .i64 0, .int .i64 0, .slice none 0 0, .slice none 0 0, .int .i64 0, .int .i64 0, .int .i64 0, .int .i64 0, .int .i64 0, .slice none 0 0, .slice none 0 0, .slice none 0 0]) Try.underlying31 rfl (by kernel_rfl)) rfl ?_
        have hkk := HKK.out
        have cK := HCK.out
        have hl2 := HL.out
        have hN3 := HNN.out
        have hm : mgOf n m = { hdOf n with pos := m % 4096, tot := m / 4096 % 4096, data := l } := by unfold mgOf; rw [if_neg (by omega), if_neg (by omega), if_neg (by omega), if_pos (by omega), hN3, hl2]
        rw [hm]
        clear hm
        subst hkk
        exact ⟨⟨A1, c1, none, 0, none, 0, CA.zero⟩, rfl, ⟨(Rd.own_ (own_row_t HO.out HS.out.res (by decide))), Rd.none_ _ _ _, Rd.none_ _ _ _, RdC.zero _ _, ⟨Nat.le_refl _, Nat.zero_le _⟩, ⟨Nat.le_refl _, Nat.zero_le _⟩⟩, hbelE⟩
  by_cases c7 : kk = 7
  · have r2 : (kk == 2) = false := by rw [beq_eq_false_iff_ne]; omega
    have r3 : (kk == 3) = false := by rw [beq_eq_false_iff_ne]; omega
    have r4 : (kk == 4) = false := by rw [beq_eq_false_iff_ne]; omega
    have r5 : (kk == 5) = false := by rw [beq_eq_false_iff_ne]; omega
    have r7 : (kk == 7) = true := by rw [beq_iff_eq]; omega
    have HCK := Lib.hid c7
    clear c7
    have x0 : wx.cell? ⟨g + 1, 0, none⟩ = some (.int .i64 kk) := HS.out.blk.cell 0
    go_upto_region 16 with fail
    clear x0
    have x12 : wx.cell? ⟨g + 1, 12, none⟩ = some (.int .i64 0) := HS.out.blk.cell 12
    have f12 := HS.out.blk.frozen 12
    have x13 : wx.cell? ⟨g + 1, 13, none⟩ = some (.int .i64 0) := HS.out.blk.cell 13
    have f13 := HS.out.blk.frozen 13
    go_upto_region 17 with fail
    have HS : Hid (MsSt w ((wx.setCell ⟨g + 1, 12, none⟩ (.int .i64 (m % 1024))).setCell ⟨g + 1, 13, none⟩ (.int .i64 (m / 1024 % 256))) g #[.int .i64 kk, .int .i64 (n / 8 % 8 % 7), .int .i64 (n / 64 % 8 % 7), .int .i64 (n / 512 % 1024), .int .i64 0, .int .i64 0, .bool false, .int .i64 0, .int .i64 0, .int .i64 0, .int .i64 0, .slice none 0 0, .int .i64 (m % 1024), .int .i64 (m / 1024 % 256), .slice none 0 0, .slice none 0 0, .int .i64 0, .int .i64 0, .int .i64 0, .int .i64 0, .int .i64 0, .slice none 0 0, .slice none 0 0, .slice none 0 0]) := Lib.hid ((HS.out.put 12 (.int .i64 (m % 1024))).put 13 (.int .i64 (m / 1024 % 256)))
    clear x12 f12 x13 f13
    generalize ((wx.setCell ⟨g + 1, 12, none⟩ (.int .i64 (m % 1024))).setCell ⟨g + 1, 13, none⟩ (.int .i64 (m / 1024 % 256))) = wy at HS ⊢
    obtain ⟨Nh, hNh⟩ : ∃ Nh : Nat, (m / 262144 % 8).toNat = Nh := ⟨_, rfl⟩
    have hNh2 : (Nh : Int) = m / 262144 % 8 := by omega
    have hNh64 : Nh ≤ 64 := by omega
    have HNh := Lib.hid hNh
    have HNh2 := Lib.hid hNh2
    clear hNh hNh2
    have HW0h : Hid (w.heap.size ≤ w.heap.size) := Lib.hid (Nat.le_refl _)
    go_wp2_with fail
    go_loopw [7] (fun sv wr => ∃ (kh : Nat) (Ah1 : Option Addr) (ch1 : Nat), kh ≤ Nh ∧ sv = .int .i64 (kh : Int) ∧ Hid (MsSt w wr g #[.int .i64 kk, .int .i64 (n / 8 % 8 % 7), .int .i64 (n / 64 % 8 % 7), .int .i64 (n / 512 % 1024), .int .i64 0, .int .i64 0, .bool false, .int .i64 0, .int .i64 0, .int .i64 0, .int .i64 0, .slice none 0 0, .int .i64 (m % 1024), .int .i64 (m / 1024 % 256), .slice Ah1 kh ch1, .slice none 0 0, .int .i64 0, .int .i64 0, .int .i64 0, .int .i64 0, .int .i64 0, .slice none 0 0, .slice none 0 0, .slice none 0 0]) ∧ Hid (OwnI w wr Ah1 kh ch1 ((List.range kh).map (havF m))) ∧ Hid (w.heap.size ≤ wr.heap.size)) (fun sv _ => Nh - (intOf sv).toNat)
    case atStart => exact ⟨0, none, 0, Nat.zero_le _, rfl, HS, Lib.hid (ownI_nil _ _), Lib.hid HS.out.bel.size⟩
    case round =>
      clear HS
      obtain ⟨kh, Ah1, ch1, hk, rfl, HS, HH, HBWh⟩ := hrel
      by_cases hlt : kh < Nh
      · have hlt' : (kh : Int) < m / 262144 % 8 := by have := HNh2.out; omega
        have b1 : Below wr.heap.size wr (wr.alloc (.cells #[.int .i64 (m / 2 ^ kh % 64)] 3)) := (Below.refl _ _).alloc (Nat.le_refl _) _
        have HS1 := Lib.hid (HS.out.below b1)
        have hv1 := ownsRow_below HH.out b1
        have hsz : w.heap.size ≤ (wr.alloc (.cells #[.int .i64 (m / 2 ^ kh % 64)] 3)).heap.size := by have := HBWh.out; rw [World.size_alloc]; omega
        have xc : wr.cell? ⟨g + 1, 14, none⟩ = some (.slice Ah1 kh ch1) := HS.out.blk.cell 14
        go_wp2_with (first
          | (at_builtin
             refine wpList_append_at w.heap.size hsz cellI (.tmp 103) (.tmp 109) rfl (by rfl) rfl hv1 rfl (Rd.oneV _ _ _) (by intro u hu; simp at hu; subst hu; rfl) (by omega) (by omega) ?_
             intro A3 c3 w3 hown3 hg3
             have HS3 := Lib.hid (HS1.out.row (own_of HW0h.out hv1) (by decide) hg3)
             have HO3 := Lib.hid hown3
             have HBW3 : Hid (w.heap.size ≤ w3.heap.size) := Lib.hid (Nat.le_trans hsz hg3.size)
             have x3 : w3.cell? ⟨g + 1, 14, none⟩ = some (.slice Ah1 kh ch1) := HS3.out.blk.cell 14
             have f3 := HS3.out.blk.frozen 14
             clear hg3 hown3)
          | fail)
        go_roundw
        case rel =>
          refine ⟨kh + 1, A3, c3, by omega, by go_num, Lib.hid (HS3.out.put 14 (.slice A3 (kh + 1) c3)), Lib.hid ?_, Lib.hid (by have := HBW3.out; simpa [World.setCell] using this)⟩
          have q := own_set_t (i := 14) (u := .slice A3 (kh + 1) c3) HO3.out HS3.out.blk (by decide)
          unfold OwnI
          rw [List.range_succ, List.map_append]
          have hb : iv ((List.range kh).map (havF m) ++ [kh].map (havF m)) = iv ((List.range kh).map (havF m)) ++ [.int .i64 (m / 2 ^ kh % 64)] := by simp [iv, havF]
          rw [hb]
          exact q
        case measure => simp only [intOf]; omega
      · have hlt' : ¬ (kh : Int) < m / 262144 % 8 := by have := HNh2.out; omega
        obtain rfl : kh = Nh := by omega
        have hl := HH.out
        obtain ⟨lh, hl0⟩ : ∃ lh, (List.range kh).map (havF m) = lh := ⟨_, rfl⟩
        rw [hl0] at hl
        have HH := Lib.hid hl
        have HLh := Lib.hid hl0
        clear hl hl0
        have xc : wr.cell? ⟨g + 1, 0, none⟩ = some (.int .i64 kk) := HS.out.blk.cell 0
        obtain rfl : kh = lh.length := (ownI_len HH.out).symm
        go_upto_region 21 with fail
        have HHO : Hid (Old wr (Value.slice Ah1 lh.length ch1).ownBlock) := Lib.hid (own_row_old HH.out (Nat.le_refl _))
        clear xc hlt hlt'
        generalize wr = wv at HS HH HBWh HHO ⊢
        obtain ⟨N, hN⟩ : ∃ N : Nat, (m / 2097152 % 8).toNat = N := ⟨_, rfl⟩
        have hN2 : (N : Int) = m / 2097152 % 8 := by omega
        have hN64 : N ≤ 64 := by omega
        have HNN := Lib.hid hN
        have HN2 := Lib.hid hN2
        clear hN hN2
        have HW0 : Hid (w.heap.size ≤ wv.heap.size) := Lib.hid HS.out.bel.size
        go_wp2_with fail
        go_loopw [8] (fun sv wr => ∃ (k : Nat) (A1 : Option Addr) (c1 : Nat), k ≤ N ∧ sv = .int .i64 (k : Int) ∧ Hid (MsSt w wr g #[.int .i64 kk, .int .i64 (n / 8 % 8 % 7), .int .i64 (n / 64 % 8 % 7), .int .i64 (n / 512 % 1024), .int .i64 0, .int .i64 0, .bool false, .int .i64 0, .int .i64 0, .int .i64 0, .int .i64 0, .slice none 0 0, .int .i64 (m % 1024), .int .i64 (m / 1024 % 256), .slice Ah1 lh.length ch1, .slice A1 k c1, .int .i64 0, .int .i64 0, .int .i64 0, .int .i64 0, .int .i64 0, .slice none 0 0, .slice none 0 0, .slice none 0 0]) ∧ Hid (OwnI wv wr A1 k c1 ((List.range k).map (neeF m))) ∧ Hid (wv.heap.size ≤ wr.heap.size) ∧ Hid (OwnI w wr Ah1 lh.length ch1 lh)) (fun sv _ => N - (intOf sv).toNat)
        case atStart => exact ⟨0, none, 0, Nat.zero_le _, rfl, HS, Lib.hid (ownI_nil _ _), Lib.hid (Nat.le_refl _), HH⟩
        case round =>
          clear HS HH
          obtain ⟨k, A1, c1, hk, rfl, HS, HO, HBW, HH⟩ := hrel
          by_cases hlt : k < N
          · have hlt' : (k : Int) < m / 2097152 % 8 := by have := HN2.out; omega
            have b1 : Below wr.heap.size wr (wr.alloc (.cells #[.int .i64 (m / 2 ^ (k + 3) % 64)] 3)) := (Below.refl _ _).alloc (Nat.le_refl _) _
            have HS1 := Lib.hid (HS.out.below b1)
            have hv1 := ownsRow_below HO.out b1
            have hsz : wv.heap.size ≤ (wr.alloc (.cells #[.int .i64 (m / 2 ^ (k + 3) % 64)] 3)).heap.size := by have := HBW.out; rw [World.size_alloc]; omega
            have xc : wr.cell? ⟨g + 1, 15, none⟩ = some (.slice A1 k c1) := HS.out.blk.cell 15
            have hp_HH := ownsRow_below HH.out b1
            go_wp2_with (first
              | (at_builtin
                 refine wpList_append_at wv.heap.size hsz cellI (.tmp 120) (.tmp 127) rfl (by rfl) rfl hv1 rfl (Rd.oneV _ _ _) (by intro u hu; simp at hu; subst hu; rfl) (by omega) (by omega) ?_
                 intro A3 c3 w3 hown3 hg3
                 have HS3 := Lib.hid (HS1.out.row (own_of HW0.out hv1) (by decide) hg3)
                 have HO3 := Lib.hid hown3
                 have HBW3 : Hid (wv.heap.size ≤ w3.heap.size) := Lib.hid (Nat.le_trans hsz hg3.size)
                 have HH3 := Lib.hid (own_apart hp_HH HHO.out hv1 hg3)
                 have x3 : w3.cell? ⟨g + 1, 15, none⟩ = some (.slice A1 k c1) := HS3.out.blk.cell 15
                 have f3 := HS3.out.blk.frozen 15
                 clear hg3 hown3)
              | fail)
            go_roundw
            case rel =>
              refine ⟨k + 1, A3, c3, by omega, by go_num, Lib.hid (HS3.out.put 15 (.slice A3 (k + 1) c3)), Lib.hid ?_, Lib.hid (by have := HBW3.out; simpa [World.setCell] using this), Lib.hid (own_set_t HH3.out HS3.out.blk (by decide))⟩
              have q := own_set_t (i := 15) (u := .slice A3 (k + 1) c3) HO3.out HS3.out.blk (by decide)
              unfold OwnI
              rw [List.range_succ, List.map_append]
              have hb : iv ((List.range k).map (neeF m) ++ [k].map (neeF m)) = iv ((List.range k).map (neeF m)) ++ [.int .i64 (m / 2 ^ (k + 3) % 64)] := by simp [iv, neeF]
              rw [hb]
              exact q
            case measure => simp only [intOf]; omega
          · have hlt' : ¬ (k : Int) < m / 2097152 % 8 := by have := HN2.out; omega
            obtain rfl : k = N := by omega
            have hl := HO.out
            obtain ⟨l, hl0⟩ : ∃ l, (List.range k).map (neeF m) = l := ⟨_, rfl⟩
            rw [hl0] at hl
            have HO := Lib.hid hl
            have HL := Lib.hid hl0
            clear hl hl0
            have xc : wr.cell? ⟨g + 1, 0, none⟩ = some (.int .i64 kk) := HS.out.blk.cell 0
            obtain rfl : k = l.length := (ownI_len HO.out).symm
            go_wp2_with (first
              | (refine wpList_load_row rfl 31 (.tmp 5) rfl (g + 1) rfl 31 #[.int .i64 kk, .int .i64 (n / 8 % 8 % 7), .int .i64 (n / 64 % 8 % 7), .int .i64 (n / 512 % 1024), .int .i64 0, .int .i64 0, .bool false, .int .i64 0, .int .i64 0, .int .i64 0, .int .i64 0, .slice none 0 0, .int .i64 (m % 1024), .int .i64 (m / 1024 % 256), .slice Ah1 lh.length ch1, .slice A1 l.length c1, .int .i64 0, .int .i64 0, .int .i64 0, .int .i64 0, .int .i64 0, .slice none 0 0, .slice none 0 0, .slice none 0 0] (0, 0) _ HS.out.blk Try.underlying31 rfl (by kernel_rfl) ?_)
              | (refine wpList_store_row rfl 31 (.tmp 4) (.tmp 149) rfl g #[.int .i64 kk, .int .i64 (n / 8 % 8 % 7), .int .i64 (n / 64 % 8 % 7), .int .i64 (n / 512 % 1024), .int .i64 0, .int .i64 0, .bool false, .int .i64 0, .int .i64 0, .int .i64 0, .int .i64 0, .slice none 0 0, .int .i64 (m % 1024), .int .i64 (m / 1024 % 256), .slice Ah1 lh.length ch1, .slice A1 l.length c1, .int .i64 0, .int .i64 0, .int .i64 0, .int .i64 0, .int .i64 0, .slice none 0 0, .slice none 0 0, .slice none 0 0] rfl rfl 31 msgZ HS.out.res (by kernel_rfl) rfl (by kernel_rfl) ?_)
              | fail)
            have hbelE : Below w.heap.size w (wr.setRow g #[.int .i64 kk, .int .i64 (n / 8 % 8 % 7), .int .i64 (n / 64 % 8 % 7), .int .i64 (n / 512 % 1024), .int .i64 0, .int .i64 0, .bool false, .int .i64 0, .int .i64 0, .int .i64 0, .int .i64 0, .slice none 0 0, .int .i64 (m % 1024), .int .i64 (m / 1024 % 256), .slice Ah1 lh.length ch1, .slice A1 l.length c1, .int .i64 0, .int .i64 0, .int .i64 0, .int .i64 0, .int .i64 0, .slice none 0 0, .slice none 0 0, .slice none 0 0]) := below_setRow HS.out.bel (by rw [HS.out.hg]; exact Nat.le_refl _) _
            refine bodyPost_ret (results_cell_row rfl _ _ _ _ _ _ _ rfl (HS.out.res.row #[.int .i64 kk, .int .i64 (n / 8 % 8 % 7), .int .i64 (n / 64 % 8 % 7), .int .i64 (n / 512 % 1024), .int .i64 0, .int .i64 0, .bool false, .int .i64 0, .int .i64 0, .int .i64 0, .int .i64 0, .slice none 0 0, .int .i64 (m % 1024), .int .i64 (m / 1024 % 256), .slice Ah1 lh.length ch1, .slice A1 l.length c1, .int .i64 0, .int .i64 0, .int .i64 0, .int .i64 0, .int .i64 0, .slice none 0 0, .slice none 0 0, .slice none 0 0]) Try.underlying31 rfl (by kernel_rfl)) rfl ?_
            have hkk := HKK.out
            have cK := HCK.out
            have hl2 := HL.out
            have hl3 := HLh.out
            have hN3 := HNN.out
            have hN4 := HNh.out
            have hm : mgOf n m = { hdOf n with hop := m % 1024, seq := m / 1024 % 256, hav := lh, nee := l } := by unfold mgOf; rw [if_neg (by omega), if_neg (by omega), if_neg (by omega), if_neg (by omega), if_pos (by omega), hN3, hN4, hl2, hl3]
            rw [hm]
            clear hm
            subst hkk
            exact ⟨⟨none, 0, Ah1, ch1, A1, c1, CA.zero⟩, rfl, ⟨Rd.none_ _ _ _, (Rd.own_ (own_row_t HH.out HS.out.res (by decide))), (Rd.own_ (own_row_t HO.out HS.out.res (by decide))), RdC.zero _ _, own_cap HH.out, own_cap HO.out⟩, hbelE⟩
  by_cases c8 : kk = 8
  · have r2 : (kk == 2) = false := by rw [beq_eq_false_iff_ne]; omega
    have r3 : (kk == 3) = false := by rw [beq_eq_false_iff_ne]; omega
    have r4 : (kk == 4) = false := by rw [beq_eq_false_iff_ne]; omega
    have r5 : (kk == 5) = false := by rw [beq_eq_false_iff_ne]; omega
    have r7 : (kk == 7) = false := by rw [beq_eq_false_iff_ne]; omega
    have r8 : (kk == 8) = true := by rw [beq_iff_eq]; omega
    have HCK := Lib.hid c8
    clear c8
    have x0 : wx.cell? ⟨g + 1, 0, none⟩ = some (.int .i64 kk) := HS.out.blk.cell 0
    go_upto_region 26 with fail
    clear x0
    obtain ⟨i, hi⟩ : ∃ i : Nat, (m / 1024 % 64).toNat = i := ⟨_, rfl⟩
    have hi2 : (i : Int) = m / 1024 % 64 := by omega
    obtain ⟨e, he⟩ : ∃ e, entOf n i = e := ⟨_, rfl⟩
    have HCE : Hid (∀ wx, Calls Try.prog 36 #[.int .i64 n, .int .i64 (m / 1024 % 64)] wx fun en w' => ∃ ca, en = .returned (.agg #[.int .i64 e.s, .int .i64 e.q, .int .i64 e.c.kind, .int .i64 e.c.who, .slice ca.Ak e.c.key.length ca.ck, .slice ca.Av e.c.val.length ca.cv, .slice ca.Ao e.c.old.length ca.co]) ∧ RdC w' w'.heap.size ca e.c ∧ Below wx.heap.size wx w') := Lib.hid (fun wx => by
      have q := entD_any n i (by omega) wx
      rw [hi2, he] at q
      exact q.mono fun en w' ⟨ca, q1, _, q2, q3⟩ => ⟨ca, q1, q2, q3⟩)
    have HI := Lib.hid hi
    have HE := Lib.hid he
    clear hi hi2 he
    go_upto_region 27 with (first
      | (go_at_call 36; refine (HCE.out _).mono ?_; rintro en w1 ⟨ca, rfl, hr1, hb1⟩
         have HS := Lib.hid (HS.out.below hb1)
         have HR := Lib.hid hr1
         have x16 : w1.cell? ⟨g + 1, 16, none⟩ = some (.int .i64 0) := HS.out.blk.cell 16
         have f16 := HS.out.blk.frozen 16
         have x17 : w1.cell? ⟨g + 1, 17, none⟩ = some (.int .i64 0) := HS.out.blk.cell 17
         have f17 := HS.out.blk.frozen 17
         have x18 : w1.cell? ⟨g + 1, 18, none⟩ = some (.int .i64 0) := HS.out.blk.cell 18
         have f18 := HS.out.blk.frozen 18
         have x19 : w1.cell? ⟨g + 1, 19, none⟩ = some (.int .i64 0) := HS.out.blk.cell 19
         have f19 := HS.out.blk.frozen 19
         have x20 : w1.cell? ⟨g + 1, 20, none⟩ = some (.int .i64 0) := HS.out.blk.cell 20
         have f20 := HS.out.blk.frozen 20
         have x21 : w1.cell? ⟨g + 1, 21, none⟩ = some (.slice none 0 0) := HS.out.blk.cell 21
         have f21 := HS.out.blk.frozen 21
         have x22 : w1.cell? ⟨g + 1, 22, none⟩ = some (.slice none 0 0) := HS.out.blk.cell 22
         have f22 := HS.out.blk.frozen 22
         have x23 : w1.cell? ⟨g + 1, 23, none⟩ = some (.slice none 0 0) := HS.out.blk.cell 23
         have f23 := HS.out.blk.frozen 23
         clear hr1 hb1)
      | fail)
    have hb0 : MsSt w w1 g #[.int .i64 kk, .int .i64 (n / 8 % 8 % 7), .int .i64 (n / 64 % 8 % 7), .int .i64 (n / 512 % 1024), .int .i64 0, .int .i64 0, .bool false, .int .i64 0, .int .i64 0, .int .i64 0, .int .i64 0, .slice none 0 0, .int .i64 0, .int .i64 0, .slice none 0 0, .slice none 0 0, .int .i64 0, .int .i64 0, .int .i64 0, .int .i64 0, .int .i64 0, .slice none 0 0, .slice none 0 0, .slice none 0 0] := HS.out
    have hr0 : RdC w1 w1.heap.size ca e.c := HR.out
    have hr1 : RdC (w1.setCell ⟨g + 1, 16, none⟩ (.int .i64 (m % 1024))) (w1.setCell ⟨g + 1, 16, none⟩ (.int .i64 (m % 1024))).heap.size ca e.c := hr0.setK hb0.blk (noB24 (by rfl) (by rfl))
    have hb1 : MsSt w (w1.setCell ⟨g + 1, 16, none⟩ (.int .i64 (m % 1024))) g #[.int .i64 kk, .int .i64 (n / 8 % 8 % 7), .int .i64 (n / 64 % 8 % 7), .int .i64 (n / 512 % 1024), .int .i64 0, .int .i64 0, .bool false, .int .i64 0, .int .i64 0, .int .i64 0, .int .i64 0, .slice none 0 0, .int .i64 0, .int .i64 0, .slice none 0 0, .slice none 0 0, .int .i64 (m % 1024), .int .i64 0, .int .i64 0, .int .i64 0, .int .i64 0, .slice none 0 0, .slice none 0 0, .slice none 0 0] := hb0.put 16 (.int .i64 (m % 1024))
    have hr2 : RdC ((w1.setCell ⟨g + 1, 16, none⟩ (.int .i64 (m % 1024))).setCell ⟨g + 1, 17, none⟩ (.int .i64 e.s)) ((w1.setCell ⟨g + 1, 16, none⟩ (.int .i64 (m % 1024))).setCell ⟨g + 1, 17, none⟩ (.int .i64 e.s)).heap.size ca e.c := hr1.setK hb1.blk (noB24 (by rfl) (by rfl))
    have hb2 : MsSt w ((w1.setCell ⟨g + 1, 16, none⟩ (.int .i64 (m % 1024))).setCell ⟨g + 1, 17, none⟩ (.int .i64 e.s)) g #[.int .i64 kk, .int .i64 (n / 8 % 8 % 7), .int .i64 (n / 64 % 8 % 7), .int .i64 (n / 512 % 1024), .int .i64 0, .int .i64 0, .bool false, .int .i64 0, .int .i64 0, .int .i64 0, .int .i64 0, .slice none 0 0, .int .i64 0, .int .i64 0, .slice none 0 0, .slice none 0 0, .int .i64 (m % 1024), .int .i64 e.s, .int .i64 0, .int .i64 0, .int .i64 0, .slice none 0 0, .slice none 0 0, .slice none 0 0] := hb1.put 17 (.int .i64 e.s)
    have hr3 : RdC (((w1.setCell ⟨g + 1, 16, none⟩ (.int .i64 (m % 1024))).setCell ⟨g + 1, 17, none⟩ (.int .i64 e.s)).setCell ⟨g + 1, 18, none⟩ (.int .i64 e.q)) (((w1.setCell ⟨g + 1, 16, none⟩ (.int .i64 (m % 1024))).setCell ⟨g + 1, 17, none⟩ (.int .i64 e.s)).setCell ⟨g + 1, 18, none⟩ (.int .i64 e.q)).heap.size ca e.c := hr2.setK hb2.blk (noB24 (by rfl) (by rfl))
    have hb3 : MsSt w (((w1.setCell ⟨g + 1, 16, none⟩ (.int .i64 (m % 1024))).setCell ⟨g + 1, 17, none⟩ (.int .i64 e.s)).setCell ⟨g + 1, 18, none⟩ (.int .i64 e.q)) g #[.int .i64 kk, .int .i64 (n / 8 % 8 % 7), .int .i64 (n / 64 % 8 % 7), .int .i64 (n / 512 % 1024), .int .i64 0, .int .i64 0, .bool false, .int .i64 0, .int .i64 0, .int .i64 0, .int .i64 0, .slice none 0 0, .int .i64 0, .int .i64 0, .slice none 0 0, .slice none 0 0, .int .i64 (m % 1024), .int .i64 e.s, .int .i64 e.q, .int .i64 0, .int .i64 0, .slice none 0 0, .slice none 0 0, .slice none 0 0] := hb2.put 18 (.int .i64 e.q)
    have hr4 : RdC ((((w1.setCell ⟨g + 1, 16, none⟩ (.int .i64 (m % 1024))).setCell ⟨g + 1, 17, none⟩ (.int .i64 e.s)).setCell ⟨g + 1, 18, none⟩ (.int .i64 e.q)).setCell ⟨g + 1, 19, none⟩ (.int .i64 e.c.kind)) ((((w1.setCell ⟨g + 1, 16, none⟩ (.int .i64 (m % 1024))).setCell ⟨g + 1, 17, none⟩ (.int .i64 e.s)).setCell ⟨g + 1, 18, none⟩ (.int .i64 e.q)).setCell ⟨g + 1, 19, none⟩ (.int .i64 e.c.kind)).heap.size ca e.c := hr3.setK hb3.blk (noB24 (by rfl) (by rfl))
    have hb4 : MsSt w ((((w1.setCell ⟨g + 1, 16, none⟩ (.int .i64 (m % 1024))).setCell ⟨g + 1, 17, none⟩ (.int .i64 e.s)).setCell ⟨g + 1, 18, none⟩ (.int .i64 e.q)).setCell ⟨g + 1, 19, none⟩ (.int .i64 e.c.kind)) g #[.int .i64 kk, .int .i64 (n / 8 % 8 % 7), .int .i64 (n / 64 % 8 % 7), .int .i64 (n / 512 % 1024), .int .i64 0, .int .i64 0, .bool false, .int .i64 0, .int .i64 0, .int .i64 0, .int .i64 0, .slice none 0 0, .int .i64 0, .int .i64 0, .slice none 0 0, .slice none 0 0, .int .i64 (m % 1024), .int .i64 e.s, .int .i64 e.q, .int .i64 e.c.kind, .int .i64 0, .slice none 0 0, .slice none 0 0, .slice none 0 0] := hb3.put 19 (.int .i64 e.c.kind)
    have hr5 : RdC (((((w1.setCell ⟨g + 1, 16, none⟩ (.int .i64 (m % 1024))).setCell ⟨g + 1, 17, none⟩ (.int .i64 e.s)).setCell ⟨g + 1, 18, none⟩ (.int .i64 e.q)).setCell ⟨g + 1, 19, none⟩ (.int .i64 e.c.kind)).setCell ⟨g + 1, 20, none⟩ (.int .i64 e.c.who)) (((((w1.setCell ⟨g + 1, 16, none⟩ (.int .i64 (m % 1024))).setCell ⟨g + 1, 17, none⟩ (.int .i64 e.s)).setCell ⟨g + 1, 18, none⟩ (.int .i64 e.q)).setCell ⟨g + 1, 19, none⟩ (.int .i64 e.c.kind)).setCell ⟨g + 1, 20, none⟩ (.int .i64 e.c.who)).heap.size ca e.c := hr4.setK hb4.blk (noB24 (by rfl) (by rfl))
    have hb5 : MsSt w (((((w1.setCell ⟨g + 1, 16, none⟩ (.int .i64 (m % 1024))).setCell ⟨g + 1, 17, none⟩ (.int .i64 e.s)).setCell ⟨g + 1, 18, none⟩ (.int .i64 e.q)).setCell ⟨g + 1, 19, none⟩ (.int .i64 e.c.kind)).setCell ⟨g + 1, 20, none⟩ (.int .i64 e.c.who)) g #[.int .i64 kk, .int .i64 (n / 8 % 8 % 7), .int .i64 (n / 64 % 8 % 7), .int .i64 (n / 512 % 1024), .int .i64 0, .int .i64 0, .bool false, .int .i64 0, .int .i64 0, .int .i64 0, .int .i64 0, .slice none 0 0, .int .i64 0, .int .i64 0, .slice none 0 0, .slice none 0 0, .int .i64 (m % 1024), .int .i64 e.s, .int .i64 e.q, .int .i64 e.c.kind, .int .i64 e.c.who, .slice none 0 0, .slice none 0 0, .slice none 0 0] := hb4.put 20 (.int .i64 e.c.who)
    have hr6 : RdC ((((((w1.setCell ⟨g + 1, 16, none⟩ (.int .i64 (m % 1024))).setCell ⟨g + 1, 17, none⟩ (.int .i64 e.s)).setCell ⟨g + 1, 18, none⟩ (.int .i64 e.q)).setCell ⟨g + 1, 19, none⟩ (.int .i64 e.c.kind)).setCell ⟨g + 1, 20, none⟩ (.int .i64 e.c.who)).setCell ⟨g + 1, 21, none⟩ (.slice ca.Ak e.c.key.length ca.ck)) ((((((w1.setCell ⟨g + 1, 16, none⟩ (.int .i64 (m % 1024))).setCell ⟨g + 1, 17, none⟩ (.int .i64 e.s)).setCell ⟨g + 1, 18, none⟩ (.int .i64 e.q)).setCell ⟨g + 1, 19, none⟩ (.int .i64 e.c.kind)).setCell ⟨g + 1, 20, none⟩ (.int .i64 e.c.who)).setCell ⟨g + 1, 21, none⟩ (.slice ca.Ak e.c.key.length ca.ck)).heap.size ca e.c := hr5.setK hb5.blk (noB24 (by rfl) (by rfl))
    have hb6 : MsSt w ((((((w1.setCell ⟨g + 1, 16, none⟩ (.int .i64 (m % 1024))).setCell ⟨g + 1, 17, none⟩ (.int .i64 e.s)).setCell ⟨g + 1, 18, none⟩ (.int .i64 e.q)).setCell ⟨g + 1, 19, none⟩ (.int .i64 e.c.kind)).setCell ⟨g + 1, 20, none⟩ (.int .i64 e.c.who)).setCell ⟨g + 1, 21, none⟩ (.slice ca.Ak e.c.key.length ca.ck)) g #[.int .i64 kk, .int .i64 (n / 8 % 8 % 7), .int .i64 (n / 64 % 8 % 7), .int .i64 (n / 512 % 1024), .int .i64 0, .int .i64 0, .bool false, .int .i64 0, .int .i64 0, .int .i64 0, .int .i64 0, .slice none 0 0, .int .i64 0, .int .i64 0, .slice none 0 0, .slice none 0 0, .int .i64 (m % 1024), .int .i64 e.s, .int .i64 e.q, .int .i64 e.c.kind, .int .i64 e.c.who, .slice ca.Ak e.c.key.length ca.ck, .slice none 0 0, .slice none 0 0] := hb5.put 21 (.slice ca.Ak e.c.key.length ca.ck)
    have hr7 : RdC (((((((w1.setCell ⟨g + 1, 16, none⟩ (.int .i64 (m % 1024))).setCell ⟨g + 1, 17, none⟩ (.int .i64 e.s)).setCell ⟨g + 1, 18, none⟩ (.int .i64 e.q)).setCell ⟨g + 1, 19, none⟩ (.int .i64 e.c.kind)).setCell ⟨g + 1, 20, none⟩ (.int .i64 e.c.who)).setCell ⟨g + 1, 21, none⟩ (.slice ca.Ak e.c.key.length ca.ck)).setCell ⟨g + 1, 22, none⟩ (.slice ca.Av e.c.val.length ca.cv)) (((((((w1.setCell ⟨g + 1, 16, none⟩ (.int .i64 (m % 1024))).setCell ⟨g + 1, 17, none⟩ (.int .i64 e.s)).setCell ⟨g + 1, 18, none⟩ (.int .i64 e.q)).setCell ⟨g + 1, 19, none⟩ (.int .i64 e.c.kind)).setCell ⟨g + 1, 20, none⟩ (.int .i64 e.c.who)).setCell ⟨g + 1, 21, none⟩ (.slice ca.Ak e.c.key.length ca.ck)).setCell ⟨g + 1, 22, none⟩ (.slice ca.Av e.c.val.length ca.cv)).heap.size ca e.c := hr6.setK hb6.blk (noB24 (by rfl) (by rfl))
    have hb7 : MsSt w (((((((w1.setCell ⟨g + 1, 16, none⟩ (.int .i64 (m % 1024))).setCell ⟨g + 1, 17, none⟩ (.int .i64 e.s)).setCell ⟨g + 1, 18, none⟩ (.int .i64 e.q)).setCell ⟨g + 1, 19, none⟩ (.int .i64 e.c.kind)).setCell ⟨g + 1, 20, none⟩ (.int .i64 e.c.who)).setCell ⟨g + 1, 21, none⟩ (.slice ca.Ak e.c.key.length ca.ck)).setCell ⟨g + 1, 22, none⟩ (.slice ca.Av e.c.val.length ca.cv)) g #[.int .i64 kk, .int .i64 (n / 8 % 8 % 7), .int .i64 (n / 64 % 8 % 7), .int .i64 (n / 512 % 1024), .int .i64 0, .int .i64 0, .bool false, .int .i64 0, .int .i64 0, .int .i64 0, .int .i64 0, .slice none 0 0, .int .i64 0, .int .i64 0, .slice none 0 0, .slice none 0 0, .int .i64 (m % 1024), .int .i64 e.s, .int .i64 e.q, .int .i64 e.c.kind, .int .i64 e.c.who, .slice ca.Ak e.c.key.length ca.ck, .slice ca.Av e.c.val.length ca.cv, .slice none 0 0] := hb6.put 22 (.slice ca.Av e.c.val.length ca.cv)
    have hr8 : RdC ((((((((w1.setCell ⟨g + 1, 16, none⟩ (.int .i64 (m % 1024))).setCell ⟨g + 1, 17, none⟩ (.int .i64 e.s)).setCell ⟨g + 1, 18, none⟩ (.int .i64 e.q)).setCell ⟨g + 1, 19, none⟩ (.int .i64 e.c.kind)).setCell ⟨g + 1, 20, none⟩ (.int .i64 e.c.who)).setCell ⟨g + 1, 21, none⟩ (.slice ca.Ak e.c.key.length ca.ck)).setCell ⟨g + 1, 22, none⟩ (.slice ca.Av e.c.val.length ca.cv)).setCell ⟨g + 1, 23, none⟩ (.slice ca.Ao e.c.old.length ca.co)) ((((((((w1.setCell ⟨g + 1, 16, none⟩ (.int .i64 (m % 1024))).setCell ⟨g + 1, 17, none⟩ (.int .i64 e.s)).setCell ⟨g + 1, 18, none⟩ (.int .i64 e.q)).setCell ⟨g + 1, 19, none⟩ (.int .i64 e.c.kind)).setCell ⟨g + 1, 20, none⟩ (.int .i64 e.c.who)).setCell ⟨g + 1, 21, none⟩ (.slice ca.Ak e.c.key.length ca.ck)).setCell ⟨g + 1, 22, none⟩ (.slice ca.Av e.c.val.length ca.cv)).setCell ⟨g + 1, 23, none⟩ (.slice ca.Ao e.c.old.length ca.co)).heap.size ca e.c := hr7.setK hb7.blk (noB24 (by rfl) (by rfl))
    have hb8 : MsSt w ((((((((w1.setCell ⟨g + 1, 16, none⟩ (.int .i64 (m % 1024))).setCell ⟨g + 1, 17, none⟩ (.int .i64 e.s)).setCell ⟨g + 1, 18, none⟩ (.int .i64 e.q)).setCell ⟨g + 1, 19, none⟩ (.int .i64 e.c.kind)).setCell ⟨g + 1, 20, none⟩ (.int .i64 e.c.who)).setCell ⟨g + 1, 21, none⟩ (.slice ca.Ak e.c.key.length ca.ck)).setCell ⟨g + 1, 22, none⟩ (.slice ca.Av e.c.val.length ca.cv)).setCell ⟨g + 1, 23, none⟩ (.slice ca.Ao e.c.old.length ca.co)) g #[.int .i64 kk, .int .i64 (n / 8 % 8 % 7), .int .i64 (n / 64 % 8 % 7), .int .i64 (n / 512 % 1024), .int .i64 0, .int .i64 0, .bool false, .int .i64 0, .int .i64 0, .int .i64 0, .int .i64 0, .slice none 0 0, .int .i64 0, .int .i64 0, .slice none 0 0, .slice none 0 0, .int .i64 (m % 1024), .int .i64 e.s, .int .i64 e.q, .int .i64 e.c.kind, .int .i64 e.c.who, .slice ca.Ak e.c.key.length ca.ck, .slice ca.Av e.c.val.length ca.cv, .slice ca.Ao e.c.old.length ca.co] := hb7.put 23 (.slice ca.Ao e.c.old.length ca.co)
    have HR := Lib.hid hr8
    have HS := Lib.hid hb8
    clear hb0 hr0 hb1 hr1 hb2 hr2 hb3 hr3 hb4 hr4 hb5 hr5 hb6 hr6 hb7 hr7 hb8 hr8
    clear x16 f16 x17 f17 x18 f18 x19 f19 x20 f20 x21 f21 x22 f22 x23 f23
    generalize ((((((((w1.setCell ⟨g + 1, 16, none⟩ (.int .i64 (m % 1024))).setCell ⟨g + 1, 17, none⟩ (.int .i64 e.s)).setCell ⟨g + 1, 18, none⟩ (.int .i64 e.q)).setCell ⟨g + 1, 19, none⟩ (.int .i64 e.c.kind)).setCell ⟨g + 1, 20, none⟩ (.int .i64 e.c.who)).setCell ⟨g + 1, 21, none⟩ (.slice ca.Ak e.c.key.length ca.ck)).setCell ⟨g + 1, 22, none⟩ (.slice ca.Av e.c.val.length ca.cv)).setCell ⟨g + 1, 23, none⟩ (.slice ca.Ao e.c.old.length ca.co)) = wy at HS HR ⊢
    have x20 : wy.cell? ⟨g + 1, 20, none⟩ = some (.int .i64 e.c.who) := HS.out.blk.cell 20
    have f20 := HS.out.blk.frozen 20
    go_upto_region 28 with fail
    have HR := Lib.hid (HR.out.setK (i := 20) (u := .int .i64 (if e.c.who < 0 then 0 else e.c.who)) HS.out.blk (noB24 (by rfl) (by rfl)))
    have HS := Lib.hid (HS.out.put 20 (.int .i64 (if e.c.who < 0 then 0 else e.c.who)))
    clear x20 f20
    generalize wy.setCell ⟨g + 1, 20, none⟩ (.int .i64 (if e.c.who < 0 then 0 else e.c.who)) = wz at HS HR ⊢
    obtain ⟨wh, hwh⟩ : ∃ wh : Int, (if e.c.who < 0 then 0 else e.c.who) = wh := ⟨_, rfl⟩
    rw [hwh] at HS ⊢
    have HWH := Lib.hid hwh
    clear hwh
    go_wp2_with (first
      | (refine wpList_load_row rfl 31 (.tmp 5) rfl (g + 1) rfl 31 #[.int .i64 kk, .int .i64 (n / 8 % 8 % 7), .int .i64 (n / 64 % 8 % 7), .int .i64 (n / 512 % 1024), .int .i64 0, .int .i64 0, .bool false, .int .i64 0, .int .i64 0, .int .i64 0, .int .i64 0, .slice none 0 0, .int .i64 0, .int .i64 0, .slice none 0 0, .slice none 0 0, .int .i64 (m % 1024), .int .i64 e.s, .int .i64 e.q, .int .i64 e.c.kind, .int .i64 wh, .slice ca.Ak e.c.key.length ca.ck, .slice ca.Av e.c.val.length ca.cv, .slice ca.Ao e.c.old.length ca.co] (0, 0) _ HS.out.blk Try.underlying31 rfl (by kernel_rfl) ?_)
      | (refine wpList_store_row rfl 31 (.tmp 4) (.tmp 149) rfl g #[.int .i64 kk, .int .i64 (n / 8 % 8 % 7), .int .i64 (n / 64 % 8 % 7), .int .i64 (n / 512 % 1024), .int .i64 0, .int .i64 0, .bool false, .int .i64 0, .int .i64 0, .int .i64 0, .int .i64 0, .slice none 0 0, .int .i64 0, .int .i64 0, .slice none 0 0, .slice none 0 0, .int .i64 (m % 1024), .int .i64 e.s, .int .i64 e.q, .int .i64 e.c.kind, .int .i64 wh, .slice ca.Ak e.c.key.length ca.ck, .slice ca.Av e.c.val.length ca.cv, .slice ca.Ao e.c.old.length ca.co] rfl rfl 31 msgZ HS.out.res (by kernel_rfl) rfl (by kernel_rfl) ?_)
      | fail)
    have hbelE : Below w.heap.size w (wz.setRow g #[.int .i64 kk, .int .i64 (n / 8 % 8 % 7), .int .i64 (n / 64 % 8 % 7), .int .i64 (n / 512 % 1024), .int .i64 0, .int .i64 0, .bool false, .int .i64 0, .int .i64 0, .int .i64 0, .int .i64 0, .slice none 0 0, .int .i64 0, .int .i64 0, .slice none 0 0, .slice none 0 0, .int .i64 (m % 1024), .int .i64 e.s, .int .i64 e.q, .int .i64 e.c.kind, .int .i64 wh, .slice ca.Ak e.c.key.length ca.ck, .slice ca.Av e.c.val.length ca.cv, .slice ca.Ao e.c.old.length ca.co]) := below_setRow HS.out.bel (by rw [HS.out.hg]; exact Nat.le_refl _) _
    refine bodyPost_ret (results_cell_row rfl _ _ _ _ _ _ _ rfl (HS.out.res.row #[.int .i64 kk, .int .i64 (n / 8 % 8 % 7), .int .i64 (n / 64 % 8 % 7), .int .i64 (n / 512 % 1024), .int .i64 0, .int .i64 0, .bool false, .int .i64 0, .int .i64 0, .int .i64 0, .int .i64 0, .slice none 0 0, .int .i64 0, .int .i64 0, .slice none 0 0, .slice none 0 0, .int .i64 (m % 1024), .int .i64 e.s, .int .i64 e.q, .int .i64 e.c.kind, .int .i64 wh, .slice ca.Ak e.c.key.length ca.ck, .slice ca.Av e.c.val.length ca.cv, .slice ca.Ao e.c.old.length ca.co]) Try.underlying31 rfl (by kernel_rfl)) rfl ?_
    have hkk := HKK.out
    have cK := HCK.out
    have hE := HE.out
    have hI := HI.out
    have hwh := HWH.out
    have hm : mgOf n m = { hdOf n with idx := m % 1024, ent := entMax e } := by unfold mgOf; rw [if_neg (by omega), if_neg (by omega), if_neg (by omega), if_neg (by omega), if_neg (by omega), if_pos (by omega), hI, hE]
    rw [hm]
    clear hm
    subst hkk
    subst hwh
    exact ⟨⟨none, 0, none, 0, none, 0, ca⟩, rfl, ⟨Rd.none_ _ _ _, Rd.none_ _ _ _, Rd.none_ _ _ _, (by have q := RdC.setRowK (c := #[.int .i64 (n % 8 + 1), .int .i64 (n / 8 % 8 % 7), .int .i64 (n / 64 % 8 % 7), .int .i64 (n / 512 % 1024), .int .i64 0, .int .i64 0, .bool false, .int .i64 0, .int .i64 0, .int .i64 0, .int .i64 0, .slice none 0 0, .int .i64 0, .int .i64 0, .slice none 0 0, .slice none 0 0, .int .i64 (m % 1024), .int .i64 e.s, .int .i64 e.q, .int .i64 e.c.kind, .int .i64 (if e.c.who < 0 then 0 else e.c.who), .slice ca.Ak e.c.key.length ca.ck, .slice ca.Av e.c.val.length ca.cv, .slice ca.Ao e.c.old.length ca.co]) HR.out HS.out.res (noB24 (by rfl) (by rfl)); exact ⟨q.rk, q.rv, q.ro⟩), ⟨Nat.le_refl _, Nat.zero_le _⟩, ⟨Nat.le_refl _, Nat.zero_le _⟩⟩, hbelE⟩
  have r2 : (kk == 2) = false := by rw [beq_eq_false_iff_ne]; omega
  have r3 : (kk == 3) = false := by rw [beq_eq_false_iff_ne]; omega
  have r4 : (kk == 4) = false := by rw [beq_eq_false_iff_ne]; omega
  have r5 : (kk == 5) = false := by rw [beq_eq_false_iff_ne]; omega
  have r7 : (kk == 7) = false := by rw [beq_eq_false_iff_ne]; omega
  have r8 : (kk == 8) = false := by rw [beq_eq_false_iff_ne]; omega
  have x0 : wx.cell? ⟨g + 1, 0, none⟩ = some (.int .i64 kk) := HS.out.blk.cell 0
  go_upto_region 28 with fail
  clear x0
  go_wp2_with (first
    | (refine wpList_load_row rfl 31 (.tmp 5) rfl (g + 1) rfl 31 #[.int .i64 kk, .int .i64 (n / 8 % 8 % 7), .int .i64 (n / 64 % 8 % 7), .int .i64 (n / 512 % 1024), .int .i64 0, .int .i64 0, .bool false, .int .i64 0, .int .i64 0, .int .i64 0, .int .i64 0, .slice none 0 0, .int .i64 0, .int .i64 0, .slice none 0 0, .slice none 0 0, .int .i64 0, .int .i64 0, .int .i64 0, .int .i64 0, .int .i64 0, .slice none 0 0, .slice none 0 0, .slice none 0 0] (0, 0) _ HS.out.blk Try.underlying31 rfl (by kernel_rfl) ?_)
    | (refine wpList_store_row rfl 31 (.tmp 4) (.tmp 149) rfl g #[.int .i64 kk, .int .i64 (n / 8 % 8 % 7), .int .i64 (n / 64 % 8 % 7), .int .i64 (n / 512 % 1024), .int .i64 0, .int .i64 0, .bool false, .int .i64 0, .int .i64 0, .int .i64 0, .int .i64 0, .slice none 0 0, .int .i64 0, .int .i64 0, .slice none 0 0, .slice none 0 0, .int .i64 0, .int .i64 0, .int .i64 0, .int .i64 0, .int .i64 0, .slice none 0 0, .slice none 0 0, .slice none 0 0] rfl rfl 31 msgZ HS.out.res (by kernel_rfl) rfl (by kernel_rfl) ?_)
    | fail)
  have hbelE : Below w.heap.size w (wx.setRow g #[.int .i64 kk, .int .i64 (n / 8 % 8 % 7), .int .i64 (n / 64 % 8 % 7), .int .i64 (n / 512 % 1024), .int .i64 0, .int .i64 0, .bool false, .int .i64 0, .int .i64 0, .int .i64 0, .int .i64 0, .slice none 0 0, .int .i64 0, .int .i64 0, .slice none 0 0, .slice none 0 0, .int .i64 0, .int .i64 0, .int .i64 0, .int .i64 0, .int .i64 0, .slice none 0 0, .slice none 0 0, .slice none 0 0]) := below_setRow HS.out.bel (by rw [HS.out.hg]; exact Nat.le_refl _) _
  refine bodyPost_ret (results_cell_row rfl _ _ _ _ _ _ _ rfl (HS.out.res.row #[.int .i64 kk, .int .i64 (n / 8 % 8 % 7), .int .i64 (n / 64 % 8 % 7), .int .i64 (n / 512 % 1024), .int .i64 0, .int .i64 0, .bool false, .int .i64 0, .int .i64 0, .int .i64 0, .int .i64 0, .slice none 0 0, .int .i64 0, .int .i64 0, .slice none 0 0, .slice none 0 0, .int .i64 0, .int .i64 0, .int .i64 0, .int .i64 0, .int .i64 0, .slice none 0 0, .slice none 0 0, .slice none 0 0]) Try.underlying31 rfl (by kernel_rfl)) rfl ?_
  have hkk := HKK.out
  have hm : mgOf n m = hdOf n := by unfold mgOf; rw [if_neg (by omega), if_neg (by omega), if_neg (by omega), if_neg (by omega), if_neg (by omega), if_neg (by omega)]
  rw [hm]
  clear hm
  subst hkk
  exact ⟨GA.zero, rfl, ⟨Rd.none_ _ _ _, Rd.none_ _ _ _, Rd.none_ _ _ _, RdC.zero _ _, ⟨Nat.le_refl _, Nat.zero_le _⟩, ⟨Nat.le_refl _, Nat.zero_le _⟩⟩, hbelE⟩
end Go.Proofs.Ytneehnoolhadbaa

