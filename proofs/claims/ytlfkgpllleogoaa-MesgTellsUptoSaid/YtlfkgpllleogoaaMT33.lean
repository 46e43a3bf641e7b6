/- MesgAR -/
import Derived.Test.YtlfkgpllleogoaaMT26
namespace Go.Proofs.Ytlfkgpllleogoaa
open Go.RowKit
set_option linter.unusedVariables false
set_option maxHeartbeats 8000000 in
set_option maxRecDepth 100000 in
theorem ralong_any (w : World) (b : Nat) (u0 : Pk.St) (h : RdrAt w b u0) :
    Calls Try.prog 39 #[.iface 72 (.agg #[.pointer (some ⟨b, 0, none⟩)]), .agg #[.int .i64 0, .int .i64 0, .int .i64 0, .int .i64 0, .int .i64 0, .int .i64 0, .bool false, .int .i64 0, .int .i64 0, .int .i64 0, .int .i64 0, .slice none 0 0, .int .i64 0, .int .i64 0, .slice none 0 0, .slice none 0 0, .int .i64 0, .int .i64 0, .int .i64 0, .int .i64 0, .int .i64 0, .slice none 0 0, .slice none 0 0, .slice none 0 0]] w fun e w' => ∃ a, e = .returned (msgV a (Mg.get u0).1) ∧ OwnG w w' a (Mg.get u0).1 ∧ RdrAt w' b (Mg.get u0).2 ∧ Only b w w' := by
  have hm1 := m_rnum b
  have hm2 := m_rnums b
  have hm3 := m_rdata b
  have hm4 := m_rentry b
  have hbl := h.lt
  have HBL := Lib.hid hbl
  obtain ⟨g, hg⟩ : ∃ g, w.heap.size = g := ⟨_, rfl⟩
  obtain ⟨wx, hwx⟩ : ∃ wx, (w.alloc (.cells #[.int .i64 0, .int .i64 0, .int .i64 0, .int .i64 0, .int .i64 0, .int .i64 0, .bool false, .int .i64 0, .int .i64 0, .int .i64 0, .int .i64 0, .slice none 0 0, .int .i64 0, .int .i64 0, .slice none 0 0, .slice none 0 0, .int .i64 0, .int .i64 0, .int .i64 0, .int .i64 0, .int .i64 0, .slice none 0 0, .slice none 0 0, .slice none 0 0] 29)).alloc (.cells #[.int .i64 0, .int .i64 0, .int .i64 0, .int .i64 0, .int .i64 0, .int .i64 0, .bool false, .int .i64 0, .int .i64 0, .int .i64 0, .int .i64 0, .slice none 0 0, .int .i64 0, .int .i64 0, .slice none 0 0, .slice none 0 0, .int .i64 0, .int .i64 0, .int .i64 0, .int .i64 0, .int .i64 0, .slice none 0 0, .slice none 0 0, .slice none 0 0] 29) = wx := ⟨_, rfl⟩
  have hbb : Below w.heap.size w wx := by rw [← hwx]; exact ((Below.refl _ _).alloc (Nat.le_refl _) _).alloc (by rw [World.size_alloc]; omega) _
  have hk : Blk wx g 29 #[.int .i64 0, .int .i64 0, .int .i64 0, .int .i64 0, .int .i64 0, .int .i64 0, .bool false, .int .i64 0, .int .i64 0, .int .i64 0, .int .i64 0, .slice none 0 0, .int .i64 0, .int .i64 0, .slice none 0 0, .slice none 0 0, .int .i64 0, .int .i64 0, .int .i64 0, .int .i64 0, .int .i64 0, .slice none 0 0, .slice none 0 0, .slice none 0 0] := by rw [← hwx, ← hg]; exact (Blk.new _ _ _).alloc _
  have hz : Blk wx (g + 1) 29 msgZ := by
    rw [← hwx, ← hg]
    have := Blk.new (w.alloc (.cells #[.int .i64 0, .int .i64 0, .int .i64 0, .int .i64 0, .int .i64 0, .int .i64 0, .bool false, .int .i64 0, .int .i64 0, .int .i64 0, .int .i64 0, .slice none 0 0, .int .i64 0, .int .i64 0, .slice none 0 0, .slice none 0 0, .int .i64 0, .int .i64 0, .int .i64 0, .int .i64 0, .int .i64 0, .slice none 0 0, .slice none 0 0, .slice none 0 0] 29)) 29 #[.int .i64 0, .int .i64 0, .int .i64 0, .int .i64 0, .int .i64 0, .int .i64 0, .bool false, .int .i64 0, .int .i64 0, .int .i64 0, .int .i64 0, .slice none 0 0, .int .i64 0, .int .i64 0, .slice none 0 0, .slice none 0 0, .int .i64 0, .int .i64 0, .int .i64 0, .int .i64 0, .int .i64 0, .slice none 0 0, .slice none 0 0, .slice none 0 0]
    rwa [World.size_alloc] at this
  have HS : Hid (RaSt w wx b g #[.int .i64 0, .int .i64 0, .int .i64 0, .int .i64 0, .int .i64 0, .int .i64 0, .bool false, .int .i64 0, .int .i64 0, .int .i64 0, .int .i64 0, .slice none 0 0, .int .i64 0, .int .i64 0, .slice none 0 0, .slice none 0 0, .int .i64 0, .int .i64 0, .int .i64 0, .int .i64 0, .int .i64 0, .slice none 0 0, .slice none 0 0, .slice none 0 0] u0) := Lib.hid ⟨(⟨h, only_refl b w⟩ : RgSt w w b u0).below hbb, hk, hz, hbl, by omega⟩
  have HWX := Lib.hid hwx
  have HG := Lib.hid hg
  obtain ⟨v0, d0⟩ : ∃ x, Pk.numV u0 8 = x := ⟨_, rfl⟩
  obtain ⟨u1, e0⟩ : ∃ x, Pk.numS u0 8 = x := ⟨_, rfl⟩
  obtain ⟨v1, d1⟩ : ∃ x, Pk.numV u1 6 = x := ⟨_, rfl⟩
  obtain ⟨u2, e1⟩ : ∃ x, Pk.numS u1 6 = x := ⟨_, rfl⟩
  obtain ⟨v2, d2⟩ : ∃ x, Pk.numV u2 6 = x := ⟨_, rfl⟩
  obtain ⟨u3, e2⟩ : ∃ x, Pk.numS u2 6 = x := ⟨_, rfl⟩
  obtain ⟨v3, d3⟩ : ∃ x, Pk.numV u3 1099511627776 = x := ⟨_, rfl⟩
  obtain ⟨u4, e3⟩ : ∃ x, Pk.numS u3 1099511627776 = x := ⟨_, rfl⟩
  have D0 := Lib.hid d0
  have E0 := Lib.hid e0
  have D1 := Lib.hid d1
  have E1 := Lib.hid e1
  have D2 := Lib.hid d2
  have E2 := Lib.hid e2
  have D3 := Lib.hid d3
  have E3 := Lib.hid e3
  clear h hbl hbb hk hz hwx hg d0 e0 d1 e1 d2 e2 d3 e3
  go_enter Try.func39, Try.ntmps39
  go_upto_region 1 with fail
  rw [HG.out, HWX.out]
  clear HWX
  have C := Lib.hid (HS.out.num 0 8 D0.out E0.out)
  have x0 : wx.cell? ⟨g, 0, none⟩ = some (.int .i64 0) := HS.out.blk.cell 0
  go_upto_region 2 with (first
    | (go_at_call 111; refine C.out.mono ?_; rintro en w1 ⟨rfl, hs, ho⟩
       have HS := Lib.hid hs
       have x0 : w1.cell? ⟨g, 0, none⟩ = some (.int .i64 0) := hs.blk.cell 0
       have f0 := hs.blk.frozen 0
       clear hs C ho)
    | fail)
  clear x0 f0
  have HS : Hid (RaSt w (w1.setCell ⟨g, 0, none⟩ (.int .i64 (v0 : Int))) b g #[.int .i64 (v0 : Int), .int .i64 0, .int .i64 0, .int .i64 0, .int .i64 0, .int .i64 0, .bool false, .int .i64 0, .int .i64 0, .int .i64 0, .int .i64 0, .slice none 0 0, .int .i64 0, .int .i64 0, .slice none 0 0, .slice none 0 0, .int .i64 0, .int .i64 0, .int .i64 0, .int .i64 0, .int .i64 0, .slice none 0 0, .slice none 0 0, .slice none 0 0] u1) := Lib.hid (HS.out.put 0 (.int .i64 (v0 : Int)))
  generalize w1.setCell ⟨g, 0, none⟩ (.int .i64 (v0 : Int)) = wx at HS ⊢
  have C := Lib.hid (HS.out.num 0 6 D1.out E1.out)
  have x0 : wx.cell? ⟨g, 1, none⟩ = some (.int .i64 0) := HS.out.blk.cell 1
  go_upto_region 3 with (first
    | (go_at_call 111; refine C.out.mono ?_; rintro en w1 ⟨rfl, hs, ho⟩
       have HS := Lib.hid hs
       have x0 : w1.cell? ⟨g, 1, none⟩ = some (.int .i64 0) := hs.blk.cell 1
       have f0 := hs.blk.frozen 1
       clear hs C ho)
    | fail)
  clear x0 f0
  have HS : Hid (RaSt w (w1.setCell ⟨g, 1, none⟩ (.int .i64 (v1 : Int))) b g #[.int .i64 (v0 : Int), .int .i64 (v1 : Int), .int .i64 0, .int .i64 0, .int .i64 0, .int .i64 0, .bool false, .int .i64 0, .int .i64 0, .int .i64 0, .int .i64 0, .slice none 0 0, .int .i64 0, .int .i64 0, .slice none 0 0, .slice none 0 0, .int .i64 0, .int .i64 0, .int .i64 0, .int .i64 0, .int .i64 0, .slice none 0 0, .slice none 0 0, .slice none 0 0] u2) := Lib.hid (HS.out.put 1 (.int .i64 (v1 : Int)))
  generalize w1.setCell ⟨g, 1, none⟩ (.int .i64 (v1 : Int)) = wx at HS ⊢
  have C := Lib.hid (HS.out.num 0 6 D2.out E2.out)
  have x0 : wx.cell? ⟨g, 2, none⟩ = some (.int .i64 0) := HS.out.blk.cell 2
  go_upto_region 4 with (first
    | (go_at_call 111; refine C.out.mono ?_; rintro en w1 ⟨rfl, hs, ho⟩
       have HS := Lib.hid hs
       have x0 : w1.cell? ⟨g, 2, none⟩ = some (.int .i64 0) := hs.blk.cell 2
       have f0 := hs.blk.frozen 2
       clear hs C ho)
    | fail)
  clear x0 f0
  have HS : Hid (RaSt w (w1.setCell ⟨g, 2, none⟩ (.int .i64 (v2 : Int))) b g #[.int .i64 (v0 : Int), .int .i64 (v1 : Int), .int .i64 (v2 : Int), .int .i64 0, .int .i64 0, .int .i64 0, .bool false, .int .i64 0, .int .i64 0, .int .i64 0, .int .i64 0, .slice none 0 0, .int .i64 0, .int .i64 0, .slice none 0 0, .slice none 0 0, .int .i64 0, .int .i64 0, .int .i64 0, .int .i64 0, .int .i64 0, .slice none 0 0, .slice none 0 0, .slice none 0 0] u3) := Lib.hid (HS.out.put 2 (.int .i64 (v2 : Int)))
  generalize w1.setCell ⟨g, 2, none⟩ (.int .i64 (v2 : Int)) = wx at HS ⊢
  have C := Lib.hid (HS.out.num 0 1099511627776 D3.out E3.out)
  have x0 : wx.cell? ⟨g, 3, none⟩ = some (.int .i64 0) := HS.out.blk.cell 3
  go_upto_region 5 with (first
    | (go_at_call 111; refine C.out.mono ?_; rintro en w1 ⟨rfl, hs, ho⟩
       have HS := Lib.hid hs
       have x0 : w1.cell? ⟨g, 3, none⟩ = some (.int .i64 0) := hs.blk.cell 3
       have f0 := hs.blk.frozen 3
       clear hs C ho)
    | fail)
  clear x0 f0
  have HS : Hid (RaSt w (w1.setCell ⟨g, 3, none⟩ (.int .i64 (v3 : Int))) b g #[.int .i64 (v0 : Int), .int .i64 (v1 : Int), .int .i64 (v2 : Int), .int .i64 (v3 : Int), .int .i64 0, .int .i64 0, .bool false, .int .i64 0, .int .i64 0, .int .i64 0, .int .i64 0, .slice none 0 0, .int .i64 0, .int .i64 0, .slice none 0 0, .slice none 0 0, .int .i64 0, .int .i64 0, .int .i64 0, .int .i64 0, .int .i64 0, .slice none 0 0, .slice none 0 0, .slice none 0 0] u4) := Lib.hid (HS.out.put 3 (.int .i64 (v3 : Int)))
  generalize w1.setCell ⟨g, 3, none⟩ (.int .i64 (v3 : Int)) = wx at HS ⊢
  by_cases c2 : v0 = 2
  · obtain ⟨v4, d4⟩ : ∃ x, Pk.numV u4 1099511627776 = x := ⟨_, rfl⟩
    obtain ⟨u5, e4⟩ : ∃ x, Pk.numS u4 1099511627776 = x := ⟨_, rfl⟩
    obtain ⟨v5, d5⟩ : ∃ x, Pk.numV u5 1099511627776 = x := ⟨_, rfl⟩
    obtain ⟨u6, e5⟩ : ∃ x, Pk.numS u5 1099511627776 = x := ⟨_, rfl⟩
    obtain ⟨v6, d6⟩ : ∃ x, Pk.numV u6 1 = x := ⟨_, rfl⟩
    obtain ⟨u7, e6⟩ : ∃ x, Pk.numS u6 1 = x := ⟨_, rfl⟩
    have HRES : Hid (Mg.get u0 = (⟨(v0 : Int), (v1 : Int), (v2 : Int), (v3 : Int), (v4 : Int), (v5 : Int), decide (v6 = 1), 0, 0, 0, 0, [], 0, 0, [], [], 0, En.zero⟩, u7)) := Lib.hid (by
      unfold Mg.get hd s4
      have d0 := D0.out
      have e0 := E0.out
      have d1 := D1.out
      have e1 := E1.out
      have d2 := D2.out
      have e2 := E2.out
      have d3 := D3.out
      have e3 := E3.out
      simp only [d0, e0, d1, e1, d2, e2, d3, e3, d4, e4, d5, e5, d6, e6, if_pos c2]
      rfl)
    have D4 := Lib.hid d4
    have E4 := Lib.hid e4
    have D5 := Lib.hid d5
    have E5 := Lib.hid e5
    have D6 := Lib.hid d6
    have E6 := Lib.hid e6
    clear d4 e4 d5 e5 d6 e6
    have r2 : ((v0 : Int) == 2) = true := by rw [beq_iff_eq]; omega
    clear c2
    have x0 : wx.cell? ⟨g, 0, none⟩ = some (.int .i64 (v0 : Int)) := HS.out.blk.cell 0
    go_upto_region 7 with fail
    clear x0
    have C := Lib.hid (HS.out.num 0 1099511627776 D4.out E4.out)
    have x0 : wx.cell? ⟨g, 4, none⟩ = some (.int .i64 0) := HS.out.blk.cell 4
    go_upto_region 8 with (first
      | (go_at_call 111; refine C.out.mono ?_; rintro en w1 ⟨rfl, hs, ho⟩
         have HS := Lib.hid hs
         have x0 : w1.cell? ⟨g, 4, none⟩ = some (.int .i64 0) := hs.blk.cell 4
         have f0 := hs.blk.frozen 4
         clear hs C ho)
      | fail)
    clear x0 f0
    have HS : Hid (RaSt w (w1.setCell ⟨g, 4, none⟩ (.int .i64 (v4 : Int))) b g #[.int .i64 (v0 : Int), .int .i64 (v1 : Int), .int .i64 (v2 : Int), .int .i64 (v3 : Int), .int .i64 (v4 : Int), .int .i64 0, .bool false, .int .i64 0, .int .i64 0, .int .i64 0, .int .i64 0, .slice none 0 0, .int .i64 0, .int .i64 0, .slice none 0 0, .slice none 0 0, .int .i64 0, .int .i64 0, .int .i64 0, .int .i64 0, .int .i64 0, .slice none 0 0, .slice none 0 0, .slice none 0 0] u5) := Lib.hid (HS.out.put 4 (.int .i64 (v4 : Int)))
    generalize w1.setCell ⟨g, 4, none⟩ (.int .i64 (v4 : Int)) = wx at HS ⊢
    have C := Lib.hid (HS.out.num 0 1099511627776 D5.out E5.out)
    have x0 : wx.cell? ⟨g, 5, none⟩ = some (.int .i64 0) := HS.out.blk.cell 5
    go_upto_region 9 with (first
      | (go_at_call 111; refine C.out.mono ?_; rintro en w1 ⟨rfl, hs, ho⟩
         have HS := Lib.hid hs
         have x0 : w1.cell? ⟨g, 5, none⟩ = some (.int .i64 0) := hs.blk.cell 5
         have f0 := hs.blk.frozen 5
         clear hs C ho)
      | fail)
    clear x0 f0
    have HS : Hid (RaSt w (w1.setCell ⟨g, 5, none⟩ (.int .i64 (v5 : Int))) b g #[.int .i64 (v0 : Int), .int .i64 (v1 : Int), .int .i64 (v2 : Int), .int .i64 (v3 : Int), .int .i64 (v4 : Int), .int .i64 (v5 : Int), .bool false, .int .i64 0, .int .i64 0, .int .i64 0, .int .i64 0, .slice none 0 0, .int .i64 0, .int .i64 0, .slice none 0 0, .slice none 0 0, .int .i64 0, .int .i64 0, .int .i64 0, .int .i64 0, .int .i64 0, .slice none 0 0, .slice none 0 0, .slice none 0 0] u6) := Lib.hid (HS.out.put 5 (.int .i64 (v5 : Int)))
    generalize w1.setCell ⟨g, 5, none⟩ (.int .i64 (v5 : Int)) = wx at HS ⊢
    have C := Lib.hid (HS.out.flag false D6.out E6.out)
    have x0 : wx.cell? ⟨g, 6, none⟩ = some (.bool false) := HS.out.blk.cell 6
    go_upto_region 28 with (first
      | (go_at_call 67; refine C.out.mono ?_; rintro en w1 ⟨rfl, hs, ho⟩
         have HS := Lib.hid hs
         have x0 : w1.cell? ⟨g, 6, none⟩ = some (.bool false) := hs.blk.cell 6
         have f0 := hs.blk.frozen 6
         clear hs C ho)
      | fail)
    clear x0 f0
    have HS : Hid (RaSt w (w1.setCell ⟨g, 6, none⟩ (.bool (decide (v6 = 1)))) b g #[.int .i64 (v0 : Int), .int .i64 (v1 : Int), .int .i64 (v2 : Int), .int .i64 (v3 : Int), .int .i64 (v4 : Int), .int .i64 (v5 : Int), .bool (decide (v6 = 1)), .int .i64 0, .int .i64 0, .int .i64 0, .int .i64 0, .slice none 0 0, .int .i64 0, .int .i64 0, .slice none 0 0, .slice none 0 0, .int .i64 0, .int .i64 0, .int .i64 0, .int .i64 0, .int .i64 0, .slice none 0 0, .slice none 0 0, .slice none 0 0] u7) := Lib.hid (HS.out.put 6 (.bool (decide (v6 = 1))))
    generalize w1.setCell ⟨g, 6, none⟩ (.bool (decide (v6 = 1))) = wx at HS ⊢
    go_wp2_with (first
      | (refine wpList_load_row rfl 29 (.tmp 3) rfl g rfl 29 #[.int .i64 (v0 : Int), .int .i64 (v1 : Int), .int .i64 (v2 : Int), .int .i64 (v3 : Int), .int .i64 (v4 : Int), .int .i64 (v5 : Int), .bool (decide (v6 = 1)), .int .i64 0, .int .i64 0, .int .i64 0, .int .i64 0, .slice none 0 0, .int .i64 0, .int .i64 0, .slice none 0 0, .slice none 0 0, .int .i64 0, .int .i64 0, .int .i64 0, .int .i64 0, .int .i64 0, .slice none 0 0, .slice none 0 0, .slice none 0 0] (0, 0) _ HS.out.blk Try.underlying29 rfl (by kernel_rfl) ?_)
      | (refine wpList_store_row rfl 29 (.tmp 4) (.tmp 119) rfl (g + 1) #[.int .i64 (v0 : Int), .int .i64 (v1 : Int), .int .i64 (v2 : Int), .int .i64 (v3 : Int), .int .i64 (v4 : Int), .int .i64 (v5 : Int), .bool (decide (v6 = 1)), .int .i64 0, .int .i64 0, .int .i64 0, .int .i64 0, .slice none 0 0, .int .i64 0, .int .i64 0, .slice none 0 0, .slice none 0 0, .int .i64 0, .int .i64 0, .int .i64 0, .int .i64 0, .int .i64 0, .slice none 0 0, .slice none 0 0, .slice none 0 0] rfl rfl 29 msgZ HS.out.res (by kernel_rfl) rfl (by kernel_rfl) ?_)
      | fail)
    refine bodyPost_ret (results_cell_row rfl _ _ _ _ _ _ _ rfl (HS.out.res.row #[.int .i64 (v0 : Int), .int .i64 (v1 : Int), .int .i64 (v2 : Int), .int .i64 (v3 : Int), .int .i64 (v4 : Int), .int .i64 (v5 : Int), .bool (decide (v6 = 1)), .int .i64 0, .int .i64 0, .int .i64 0, .int .i64 0, .slice none 0 0, .int .i64 0, .int .i64 0, .slice none 0 0, .slice none 0 0, .int .i64 0, .int .i64 0, .int .i64 0, .int .i64 0, .int .i64 0, .slice none 0 0, .slice none 0 0, .slice none 0 0]) Try.underlying29 rfl (by kernel_rfl)) rfl ?_
    have hown : OwnG w wx ⟨none, 0, none, 0, none, 0, CA.zero⟩ ⟨(v0 : Int), (v1 : Int), (v2 : Int), (v3 : Int), (v4 : Int), (v5 : Int), decide (v6 = 1), 0, 0, 0, 0, [], 0, 0, [], [], 0, En.zero⟩ := ⟨own_nil _ _, ownI_nil _ _, ownI_nil _ _, OwnC.zero _ _⟩
    obtain ⟨g1, g2⟩ := HS.out.rowS hown #[.int .i64 (v0 : Int), .int .i64 (v1 : Int), .int .i64 (v2 : Int), .int .i64 (v3 : Int), .int .i64 (v4 : Int), .int .i64 (v5 : Int), .bool (decide (v6 = 1)), .int .i64 0, .int .i64 0, .int .i64 0, .int .i64 0, .slice none 0 0, .int .i64 0, .int .i64 0, .slice none 0 0, .slice none 0 0, .int .i64 0, .int .i64 0, .int .i64 0, .int .i64 0, .int .i64 0, .slice none 0 0, .slice none 0 0, .slice none 0 0]
    rw [HRES.out]
    exact ⟨_, rfl, g2, g1.r, g1.only⟩
  by_cases c3 : v0 = 3
  · obtain ⟨v4, d4⟩ : ∃ x, Pk.numV u4 127 = x := ⟨_, rfl⟩
    obtain ⟨u5, e4⟩ : ∃ x, Pk.numS u4 127 = x := ⟨_, rfl⟩
    obtain ⟨v5, d5⟩ : ∃ x, Pk.numV u5 6 = x := ⟨_, rfl⟩
    obtain ⟨u6, e5⟩ : ∃ x, Pk.numS u5 6 = x := ⟨_, rfl⟩
    obtain ⟨v6, d6⟩ : ∃ x, Pk.numV u6 1099511627776 = x := ⟨_, rfl⟩
    obtain ⟨u7, e6⟩ : ∃ x, Pk.numS u6 1099511627776 = x := ⟨_, rfl⟩
    have HRES : Hid (Mg.get u0 = (⟨(v0 : Int), (v1 : Int), (v2 : Int), (v3 : Int), 0, (v6 : Int), false, (v4 : Int), (v5 : Int), 0, 0, [], 0, 0, [], [], 0, En.zero⟩, u7)) := Lib.hid (by
      unfold Mg.get hd s4
      have d0 := D0.out
      have e0 := E0.out
      have d1 := D1.out
      have e1 := E1.out
      have d2 := D2.out
      have e2 := E2.out
      have d3 := D3.out
      have e3 := E3.out
      simp only [d0, e0, d1, e1, d2, e2, d3, e3, d4, e4, d5, e5, d6, e6, if_neg c2, if_pos c3]
      rfl)
    have D4 := Lib.hid d4
    have E4 := Lib.hid e4
    have D5 := Lib.hid d5
    have E5 := Lib.hid e5
    have D6 := Lib.hid d6
    have E6 := Lib.hid e6
    clear d4 e4 d5 e5 d6 e6
    have r2 : ((v0 : Int) == 2) = false := by rw [beq_eq_false_iff_ne]; omega
    have r3 : ((v0 : Int) == 3) = true := by rw [beq_iff_eq]; omega
    clear c3
    have x0 : wx.cell? ⟨g, 0, none⟩ = some (.int .i64 (v0 : Int)) := HS.out.blk.cell 0
    go_upto_region 11 with fail
    clear x0
    have C := Lib.hid (HS.out.num 0 127 D4.out E4.out)
    have x0 : wx.cell? ⟨g, 7, none⟩ = some (.int .i64 0) := HS.out.blk.cell 7
    go_upto_region 12 with (first
      | (go_at_call 111; refine C.out.mono ?_; rintro en w1 ⟨rfl, hs, ho⟩
         have HS := Lib.hid hs
         have x0 : w1.cell? ⟨g, 7, none⟩ = some (.int .i64 0) := hs.blk.cell 7
         have f0 := hs.blk.frozen 7
         clear hs C ho)
      | fail)
    clear x0 f0
    have HS : Hid (RaSt w (w1.setCell ⟨g, 7, none⟩ (.int .i64 (v4 : Int))) b g #[.int .i64 (v0 : Int), .int .i64 (v1 : Int), .int .i64 (v2 : Int), .int .i64 (v3 : Int), .int .i64 0, .int .i64 0, .bool false, .int .i64 (v4 : Int), .int .i64 0, .int .i64 0, .int .i64 0, .slice none 0 0, .int .i64 0, .int .i64 0, .slice none 0 0, .slice none 0 0, .int .i64 0, .int .i64 0, .int .i64 0, .int .i64 0, .int .i64 0, .slice none 0 0, .slice none 0 0, .slice none 0 0] u5) := Lib.hid (HS.out.put 7 (.int .i64 (v4 : Int)))
    generalize w1.setCell ⟨g, 7, none⟩ (.int .i64 (v4 : Int)) = wx at HS ⊢
    have C := Lib.hid (HS.out.num 0 6 D5.out E5.out)
    have x0 : wx.cell? ⟨g, 8, none⟩ = some (.int .i64 0) := HS.out.blk.cell 8
    go_upto_region 13 with (first
      | (go_at_call 111; refine C.out.mono ?_; rintro en w1 ⟨rfl, hs, ho⟩
         have HS := Lib.hid hs
         have x0 : w1.cell? ⟨g, 8, none⟩ = some (.int .i64 0) := hs.blk.cell 8
         have f0 := hs.blk.frozen 8
         clear hs C ho)
      | fail)
    clear x0 f0
    have HS : Hid (RaSt w (w1.setCell ⟨g, 8, none⟩ (.int .i64 (v5 : Int))) b g #[.int .i64 (v0 : Int), .int .i64 (v1 : Int), .int .i64 (v2 : Int), .int .i64 (v3 : Int), .int .i64 0, .int .i64 0, .bool false, .int .i64 (v4 : Int), .int .i64 (v5 : Int), .int .i64 0, .int .i64 0, .slice none 0 0, .int .i64 0, .int .i64 0, .slice none 0 0, .slice none 0 0, .int .i64 0, .int .i64 0, .int .i64 0, .int .i64 0, .int .i64 0, .slice none 0 0, .slice none 0 0, .slice none 0 0] u6) := Lib.hid (HS.out.put 8 (.int .i64 (v5 : Int)))
    generalize w1.setCell ⟨g, 8, none⟩ (.int .i64 (v5 : Int)) = wx at HS ⊢
    have C := Lib.hid (HS.out.num 0 1099511627776 D6.out E6.out)
    have x0 : wx.cell? ⟨g, 5, none⟩ = some (.int .i64 0) := HS.out.blk.cell 5
    go_upto_region 28 with (first
      | (go_at_call 111; refine C.out.mono ?_; rintro en w1 ⟨rfl, hs, ho⟩
         have HS := Lib.hid hs
         have x0 : w1.cell? ⟨g, 5, none⟩ = some (.int .i64 0) := hs.blk.cell 5
         have f0 := hs.blk.frozen 5
         clear hs C ho)
      | fail)
    clear x0 f0
    have HS : Hid (RaSt w (w1.setCell ⟨g, 5, none⟩ (.int .i64 (v6 : Int))) b g #[.int .i64 (v0 : Int), .int .i64 (v1 : Int), .int .i64 (v2 : Int), .int .i64 (v3 : Int), .int .i64 0, .int .i64 (v6 : Int), .bool false, .int .i64 (v4 : Int), .int .i64 (v5 : Int), .int .i64 0, .int .i64 0, .slice none 0 0, .int .i64 0, .int .i64 0, .slice none 0 0, .slice none 0 0, .int .i64 0, .int .i64 0, .int .i64 0, .int .i64 0, .int .i64 0, .slice none 0 0, .slice none 0 0, .slice none 0 0] u7) := Lib.hid (HS.out.put 5 (.int .i64 (v6 : Int)))
    generalize w1.setCell ⟨g, 5, none⟩ (.int .i64 (v6 : Int)) = wx at HS ⊢
    go_wp2_with (first
      | (refine wpList_load_row rfl 29 (.tmp 3) rfl g rfl 29 #[.int .i64 (v0 : Int), .int .i64 (v1 : Int), .int .i64 (v2 : Int), .int .i64 (v3 : Int), .int .i64 0, .int .i64 (v6 : Int), .bool false, .int .i64 (v4 : Int), .int .i64 (v5 : Int), .int .i64 0, .int .i64 0, .slice none 0 0, .int .i64 0, .int .i64 0, .slice none 0 0, .slice none 0 0, .int .i64 0, .int .i64 0, .int .i64 0, .int .i64 0, .int .i64 0, .slice none 0 0, .slice none 0 0, .slice none 0 0] (0, 0) _ HS.out.blk Try.underlying29 rfl (by kernel_rfl) ?_)
      | (refine wpList_store_row rfl 29 (.tmp 4) (.tmp 119) rfl (g + 1) #[.int .i64 (v0 : Int), .int .i64 (v1 : Int), .int .i64 (v2 : Int), .int .i64 (v3 : Int), .int .i64 0, .int .i64 (v6 : Int), .bool false, .int .i64 (v4 : Int), .int .i64 (v5 : Int), .int .i64 0, .int .i64 0, .slice none 0 0, .int .i64 0, .int .i64 0, .slice none 0 0, .slice none 0 0, .int .i64 0, .int .i64 0, .int .i64 0, .int .i64 0, .int .i64 0, .slice none 0 0, .slice none 0 0, .slice none 0 0] rfl rfl 29 msgZ HS.out.res (by kernel_rfl) rfl (by kernel_rfl) ?_)
      | fail)
    refine bodyPost_ret (results_cell_row rfl _ _ _ _ _ _ _ rfl (HS.out.res.row #[.int .i64 (v0 : Int), .int .i64 (v1 : Int), .int .i64 (v2 : Int), .int .i64 (v3 : Int), .int .i64 0, .int .i64 (v6 : Int), .bool false, .int .i64 (v4 : Int), .int .i64 (v5 : Int), .int .i64 0, .int .i64 0, .slice none 0 0, .int .i64 0, .int .i64 0, .slice none 0 0, .slice none 0 0, .int .i64 0, .int .i64 0, .int .i64 0, .int .i64 0, .int .i64 0, .slice none 0 0, .slice none 0 0, .slice none 0 0]) Try.underlying29 rfl (by kernel_rfl)) rfl ?_
    have hown : OwnG w wx ⟨none, 0, none, 0, none, 0, CA.zero⟩ ⟨(v0 : Int), (v1 : Int), (v2 : Int), (v3 : Int), 0, (v6 : Int), false, (v4 : Int), (v5 : Int), 0, 0, [], 0, 0, [], [], 0, En.zero⟩ := ⟨own_nil _ _, ownI_nil _ _, ownI_nil _ _, OwnC.zero _ _⟩
    obtain ⟨g1, g2⟩ := HS.out.rowS hown #[.int .i64 (v0 : Int), .int .i64 (v1 : Int), .int .i64 (v2 : Int), .int .i64 (v3 : Int), .int .i64 0, .int .i64 (v6 : Int), .bool false, .int .i64 (v4 : Int), .int .i64 (v5 : Int), .int .i64 0, .int .i64 0, .slice none 0 0, .int .i64 0, .int .i64 0, .slice none 0 0, .slice none 0 0, .int .i64 0, .int .i64 0, .int .i64 0, .int .i64 0, .int .i64 0, .slice none 0 0, .slice none 0 0, .slice none 0 0]
    rw [HRES.out]
    exact ⟨_, rfl, g2, g1.r, g1.only⟩
  by_cases c4 : v0 = 4
  · obtain ⟨v4, d4⟩ : ∃ x, Pk.numV u4 1099511627776 = x := ⟨_, rfl⟩
    obtain ⟨u5, e4⟩ : ∃ x, Pk.numS u4 1099511627776 = x := ⟨_, rfl⟩
    have HRES : Hid (Mg.get u0 = (⟨(v0 : Int), (v1 : Int), (v2 : Int), (v3 : Int), 0, 0, false, 0, 0, (v4 : Int), 0, [], 0, 0, [], [], 0, En.zero⟩, u5)) := Lib.hid (by
      unfold Mg.get hd s4
      have d0 := D0.out
      have e0 := E0.out
      have d1 := D1.out
      have e1 := E1.out
      have d2 := D2.out
      have e2 := E2.out
      have d3 := D3.out
      have e3 := E3.out
      simp only [d0, e0, d1, e1, d2, e2, d3, e3, d4, e4, if_neg c2, if_neg c3, if_pos c4]
      rfl)
    have D4 := Lib.hid d4
    have E4 := Lib.hid e4
    clear d4 e4
    have r2 : ((v0 : Int) == 2) = false := by rw [beq_eq_false_iff_ne]; omega
    have r3 : ((v0 : Int) == 3) = false := by rw [beq_eq_false_iff_ne]; omega
    have r4 : ((v0 : Int) == 4) = true := by rw [beq_iff_eq]; omega
    clear c4
    have x0 : wx.cell? ⟨g, 0, none⟩ = some (.int .i64 (v0 : Int)) := HS.out.blk.cell 0
    go_upto_region 15 with fail
    clear x0
    have C := Lib.hid (HS.out.num 0 1099511627776 D4.out E4.out)
    have x0 : wx.cell? ⟨g, 9, none⟩ = some (.int .i64 0) := HS.out.blk.cell 9
    go_upto_region 28 with (first
      | (go_at_call 111; refine C.out.mono ?_; rintro en w1 ⟨rfl, hs, ho⟩
         have HS := Lib.hid hs
         have x0 : w1.cell? ⟨g, 9, none⟩ = some (.int .i64 0) := hs.blk.cell 9
         have f0 := hs.blk.frozen 9
         clear hs C ho)
      | fail)
    clear x0 f0
    have HS : Hid (RaSt w (w1.setCell ⟨g, 9, none⟩ (.int .i64 (v4 : Int))) b g #[.int .i64 (v0 : Int), .int .i64 (v1 : Int), .int .i64 (v2 : Int), .int .i64 (v3 : Int), .int .i64 0, .int .i64 0, .bool false, .int .i64 0, .int .i64 0, .int .i64 (v4 : Int), .int .i64 0, .slice none 0 0, .int .i64 0, .int .i64 0, .slice none 0 0, .slice none 0 0, .int .i64 0, .int .i64 0, .int .i64 0, .int .i64 0, .int .i64 0, .slice none 0 0, .slice none 0 0, .slice none 0 0] u5) := Lib.hid (HS.out.put 9 (.int .i64 (v4 : Int)))
    generalize w1.setCell ⟨g, 9, none⟩ (.int .i64 (v4 : Int)) = wx at HS ⊢
    go_wp2_with (first
      | (refine wpList_load_row rfl 29 (.tmp 3) rfl g rfl 29 #[.int .i64 (v0 : Int), .int .i64 (v1 : Int), .int .i64 (v2 : Int), .int .i64 (v3 : Int), .int .i64 0, .int .i64 0, .bool false, .int .i64 0, .int .i64 0, .int .i64 (v4 : Int), .int .i64 0, .slice none 0 0, .int .i64 0, .int .i64 0, .slice none 0 0, .slice none 0 0, .int .i64 0, .int .i64 0, .int .i64 0, .int .i64 0, .int .i64 0, .slice none 0 0, .slice none 0 0, .slice none 0 0] (0, 0) _ HS.out.blk Try.underlying29 rfl (by kernel_rfl) ?_)
      | (refine wpList_store_row rfl 29 (.tmp 4) (.tmp 119) rfl (g + 1) #[.int .i64 (v0 : Int), .int .i64 (v1 : Int), .int .i64 (v2 : Int), .int .i64 (v3 : Int), .int .i64 0, .int .i64 0, .bool false, .int .i64 0, .int .i64 0, .int .i64 (v4 : Int), .int .i64 0, .slice none 0 0, .int .i64 0, .int .i64 0, .slice none 0 0, .slice none 0 0, .int .i64 0, .int .i64 0, .int .i64 0, .int .i64 0, .int .i64 0, .slice none 0 0, .slice none 0 0, .slice none 0 0] rfl rfl 29 msgZ HS.out.res (by kernel_rfl) rfl (by kernel_rfl) ?_)
      | fail)
    refine bodyPost_ret (results_cell_row rfl _ _ _ _ _ _ _ rfl (HS.out.res.row #[.int .i64 (v0 : Int), .int .i64 (v1 : Int), .int .i64 (v2 : Int), .int .i64 (v3 : Int), .int .i64 0, .int .i64 0, .bool false, .int .i64 0, .int .i64 0, .int .i64 (v4 : Int), .int .i64 0, .slice none 0 0, .int .i64 0, .int .i64 0, .slice none 0 0, .slice none 0 0, .int .i64 0, .int .i64 0, .int .i64 0, .int .i64 0, .int .i64 0, .slice none 0 0, .slice none 0 0, .slice none 0 0]) Try.underlying29 rfl (by kernel_rfl)) rfl ?_
    have hown : OwnG w wx ⟨none, 0, none, 0, none, 0, CA.zero⟩ ⟨(v0 : Int), (v1 : Int), (v2 : Int), (v3 : Int), 0, 0, false, 0, 0, (v4 : Int), 0, [], 0, 0, [], [], 0, En.zero⟩ := ⟨own_nil _ _, ownI_nil _ _, ownI_nil _ _, OwnC.zero _ _⟩
    obtain ⟨g1, g2⟩ := HS.out.rowS hown #[.int .i64 (v0 : Int), .int .i64 (v1 : Int), .int .i64 (v2 : Int), .int .i64 (v3 : Int), .int .i64 0, .int .i64 0, .bool false, .int .i64 0, .int .i64 0, .int .i64 (v4 : Int), .int .i64 0, .slice none 0 0, .int .i64 0, .int .i64 0, .slice none 0 0, .slice none 0 0, .int .i64 0, .int .i64 0, .int .i64 0, .int .i64 0, .int .i64 0, .slice none 0 0, .slice none 0 0, .slice none 0 0]
    rw [HRES.out]
    exact ⟨_, rfl, g2, g1.r, g1.only⟩
  by_cases c5 : v0 = 5
  · obtain ⟨v4, d4⟩ : ∃ x, Pk.numV u4 1099511627776 = x := ⟨_, rfl⟩
    obtain ⟨u5, e4⟩ : ∃ x, Pk.numS u4 1099511627776 = x := ⟨_, rfl⟩
    obtain ⟨v5, d5⟩ : ∃ x, Pk.numV u5 1099511627776 = x := ⟨_, rfl⟩
    obtain ⟨u6, e5⟩ : ∃ x, Pk.numS u5 1099511627776 = x := ⟨_, rfl⟩
    obtain ⟨v6, d6⟩ : ∃ x, Pk.bytV u6 64 = x := ⟨_, rfl⟩
    obtain ⟨u7, e6⟩ : ∃ x, Pk.bytS u6 64 = x := ⟨_, rfl⟩
    have HRES : Hid (Mg.get u0 = (⟨(v0 : Int), (v1 : Int), (v2 : Int), (v3 : Int), 0, 0, false, 0, 0, (v4 : Int), (v5 : Int), v6, 0, 0, [], [], 0, En.zero⟩, u7)) := Lib.hid (by
      unfold Mg.get hd s4
      have d0 := D0.out
      have e0 := E0.out
      have d1 := D1.out
      have e1 := E1.out
      have d2 := D2.out
      have e2 := E2.out
      have d3 := D3.out
      have e3 := E3.out
      simp only [d0, e0, d1, e1, d2, e2, d3, e3, d4, e4, d5, e5, d6, e6, if_neg c2, if_neg c3, if_neg c4, if_pos c5]
      rfl)
    have D4 := Lib.hid d4
    have E4 := Lib.hid e4
    have D5 := Lib.hid d5
    have E5 := Lib.hid e5
    have D6 := Lib.hid d6
    have E6 := Lib.hid e6
    clear d4 e4 d5 e5 d6 e6
    have r2 : ((v0 : Int) == 2) = false := by rw [beq_eq_false_iff_ne]; omega
    have r3 : ((v0 : Int) == 3) = false := by rw [beq_eq_false_iff_ne]; omega
    have r4 : ((v0 : Int) == 4) = false := by rw [beq_eq_false_iff_ne]; omega
    have r5 : ((v0 : Int) == 5) = true := by rw [beq_iff_eq]; omega
    clear c5
    have x0 : wx.cell? ⟨g, 0, none⟩ = some (.int .i64 (v0 : Int)) := HS.out.blk.cell 0
    go_upto_region 17 with fail
    clear x0
    have C := Lib.hid (HS.out.num 0 1099511627776 D4.out E4.out)
    have x0 : wx.cell? ⟨g, 9, none⟩ = some (.int .i64 0) := HS.out.blk.cell 9
    go_upto_region 18 with (first
      | (go_at_call 111; refine C.out.mono ?_; rintro en w1 ⟨rfl, hs, ho⟩
         have HS := Lib.hid hs
         have x0 : w1.cell? ⟨g, 9, none⟩ = some (.int .i64 0) := hs.blk.cell 9
         have f0 := hs.blk.frozen 9
         clear hs C ho)
      | fail)
    clear x0 f0
    have HS : Hid (RaSt w (w1.setCell ⟨g, 9, none⟩ (.int .i64 (v4 : Int))) b g #[.int .i64 (v0 : Int), .int .i64 (v1 : Int), .int .i64 (v2 : Int), .int .i64 (v3 : Int), .int .i64 0, .int .i64 0, .bool false, .int .i64 0, .int .i64 0, .int .i64 (v4 : Int), .int .i64 0, .slice none 0 0, .int .i64 0, .int .i64 0, .slice none 0 0, .slice none 0 0, .int .i64 0, .int .i64 0, .int .i64 0, .int .i64 0, .int .i64 0, .slice none 0 0, .slice none 0 0, .slice none 0 0] u5) := Lib.hid (HS.out.put 9 (.int .i64 (v4 : Int)))
    generalize w1.setCell ⟨g, 9, none⟩ (.int .i64 (v4 : Int)) = wx at HS ⊢
    have C := Lib.hid (HS.out.num 0 1099511627776 D5.out E5.out)
    have x0 : wx.cell? ⟨g, 10, none⟩ = some (.int .i64 0) := HS.out.blk.cell 10
    go_upto_region 19 with (first
      | (go_at_call 111; refine C.out.mono ?_; rintro en w1 ⟨rfl, hs, ho⟩
         have HS := Lib.hid hs
         have x0 : w1.cell? ⟨g, 10, none⟩ = some (.int .i64 0) := hs.blk.cell 10
         have f0 := hs.blk.frozen 10
         clear hs C ho)
      | fail)
    clear x0 f0
    have HS : Hid (RaSt w (w1.setCell ⟨g, 10, none⟩ (.int .i64 (v5 : Int))) b g #[.int .i64 (v0 : Int), .int .i64 (v1 : Int), .int .i64 (v2 : Int), .int .i64 (v3 : Int), .int .i64 0, .int .i64 0, .bool false, .int .i64 0, .int .i64 0, .int .i64 (v4 : Int), .int .i64 (v5 : Int), .slice none 0 0, .int .i64 0, .int .i64 0, .slice none 0 0, .slice none 0 0, .int .i64 0, .int .i64 0, .int .i64 0, .int .i64 0, .int .i64 0, .slice none 0 0, .slice none 0 0, .slice none 0 0] u6) := Lib.hid (HS.out.put 10 (.int .i64 (v5 : Int)))
    generalize w1.setCell ⟨g, 10, none⟩ (.int .i64 (v5 : Int)) = wx at HS ⊢
    have C := Lib.hid (HS.out.data none 0 0 64 D6.out E6.out)
    have x0 : wx.cell? ⟨g, 11, none⟩ = some (.slice none 0 0) := HS.out.blk.cell 11
    go_upto_region 28 with (first
      | (go_at_call 109; refine C.out.mono ?_; rintro en w1 ⟨A6, k6, rfl, hw, hs, ho⟩
         have HS := Lib.hid hs
         have Od := Lib.hid hw
         clear hw
         have x0 : w1.cell? ⟨g, 11, none⟩ = some (.slice none 0 0) := hs.blk.cell 11
         have f0 := hs.blk.frozen 11
         clear hs C ho)
      | fail)
    clear x0 f0
    have Od : Hid (OwnB w (w1.setCell ⟨g, 11, none⟩ (.slice A6 v6.length k6)) A6 v6.length k6 v6) := Lib.hid (own_set_t Od.out HS.out.blk (by decide))
    have HS : Hid (RaSt w (w1.setCell ⟨g, 11, none⟩ (.slice A6 v6.length k6)) b g #[.int .i64 (v0 : Int), .int .i64 (v1 : Int), .int .i64 (v2 : Int), .int .i64 (v3 : Int), .int .i64 0, .int .i64 0, .bool false, .int .i64 0, .int .i64 0, .int .i64 (v4 : Int), .int .i64 (v5 : Int), .slice A6 v6.length k6, .int .i64 0, .int .i64 0, .slice none 0 0, .slice none 0 0, .int .i64 0, .int .i64 0, .int .i64 0, .int .i64 0, .int .i64 0, .slice none 0 0, .slice none 0 0, .slice none 0 0] u7) := Lib.hid (HS.out.put 11 (.slice A6 v6.length k6))
    generalize w1.setCell ⟨g, 11, none⟩ (.slice A6 v6.length k6) = wx at HS Od ⊢
    go_wp2_with (first
      | (refine wpList_load_row rfl 29 (.tmp 3) rfl g rfl 29 #[.int .i64 (v0 : Int), .int .i64 (v1 : Int), .int .i64 (v2 : Int), .int .i64 (v3 : Int), .int .i64 0, .int .i64 0, .bool false, .int .i64 0, .int .i64 0, .int .i64 (v4 : Int), .int .i64 (v5 : Int), .slice A6 v6.length k6, .int .i64 0, .int .i64 0, .slice none 0 0, .slice none 0 0, .int .i64 0, .int .i64 0, .int .i64 0, .int .i64 0, .int .i64 0, .slice none 0 0, .slice none 0 0, .slice none 0 0] (0, 0) _ HS.out.blk Try.underlying29 rfl (by kernel_rfl) ?_)
      | (refine wpList_store_row rfl 29 (.tmp 4) (.tmp 119) rfl (g + 1) #[.int .i64 (v0 : Int), .int .i64 (v1 : Int), .int .i64 (v2 : Int), .int .i64 (v3 : Int), .int .i64 0, .int .i64 0, .bool false, .int .i64 0, .int .i64 0, .int .i64 (v4 : Int), .int .i64 (v5 : Int), .slice A6 v6.length k6, .int .i64 0, .int .i64 0, .slice none 0 0, .slice none 0 0, .int .i64 0, .int .i64 0, .int .i64 0, .int .i64 0, .int .i64 0, .slice none 0 0, .slice none 0 0, .slice none 0 0] rfl rfl 29 msgZ HS.out.res (by kernel_rfl) rfl (by kernel_rfl) ?_)
      | fail)
    refine bodyPost_ret (results_cell_row rfl _ _ _ _ _ _ _ rfl (HS.out.res.row #[.int .i64 (v0 : Int), .int .i64 (v1 : Int), .int .i64 (v2 : Int), .int .i64 (v3 : Int), .int .i64 0, .int .i64 0, .bool false, .int .i64 0, .int .i64 0, .int .i64 (v4 : Int), .int .i64 (v5 : Int), .slice A6 v6.length k6, .int .i64 0, .int .i64 0, .slice none 0 0, .slice none 0 0, .int .i64 0, .int .i64 0, .int .i64 0, .int .i64 0, .int .i64 0, .slice none 0 0, .slice none 0 0, .slice none 0 0]) Try.underlying29 rfl (by kernel_rfl)) rfl ?_
    have hown : OwnG w wx ⟨A6, k6, none, 0, none, 0, CA.zero⟩ ⟨(v0 : Int), (v1 : Int), (v2 : Int), (v3 : Int), 0, 0, false, 0, 0, (v4 : Int), (v5 : Int), v6, 0, 0, [], [], 0, En.zero⟩ := ⟨Od.out, ownI_nil _ _, ownI_nil _ _, OwnC.zero _ _⟩
    obtain ⟨g1, g2⟩ := HS.out.rowS hown #[.int .i64 (v0 : Int), .int .i64 (v1 : Int), .int .i64 (v2 : Int), .int .i64 (v3 : Int), .int .i64 0, .int .i64 0, .bool false, .int .i64 0, .int .i64 0, .int .i64 (v4 : Int), .int .i64 (v5 : Int), .slice A6 v6.length k6, .int .i64 0, .int .i64 0, .slice none 0 0, .slice none 0 0, .int .i64 0, .int .i64 0, .int .i64 0, .int .i64 0, .int .i64 0, .slice none 0 0, .slice none 0 0, .slice none 0 0]
    rw [HRES.out]
    exact ⟨_, rfl, g2, g1.r, g1.only⟩
  by_cases c7 : v0 = 7
  · obtain ⟨v4, d4⟩ : ∃ x, Pk.numV u4 1099511627776 = x := ⟨_, rfl⟩
    obtain ⟨u5, e4⟩ : ∃ x, Pk.numS u4 1099511627776 = x := ⟨_, rfl⟩
    obtain ⟨v5, d5⟩ : ∃ x, Pk.numV u5 1099511627776 = x := ⟨_, rfl⟩
    obtain ⟨u6, e5⟩ : ∃ x, Pk.numS u5 1099511627776 = x := ⟨_, rfl⟩
    obtain ⟨v6, d6⟩ : ∃ x, (stF 7 u6).1 = x := ⟨_, rfl⟩
    obtain ⟨u7, e6⟩ : ∃ x, (stF 7 u6).2 = x := ⟨_, rfl⟩
    obtain ⟨v7, d7⟩ : ∃ x, (stF 8 u7).1 = x := ⟨_, rfl⟩
    obtain ⟨u8, e7⟩ : ∃ x, (stF 8 u7).2 = x := ⟨_, rfl⟩
    have HRES : Hid (Mg.get u0 = (⟨(v0 : Int), (v1 : Int), (v2 : Int), (v3 : Int), 0, 0, false, 0, 0, 0, 0, [], (v4 : Int), (v5 : Int), v6, v7, 0, En.zero⟩, u8)) := Lib.hid (by
      unfold Mg.get hd s4
      have d0 := D0.out
      have e0 := E0.out
      have d1 := D1.out
      have e1 := E1.out
      have d2 := D2.out
      have e2 := E2.out
      have d3 := D3.out
      have e3 := E3.out
      simp only [d0, e0, d1, e1, d2, e2, d3, e3, d4, e4, d5, e5, d6, e6, d7, e7, if_neg c2, if_neg c3, if_neg c4, if_neg c5, if_pos c7]
      rfl)
    have D4 := Lib.hid d4
    have E4 := Lib.hid e4
    have D5 := Lib.hid d5
    have E5 := Lib.hid e5
    have D6 := Lib.hid d6
    have E6 := Lib.hid e6
    have D7 := Lib.hid d7
    have E7 := Lib.hid e7
    clear d4 e4 d5 e5 d6 e6 d7 e7
    have r2 : ((v0 : Int) == 2) = false := by rw [beq_eq_false_iff_ne]; omega
    have r3 : ((v0 : Int) == 3) = false := by rw [beq_eq_false_iff_ne]; omega
    have r4 : ((v0 : Int) == 4) = false := by rw [beq_eq_false_iff_ne]; omega
    have r5 : ((v0 : Int) == 5) = false := by rw [beq_eq_false_iff_ne]; omega
    have r7 : ((v0 : Int) == 7) = true := by rw [beq_iff_eq]; omega
    clear c7
    have x0 : wx.cell? ⟨g, 0, none⟩ = some (.int .i64 (v0 : Int)) := HS.out.blk.cell 0
    go_upto_region 21 with fail
    clear x0
    have C := Lib.hid (HS.out.num 0 1099511627776 D4.out E4.out)
    have x0 : wx.cell? ⟨g, 12, none⟩ = some (.int .i64 0) := HS.out.blk.cell 12
    go_upto_region 22 with (first
      | (go_at_call 111; refine C.out.mono ?_; rintro en w1 ⟨rfl, hs, ho⟩
         have HS := Lib.hid hs
         have x0 : w1.cell? ⟨g, 12, none⟩ = some (.int .i64 0) := hs.blk.cell 12
         have f0 := hs.blk.frozen 12
         clear hs C ho)
      | fail)
    clear x0 f0
    have HS : Hid (RaSt w (w1.setCell ⟨g, 12, none⟩ (.int .i64 (v4 : Int))) b g #[.int .i64 (v0 : Int), .int .i64 (v1 : Int), .int .i64 (v2 : Int), .int .i64 (v3 : Int), .int .i64 0, .int .i64 0, .bool false, .int .i64 0, .int .i64 0, .int .i64 0, .int .i64 0, .slice none 0 0, .int .i64 (v4 : Int), .int .i64 0, .slice none 0 0, .slice none 0 0, .int .i64 0, .int .i64 0, .int .i64 0, .int .i64 0, .int .i64 0, .slice none 0 0, .slice none 0 0, .slice none 0 0] u5) := Lib.hid (HS.out.put 12 (.int .i64 (v4 : Int)))
    generalize w1.setCell ⟨g, 12, none⟩ (.int .i64 (v4 : Int)) = wx at HS ⊢
    have C := Lib.hid (HS.out.num 0 1099511627776 D5.out E5.out)
    have x0 : wx.cell? ⟨g, 13, none⟩ = some (.int .i64 0) := HS.out.blk.cell 13
    go_upto_region 23 with (first
      | (go_at_call 111; refine C.out.mono ?_; rintro en w1 ⟨rfl, hs, ho⟩
         have HS := Lib.hid hs
         have x0 : w1.cell? ⟨g, 13, none⟩ = some (.int .i64 0) := hs.blk.cell 13
         have f0 := hs.blk.frozen 13
         clear hs C ho)
      | fail)
    clear x0 f0
    have HS : Hid (RaSt w (w1.setCell ⟨g, 13, none⟩ (.int .i64 (v5 : Int))) b g #[.int .i64 (v0 : Int), .int .i64 (v1 : Int), .int .i64 (v2 : Int), .int .i64 (v3 : Int), .int .i64 0, .int .i64 0, .bool false, .int .i64 0, .int .i64 0, .int .i64 0, .int .i64 0, .slice none 0 0, .int .i64 (v4 : Int), .int .i64 (v5 : Int), .slice none 0 0, .slice none 0 0, .int .i64 0, .int .i64 0, .int .i64 0, .int .i64 0, .int .i64 0, .slice none 0 0, .slice none 0 0, .slice none 0 0] u6) := Lib.hid (HS.out.put 13 (.int .i64 (v5 : Int)))
    generalize w1.setCell ⟨g, 13, none⟩ (.int .i64 (v5 : Int)) = wx at HS ⊢
    have C := Lib.hid (HS.out.nums none 0 0 (most := 7) (by omega) (by omega) D6.out E6.out)
    have x0 : wx.cell? ⟨g, 14, none⟩ = some (.slice none 0 0) := HS.out.blk.cell 14
    go_upto_region 24 with (first
      | (go_at_call 112; refine C.out.mono ?_; rintro en w1 ⟨A6, k6, rfl, hw, hs, ho⟩
         have HS := Lib.hid hs
         have Oh := Lib.hid hw
         clear hw
         have x0 : w1.cell? ⟨g, 14, none⟩ = some (.slice none 0 0) := hs.blk.cell 14
         have f0 := hs.blk.frozen 14
         clear hs C ho)
      | fail)
    clear x0 f0
    have Oh : Hid (OwnI w (w1.setCell ⟨g, 14, none⟩ (.slice A6 v6.length k6)) A6 v6.length k6 v6) := Lib.hid (own_set_t Oh.out HS.out.blk (by decide))
    have HS : Hid (RaSt w (w1.setCell ⟨g, 14, none⟩ (.slice A6 v6.length k6)) b g #[.int .i64 (v0 : Int), .int .i64 (v1 : Int), .int .i64 (v2 : Int), .int .i64 (v3 : Int), .int .i64 0, .int .i64 0, .bool false, .int .i64 0, .int .i64 0, .int .i64 0, .int .i64 0, .slice none 0 0, .int .i64 (v4 : Int), .int .i64 (v5 : Int), .slice A6 v6.length k6, .slice none 0 0, .int .i64 0, .int .i64 0, .int .i64 0, .int .i64 0, .int .i64 0, .slice none 0 0, .slice none 0 0, .slice none 0 0] u7) := Lib.hid (HS.out.put 14 (.slice A6 v6.length k6))
    generalize w1.setCell ⟨g, 14, none⟩ (.slice A6 v6.length k6) = wx at HS Oh ⊢
    have C := Lib.hid (HS.out.nums none 0 0 (most := 8) (by omega) (by omega) D7.out E7.out)
    have x0 : wx.cell? ⟨g, 15, none⟩ = some (.slice none 0 0) := HS.out.blk.cell 15
    go_upto_region 28 with (first
      | (go_at_call 112; refine C.out.mono ?_; rintro en w1 ⟨A7, k7, rfl, hw, hs, ho⟩
         have HS := Lib.hid hs
         have Oh := Lib.hid (own_old Oh.out ho (Old.some HBL.out))
         have On := Lib.hid hw
         clear hw
         have x0 : w1.cell? ⟨g, 15, none⟩ = some (.slice none 0 0) := hs.blk.cell 15
         have f0 := hs.blk.frozen 15
         clear hs C ho)
      | fail)
    clear x0 f0
    have Oh : Hid (OwnI w (w1.setCell ⟨g, 15, none⟩ (.slice A7 v7.length k7)) A6 v6.length k6 v6) := Lib.hid (own_set_t Oh.out HS.out.blk (by decide))
    have On : Hid (OwnI w (w1.setCell ⟨g, 15, none⟩ (.slice A7 v7.length k7)) A7 v7.length k7 v7) := Lib.hid (own_set_t On.out HS.out.blk (by decide))
    have HS : Hid (RaSt w (w1.setCell ⟨g, 15, none⟩ (.slice A7 v7.length k7)) b g #[.int .i64 (v0 : Int), .int .i64 (v1 : Int), .int .i64 (v2 : Int), .int .i64 (v3 : Int), .int .i64 0, .int .i64 0, .bool false, .int .i64 0, .int .i64 0, .int .i64 0, .int .i64 0, .slice none 0 0, .int .i64 (v4 : Int), .int .i64 (v5 : Int), .slice A6 v6.length k6, .slice A7 v7.length k7, .int .i64 0, .int .i64 0, .int .i64 0, .int .i64 0, .int .i64 0, .slice none 0 0, .slice none 0 0, .slice none 0 0] u8) := Lib.hid (HS.out.put 15 (.slice A7 v7.length k7))
    generalize w1.setCell ⟨g, 15, none⟩ (.slice A7 v7.length k7) = wx at HS Oh On ⊢
    go_wp2_with (first
      | (refine wpList_load_row rfl 29 (.tmp 3) rfl g rfl 29 #[.int .i64 (v0 : Int), .int .i64 (v1 : Int), .int .i64 (v2 : Int), .int .i64 (v3 : Int), .int .i64 0, .int .i64 0, .bool false, .int .i64 0, .int .i64 0, .int .i64 0, .int .i64 0, .slice none 0 0, .int .i64 (v4 : Int), .int .i64 (v5 : Int), .slice A6 v6.length k6, .slice A7 v7.length k7, .int .i64 0, .int .i64 0, .int .i64 0, .int .i64 0, .int .i64 0, .slice none 0 0, .slice none 0 0, .slice none 0 0] (0, 0) _ HS.out.blk Try.underlying29 rfl (by kernel_rfl) ?_)
      | (refine wpList_store_row rfl 29 (.tmp 4) (.tmp 119) rfl (g + 1) #[.int .i64 (v0 : Int), .int .i64 (v1 : Int), .int .i64 (v2 : Int), .int .i64 (v3 : Int), .int .i64 0, .int .i64 0, .bool false, .int .i64 0, .int .i64 0, .int .i64 0, .int .i64 0, .slice none 0 0, .int .i64 (v4 : Int), .int .i64 (v5 : Int), .slice A6 v6.length k6, .slice A7 v7.length k7, .int .i64 0, .int .i64 0, .int .i64 0, .int .i64 0, .int .i64 0, .slice none 0 0, .slice none 0 0, .slice none 0 0] rfl rfl 29 msgZ HS.out.res (by kernel_rfl) rfl (by kernel_rfl) ?_)
      | fail)
    refine bodyPost_ret (results_cell_row rfl _ _ _ _ _ _ _ rfl (HS.out.res.row #[.int .i64 (v0 : Int), .int .i64 (v1 : Int), .int .i64 (v2 : Int), .int .i64 (v3 : Int), .int .i64 0, .int .i64 0, .bool false, .int .i64 0, .int .i64 0, .int .i64 0, .int .i64 0, .slice none 0 0, .int .i64 (v4 : Int), .int .i64 (v5 : Int), .slice A6 v6.length k6, .slice A7 v7.length k7, .int .i64 0, .int .i64 0, .int .i64 0, .int .i64 0, .int .i64 0, .slice none 0 0, .slice none 0 0, .slice none 0 0]) Try.underlying29 rfl (by kernel_rfl)) rfl ?_
    have hown : OwnG w wx ⟨none, 0, A6, k6, A7, k7, CA.zero⟩ ⟨(v0 : Int), (v1 : Int), (v2 : Int), (v3 : Int), 0, 0, false, 0, 0, 0, 0, [], (v4 : Int), (v5 : Int), v6, v7, 0, En.zero⟩ := ⟨own_nil _ _, Oh.out, On.out, OwnC.zero _ _⟩
    obtain ⟨g1, g2⟩ := HS.out.rowS hown #[.int .i64 (v0 : Int), .int .i64 (v1 : Int), .int .i64 (v2 : Int), .int .i64 (v3 : Int), .int .i64 0, .int .i64 0, .bool false, .int .i64 0, .int .i64 0, .int .i64 0, .int .i64 0, .slice none 0 0, .int .i64 (v4 : Int), .int .i64 (v5 : Int), .slice A6 v6.length k6, .slice A7 v7.length k7, .int .i64 0, .int .i64 0, .int .i64 0, .int .i64 0, .int .i64 0, .slice none 0 0, .slice none 0 0, .slice none 0 0]
    rw [HRES.out]
    exact ⟨_, rfl, g2, g1.r, g1.only⟩
  by_cases c8 : v0 = 8
  · obtain ⟨v4, d4⟩ : ∃ x, Pk.numV u4 1099511627776 = x := ⟨_, rfl⟩
    obtain ⟨u5, e4⟩ : ∃ x, Pk.numS u4 1099511627776 = x := ⟨_, rfl⟩
    obtain ⟨v5, d5⟩ : ∃ x, En.read u5 = x := ⟨_, rfl⟩
    obtain ⟨u6, e5⟩ : ∃ x, (En.get u5).2 = x := ⟨_, rfl⟩
    have HRES : Hid (Mg.get u0 = (⟨(v0 : Int), (v1 : Int), (v2 : Int), (v3 : Int), 0, 0, false, 0, 0, 0, 0, [], 0, 0, [], [], (v4 : Int), v5⟩, u6)) := Lib.hid (by
      unfold Mg.get hd s4
      have d0 := D0.out
      have e0 := E0.out
      have d1 := D1.out
      have e1 := E1.out
      have d2 := D2.out
      have e2 := E2.out
      have d3 := D3.out
      have e3 := E3.out
      simp only [d0, e0, d1, e1, d2, e2, d3, e3, d4, e4, d5, e5, if_neg c2, if_neg c3, if_neg c4, if_neg c5, if_neg c7, if_pos c8]
      rfl)
    have D4 := Lib.hid d4
    have E4 := Lib.hid e4
    have D5 := Lib.hid d5
    have E5 := Lib.hid e5
    clear d4 e4 d5 e5
    have r2 : ((v0 : Int) == 2) = false := by rw [beq_eq_false_iff_ne]; omega
    have r3 : ((v0 : Int) == 3) = false := by rw [beq_eq_false_iff_ne]; omega
    have r4 : ((v0 : Int) == 4) = false := by rw [beq_eq_false_iff_ne]; omega
    have r5 : ((v0 : Int) == 5) = false := by rw [beq_eq_false_iff_ne]; omega
    have r7 : ((v0 : Int) == 7) = false := by rw [beq_eq_false_iff_ne]; omega
    have r8 : ((v0 : Int) == 8) = true := by rw [beq_iff_eq]; omega
    clear c8
    have x0 : wx.cell? ⟨g, 0, none⟩ = some (.int .i64 (v0 : Int)) := HS.out.blk.cell 0
    go_upto_region 26 with fail
    clear x0
    have C := Lib.hid (HS.out.num 0 1099511627776 D4.out E4.out)
    have x0 : wx.cell? ⟨g, 16, none⟩ = some (.int .i64 0) := HS.out.blk.cell 16
    go_upto_region 27 with (first
      | (go_at_call 111; refine C.out.mono ?_; rintro en w1 ⟨rfl, hs, ho⟩
         have HS := Lib.hid hs
         have x0 : w1.cell? ⟨g, 16, none⟩ = some (.int .i64 0) := hs.blk.cell 16
         have f0 := hs.blk.frozen 16
         clear hs C ho)
      | fail)
    clear x0 f0
    have HS : Hid (RaSt w (w1.setCell ⟨g, 16, none⟩ (.int .i64 (v4 : Int))) b g #[.int .i64 (v0 : Int), .int .i64 (v1 : Int), .int .i64 (v2 : Int), .int .i64 (v3 : Int), .int .i64 0, .int .i64 0, .bool false, .int .i64 0, .int .i64 0, .int .i64 0, .int .i64 0, .slice none 0 0, .int .i64 0, .int .i64 0, .slice none 0 0, .slice none 0 0, .int .i64 (v4 : Int), .int .i64 0, .int .i64 0, .int .i64 0, .int .i64 0, .slice none 0 0, .slice none 0 0, .slice none 0 0] u5) := Lib.hid (HS.out.put 16 (.int .i64 (v4 : Int)))
    generalize w1.setCell ⟨g, 16, none⟩ (.int .i64 (v4 : Int)) = wx at HS ⊢
    have C : Hid (Calls Try.prog 110 #[.agg #[.pointer (some ⟨b, 0, none⟩)], .agg #[.int .i64 0, .int .i64 0, .int .i64 0, .int .i64 0, .slice none 0 0, .slice none 0 0, .slice none 0 0]] wx fun en w' => ∃ ca, en = .returned (.agg #[.int .i64 v5.s, .int .i64 v5.q, .int .i64 v5.c.kind, .int .i64 v5.c.who, .slice ca.Ak v5.c.key.length ca.ck, .slice ca.Av v5.c.val.length ca.cv, .slice ca.Ao v5.c.old.length ca.co]) ∧ OwnC w w' ca v5.c ∧ RaSt w w' b g #[.int .i64 (v0 : Int), .int .i64 (v1 : Int), .int .i64 (v2 : Int), .int .i64 (v3 : Int), .int .i64 0, .int .i64 0, .bool false, .int .i64 0, .int .i64 0, .int .i64 0, .int .i64 0, .slice none 0 0, .int .i64 0, .int .i64 0, .slice none 0 0, .slice none 0 0, .int .i64 (v4 : Int), .int .i64 0, .int .i64 0, .int .i64 0, .int .i64 0, .slice none 0 0, .slice none 0 0, .slice none 0 0] u6 ∧ Only b wx w') := Lib.hid (HS.out.entry CA.zero En.zero D5.out E5.out)
    have x0 : wx.cell? ⟨g, 17, none⟩ = some (.int .i64 0) := HS.out.blk.cell 17
    have x1 : wx.cell? ⟨g, 18, none⟩ = some (.int .i64 0) := HS.out.blk.cell 18
    have x2 : wx.cell? ⟨g, 19, none⟩ = some (.int .i64 0) := HS.out.blk.cell 19
    have x3 : wx.cell? ⟨g, 20, none⟩ = some (.int .i64 0) := HS.out.blk.cell 20
    have x4 : wx.cell? ⟨g, 21, none⟩ = some (.slice none 0 0) := HS.out.blk.cell 21
    have x5 : wx.cell? ⟨g, 22, none⟩ = some (.slice none 0 0) := HS.out.blk.cell 22
    have x6 : wx.cell? ⟨g, 23, none⟩ = some (.slice none 0 0) := HS.out.blk.cell 23
    go_upto_region 28 with (first
      | (go_at_call 110; refine C.out.mono ?_; rintro en w1 ⟨ca, rfl, hw, hs, ho⟩
         have HS := Lib.hid hs
         have Oc := Lib.hid hw
         clear hw
         have x0 : w1.cell? ⟨g, 17, none⟩ = some (.int .i64 0) := hs.blk.cell 17
         have f0 := hs.blk.frozen 17
         have x1 : w1.cell? ⟨g, 18, none⟩ = some (.int .i64 0) := hs.blk.cell 18
         have f1 := hs.blk.frozen 18
         have x2 : w1.cell? ⟨g, 19, none⟩ = some (.int .i64 0) := hs.blk.cell 19
         have f2 := hs.blk.frozen 19
         have x3 : w1.cell? ⟨g, 20, none⟩ = some (.int .i64 0) := hs.blk.cell 20
         have f3 := hs.blk.frozen 20
         have x4 : w1.cell? ⟨g, 21, none⟩ = some (.slice none 0 0) := hs.blk.cell 21
         have f4 := hs.blk.frozen 21
         have x5 : w1.cell? ⟨g, 22, none⟩ = some (.slice none 0 0) := hs.blk.cell 22
         have f5 := hs.blk.frozen 22
         have x6 : w1.cell? ⟨g, 23, none⟩ = some (.slice none 0 0) := hs.blk.cell 23
         have f6 := hs.blk.frozen 23
         clear hs C ho)
      | fail)
    clear x0 f0 x1 f1 x2 f2 x3 f3 x4 f4 x5 f5 x6 f6
    have Oc : Hid (OwnC w ((((((((w1.setCell ⟨g, 17, none⟩ (.int .i64 v5.s)).setCell ⟨g, 18, none⟩ (.int .i64 v5.q)).setCell ⟨g, 19, none⟩ (.int .i64 v5.c.kind)).setCell ⟨g, 20, none⟩ (.int .i64 v5.c.who)).setCell ⟨g, 21, none⟩ (.slice ca.Ak v5.c.key.length ca.ck)).setCell ⟨g, 22, none⟩ (.slice ca.Av v5.c.val.length ca.cv)).setCell ⟨g, 23, none⟩ (.slice ca.Ao v5.c.old.length ca.co))) ca v5.c) := Lib.hid ⟨(own_set_t (own_set_t (own_set_t (own_set_t (own_set_t (own_set_t (own_set_t Oc.out.k (HS.out).blk (by decide)) ((HS.out.put 17 (.int .i64 v5.s))).blk (by decide)) (((HS.out.put 17 (.int .i64 v5.s)).put 18 (.int .i64 v5.q))).blk (by decide)) ((((HS.out.put 17 (.int .i64 v5.s)).put 18 (.int .i64 v5.q)).put 19 (.int .i64 v5.c.kind))).blk (by decide)) (((((HS.out.put 17 (.int .i64 v5.s)).put 18 (.int .i64 v5.q)).put 19 (.int .i64 v5.c.kind)).put 20 (.int .i64 v5.c.who))).blk (by decide)) ((((((HS.out.put 17 (.int .i64 v5.s)).put 18 (.int .i64 v5.q)).put 19 (.int .i64 v5.c.kind)).put 20 (.int .i64 v5.c.who)).put 21 (.slice ca.Ak v5.c.key.length ca.ck))).blk (by decide)) (((((((HS.out.put 17 (.int .i64 v5.s)).put 18 (.int .i64 v5.q)).put 19 (.int .i64 v5.c.kind)).put 20 (.int .i64 v5.c.who)).put 21 (.slice ca.Ak v5.c.key.length ca.ck)).put 22 (.slice ca.Av v5.c.val.length ca.cv))).blk (by decide)), (own_set_t (own_set_t (own_set_t (own_set_t (own_set_t (own_set_t (own_set_t Oc.out.v (HS.out).blk (by decide)) ((HS.out.put 17 (.int .i64 v5.s))).blk (by decide)) (((HS.out.put 17 (.int .i64 v5.s)).put 18 (.int .i64 v5.q))).blk (by decide)) ((((HS.out.put 17 (.int .i64 v5.s)).put 18 (.int .i64 v5.q)).put 19 (.int .i64 v5.c.kind))).blk (by decide)) (((((HS.out.put 17 (.int .i64 v5.s)).put 18 (.int .i64 v5.q)).put 19 (.int .i64 v5.c.kind)).put 20 (.int .i64 v5.c.who))).blk (by decide)) ((((((HS.out.put 17 (.int .i64 v5.s)).put 18 (.int .i64 v5.q)).put 19 (.int .i64 v5.c.kind)).put 20 (.int .i64 v5.c.who)).put 21 (.slice ca.Ak v5.c.key.length ca.ck))).blk (by decide)) (((((((HS.out.put 17 (.int .i64 v5.s)).put 18 (.int .i64 v5.q)).put 19 (.int .i64 v5.c.kind)).put 20 (.int .i64 v5.c.who)).put 21 (.slice ca.Ak v5.c.key.length ca.ck)).put 22 (.slice ca.Av v5.c.val.length ca.cv))).blk (by decide)), (own_set_t (own_set_t (own_set_t (own_set_t (own_set_t (own_set_t (own_set_t Oc.out.o (HS.out).blk (by decide)) ((HS.out.put 17 (.int .i64 v5.s))).blk (by decide)) (((HS.out.put 17 (.int .i64 v5.s)).put 18 (.int .i64 v5.q))).blk (by decide)) ((((HS.out.put 17 (.int .i64 v5.s)).put 18 (.int .i64 v5.q)).put 19 (.int .i64 v5.c.kind))).blk (by decide)) (((((HS.out.put 17 (.int .i64 v5.s)).put 18 (.int .i64 v5.q)).put 19 (.int .i64 v5.c.kind)).put 20 (.int .i64 v5.c.who))).blk (by decide)) ((((((HS.out.put 17 (.int .i64 v5.s)).put 18 (.int .i64 v5.q)).put 19 (.int .i64 v5.c.kind)).put 20 (.int .i64 v5.c.who)).put 21 (.slice ca.Ak v5.c.key.length ca.ck))).blk (by decide)) (((((((HS.out.put 17 (.int .i64 v5.s)).put 18 (.int .i64 v5.q)).put 19 (.int .i64 v5.c.kind)).put 20 (.int .i64 v5.c.who)).put 21 (.slice ca.Ak v5.c.key.length ca.ck)).put 22 (.slice ca.Av v5.c.val.length ca.cv))).blk (by decide))⟩
    have HS : Hid (RaSt w ((((((((w1.setCell ⟨g, 17, none⟩ (.int .i64 v5.s)).setCell ⟨g, 18, none⟩ (.int .i64 v5.q)).setCell ⟨g, 19, none⟩ (.int .i64 v5.c.kind)).setCell ⟨g, 20, none⟩ (.int .i64 v5.c.who)).setCell ⟨g, 21, none⟩ (.slice ca.Ak v5.c.key.length ca.ck)).setCell ⟨g, 22, none⟩ (.slice ca.Av v5.c.val.length ca.cv)).setCell ⟨g, 23, none⟩ (.slice ca.Ao v5.c.old.length ca.co))) b g #[.int .i64 (v0 : Int), .int .i64 (v1 : Int), .int .i64 (v2 : Int), .int .i64 (v3 : Int), .int .i64 0, .int .i64 0, .bool false, .int .i64 0, .int .i64 0, .int .i64 0, .int .i64 0, .slice none 0 0, .int .i64 0, .int .i64 0, .slice none 0 0, .slice none 0 0, .int .i64 (v4 : Int), .int .i64 v5.s, .int .i64 v5.q, .int .i64 v5.c.kind, .int .i64 v5.c.who, .slice ca.Ak v5.c.key.length ca.ck, .slice ca.Av v5.c.val.length ca.cv, .slice ca.Ao v5.c.old.length ca.co] u6) := Lib.hid ((((((((HS.out.put 17 (.int .i64 v5.s)).put 18 (.int .i64 v5.q)).put 19 (.int .i64 v5.c.kind)).put 20 (.int .i64 v5.c.who)).put 21 (.slice ca.Ak v5.c.key.length ca.ck)).put 22 (.slice ca.Av v5.c.val.length ca.cv)).put 23 (.slice ca.Ao v5.c.old.length ca.co)))
    generalize (((((((w1.setCell ⟨g, 17, none⟩ (.int .i64 v5.s)).setCell ⟨g, 18, none⟩ (.int .i64 v5.q)).setCell ⟨g, 19, none⟩ (.int .i64 v5.c.kind)).setCell ⟨g, 20, none⟩ (.int .i64 v5.c.who)).setCell ⟨g, 21, none⟩ (.slice ca.Ak v5.c.key.length ca.ck)).setCell ⟨g, 22, none⟩ (.slice ca.Av v5.c.val.length ca.cv)).setCell ⟨g, 23, none⟩ (.slice ca.Ao v5.c.old.length ca.co)) = wx at HS Oc ⊢
    go_wp2_with (first
      | (refine wpList_load_row rfl 29 (.tmp 3) rfl g rfl 29 #[.int .i64 (v0 : Int), .int .i64 (v1 : Int), .int .i64 (v2 : Int), .int .i64 (v3 : Int), .int .i64 0, .int .i64 0, .bool false, .int .i64 0, .int .i64 0, .int .i64 0, .int .i64 0, .slice none 0 0, .int .i64 0, .int .i64 0, .slice none 0 0, .slice none 0 0, .int .i64 (v4 : Int), .int .i64 v5.s, .int .i64 v5.q, .int .i64 v5.c.kind, .int .i64 v5.c.who, .slice ca.Ak v5.c.key.length ca.ck, .slice ca.Av v5.c.val.length ca.cv, .slice ca.Ao v5.c.old.length ca.co] (0, 0) _ HS.out.blk Try.underlying29 rfl (by kernel_rfl) ?_)
      | (refine wpList_store_row rfl 29 (.tmp 4) (.tmp 119) rfl (g + 1) #[.int .i64 (v0 : Int), .int .i64 (v1 : Int), .int .i64 (v2 : Int), .int .i64 (v3 : Int), .int .i64 0, .int .i64 0, .bool false, .int .i64 0, .int .i64 0, .int .i64 0, .int .i64 0, .slice none 0 0, .int .i64 0, .int .i64 0, .slice none 0 0, .slice none 0 0, .int .i64 (v4 : Int), .int .i64 v5.s, .int .i64 v5.q, .int .i64 v5.c.kind, .int .i64 v5.c.who, .slice ca.Ak v5.c.key.length ca.ck, .slice ca.Av v5.c.val.length ca.cv, .slice ca.Ao v5.c.old.length ca.co] rfl rfl 29 msgZ HS.out.res (by kernel_rfl) rfl (by kernel_rfl) ?_)
      | fail)
    refine bodyPost_ret (results_cell_row rfl _ _ _ _ _ _ _ rfl (HS.out.res.row #[.int .i64 (v0 : Int), .int .i64 (v1 : Int), .int .i64 (v2 : Int), .int .i64 (v3 : Int), .int .i64 0, .int .i64 0, .bool false, .int .i64 0, .int .i64 0, .int .i64 0, .int .i64 0, .slice none 0 0, .int .i64 0, .int .i64 0, .slice none 0 0, .slice none 0 0, .int .i64 (v4 : Int), .int .i64 v5.s, .int .i64 v5.q, .int .i64 v5.c.kind, .int .i64 v5.c.who, .slice ca.Ak v5.c.key.length ca.ck, .slice ca.Av v5.c.val.length ca.cv, .slice ca.Ao v5.c.old.length ca.co]) Try.underlying29 rfl (by kernel_rfl)) rfl ?_
    have hown : OwnG w wx ⟨none, 0, none, 0, none, 0, ca⟩ ⟨(v0 : Int), (v1 : Int), (v2 : Int), (v3 : Int), 0, 0, false, 0, 0, 0, 0, [], 0, 0, [], [], (v4 : Int), v5⟩ := ⟨own_nil _ _, ownI_nil _ _, ownI_nil _ _, Oc.out⟩
    obtain ⟨g1, g2⟩ := HS.out.rowS hown #[.int .i64 (v0 : Int), .int .i64 (v1 : Int), .int .i64 (v2 : Int), .int .i64 (v3 : Int), .int .i64 0, .int .i64 0, .bool false, .int .i64 0, .int .i64 0, .int .i64 0, .int .i64 0, .slice none 0 0, .int .i64 0, .int .i64 0, .slice none 0 0, .slice none 0 0, .int .i64 (v4 : Int), .int .i64 v5.s, .int .i64 v5.q, .int .i64 v5.c.kind, .int .i64 v5.c.who, .slice ca.Ak v5.c.key.length ca.ck, .slice ca.Av v5.c.val.length ca.cv, .slice ca.Ao v5.c.old.length ca.co]
    rw [HRES.out]
    exact ⟨_, rfl, g2, g1.r, g1.only⟩
  have HRES : Hid (Mg.get u0 = (⟨(v0 : Int), (v1 : Int), (v2 : Int), (v3 : Int), 0, 0, false, 0, 0, 0, 0, [], 0, 0, [], [], 0, En.zero⟩, u4)) := Lib.hid (by
    unfold Mg.get hd s4
    have d0 := D0.out
    have e0 := E0.out
    have d1 := D1.out
    have e1 := E1.out
    have d2 := D2.out
    have e2 := E2.out
    have d3 := D3.out
    have e3 := E3.out
    simp only [d0, e0, d1, e1, d2, e2, d3, e3, if_neg c2, if_neg c3, if_neg c4, if_neg c5, if_neg c7, if_neg c8]
    rfl)
  have r2 : ((v0 : Int) == 2) = false := by rw [beq_eq_false_iff_ne]; omega
  have r3 : ((v0 : Int) == 3) = false := by rw [beq_eq_false_iff_ne]; omega
  have r4 : ((v0 : Int) == 4) = false := by rw [beq_eq_false_iff_ne]; omega
  have r5 : ((v0 : Int) == 5) = false := by rw [beq_eq_false_iff_ne]; omega
  have r7 : ((v0 : Int) == 7) = false := by rw [beq_eq_false_iff_ne]; omega
  have r8 : ((v0 : Int) == 8) = false := by rw [beq_eq_false_iff_ne]; omega
  have x0 : wx.cell? ⟨g, 0, none⟩ = some (.int .i64 (v0 : Int)) := HS.out.blk.cell 0
  go_upto_region 28 with fail
  clear x0
  go_wp2_with (first
    | (refine wpList_load_row rfl 29 (.tmp 3) rfl g rfl 29 #[.int .i64 (v0 : Int), .int .i64 (v1 : Int), .int .i64 (v2 : Int), .int .i64 (v3 : Int), .int .i64 0, .int .i64 0, .bool false, .int .i64 0, .int .i64 0, .int .i64 0, .int .i64 0, .slice none 0 0, .int .i64 0, .int .i64 0, .slice none 0 0, .slice none 0 0, .int .i64 0, .int .i64 0, .int .i64 0, .int .i64 0, .int .i64 0, .slice none 0 0, .slice none 0 0, .slice none 0 0] (0, 0) _ HS.out.blk Try.underlying29 rfl (by kernel_rfl) ?_)
    | (refine wpList_store_row rfl 29 (.tmp 4) (.tmp 119) rfl (g + 1) #[.int .i64 (v0 : Int), .int .i64 (v1 : Int), .int .i64 (v2 : Int), .int .i64 (v3 : Int), .int .i64 0, .int .i64 0, .bool false, .int .i64 0, .int .i64 0, .int .i64 0, .int .i64 0, .slice none 0 0, .int .i64 0, .int .i64 0, .slice none 0 0, .slice none 0 0, .int .i64 0, .int .i64 0, .int .i64 0, .int .i64 0, .int .i64 0, .slice none 0 0, .slice none 0 0, .slice none 0 0] rfl rfl 29 msgZ HS.out.res (by kernel_rfl) rfl (by kernel_rfl) ?_)
    | fail)
  refine bodyPost_ret (results_cell_row rfl _ _ _ _ _ _ _ rfl (HS.out.res.row #[.int .i64 (v0 : Int), .int .i64 (v1 : Int), .int .i64 (v2 : Int), .int .i64 (v3 : Int), .int .i64 0, .int .i64 0, .bool false, .int .i64 0, .int .i64 0, .int .i64 0, .int .i64 0, .slice none 0 0, .int .i64 0, .int .i64 0, .slice none 0 0, .slice none 0 0, .int .i64 0, .int .i64 0, .int .i64 0, .int .i64 0, .int .i64 0, .slice none 0 0, .slice none 0 0, .slice none 0 0]) Try.underlying29 rfl (by kernel_rfl)) rfl ?_
  have hown : OwnG w wx ⟨none, 0, none, 0, none, 0, CA.zero⟩ ⟨(v0 : Int), (v1 : Int), (v2 : Int), (v3 : Int), 0, 0, false, 0, 0, 0, 0, [], 0, 0, [], [], 0, En.zero⟩ := ⟨own_nil _ _, ownI_nil _ _, ownI_nil _ _, OwnC.zero _ _⟩
  obtain ⟨g1, g2⟩ := HS.out.rowS hown #[.int .i64 (v0 : Int), .int .i64 (v1 : Int), .int .i64 (v2 : Int), .int .i64 (v3 : Int), .int .i64 0, .int .i64 0, .bool false, .int .i64 0, .int .i64 0, .int .i64 0, .int .i64 0, .slice none 0 0, .int .i64 0, .int .i64 0, .slice none 0 0, .slice none 0 0, .int .i64 0, .int .i64 0, .int .i64 0, .int .i64 0, .int .i64 0, .slice none 0 0, .slice none 0 0, .slice none 0 0]
  rw [HRES.out]
  exact ⟨_, rfl, g2, g1.r, g1.only⟩
end Go.Proofs.Ytlfkgpllleogoaa

