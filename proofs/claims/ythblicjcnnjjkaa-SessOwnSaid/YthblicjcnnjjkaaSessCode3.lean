/- The code's sweep: the calls of the others, in a row of the call's own with room for one more. -/
import Derived.Test.YthblicjcnnjjkaaSessCode1
import Derived.Test.YthblicjcnnjjkaaLastInsert
namespace Go.Proofs.Ythblicjcnnjjkaa
open Go.RowKit
set_option linter.unusedVariables false
set_option maxHeartbeats 2000000 in
set_option maxRecDepth 100000 in
theorem without9_raw (ls : List Ls) (A : Option Addr) (n c B : Nat) (s : Int) (hn : n ≤ 100000) (hL : LimL ls) (w : World) (hr : RdL w B A n ls) :
    Calls Try.prog 21 #[.slice A n c, .int .i64 s] w fun e w' => ∃ g, e = .returned (.slice (some ⟨g, 0, none⟩) (Tb.less ls s).length (ls.length + 1)) ∧ OwnL w w' (some ⟨g, 0, none⟩) (Tb.less ls s).length (ls.length + 1) (Tb.less ls s) ∧ Below w.heap.size w w' := by
  obtain rfl := hr.length
  have HL := Lib.hid hL
  have HR := Lib.hid hr.fit
  obtain ⟨i0, hi0, hi1, hi2, hi3⟩ := info_parts cellL.info
  clear hr hL
  go_enter Try.func21, Try.ntmps21
  go_wp2_with (first
    | (at_make
       refine wpList_make_own w rfl _ _ 22 rfl w.heap.size 31 i0 _ 5 Try.underlying22 hi0 hi1 hi2 _ _ _ (ls.length + 1) rfl rfl (by push_cast; rfl) (by rw [hi3]; omega) (by unfold maxLen; omega) (Nat.le_refl _) ?_
       intro w0 hown0 hg0)
    | fail)
  clear hi0 hi1 hi2 hi3
  obtain ⟨g, hg⟩ : ∃ g, w.heap.size = g := ⟨_, rfl⟩
  have HB00 := Lib.hid ((Below.refl w.heap.size w).grown hg0 (Nat.le_refl _) (fun k hk => by cases hk))
  have HO00 : Hid (OwnL w w0 (some ⟨g, 0, none⟩) 0 (ls.length + 1) []) := Lib.hid ⟨[], by rw [← hg]; exact hown0, CellsL.nil⟩
  clear hown0 hg0
  rw [hg]
  have HG := Lib.hid hg
  clear hg
  go_loopw [5, 7, 14] (fun s5 s7 s14 wr => ∃ (k m : Nat), k ≤ ls.length ∧ m ≤ k ∧ s14 = .int .i64 (k : Int) ∧ s5 = .slice (some ⟨g, 0, none⟩) m (ls.length + 1) ∧ Hid (OwnL w wr (some ⟨g, 0, none⟩) m (ls.length + 1) (Tb.less (ls.take k) s)) ∧ Hid (Below w.heap.size w wr)) (fun _ _ s14 _ => ls.length - (intOf s14).toNat)
  case atStart => exact ⟨0, 0, Nat.zero_le _, Nat.zero_le _, rfl, rfl, Lib.hid HO00.out, HB00⟩
  case round =>
    obtain ⟨k, m, hk, hm, rfl, rfl, HO, HB⟩ := hrel
    by_cases hlt : k < ls.length
    · obtain ⟨b, o, l, A1, c1, rfl, hl, y0, y1, y2, y3, y4, hrd⟩ := ((HR.out.below HB.out).fit).at hlt
      have hl1 : Lim 0 l.v.length := HL.out l (List.mem_of_getElem? hl)
      have HRD := Lib.hid hrd
      have HP := Lib.hid hl
      clear hrd hl
      have hb0 : Below wr.heap.size wr (wr.alloc (.cells #[.int .i64 l.s, .int .i64 l.q, .int .i64 l.e, .slice A1 l.v.length c1, .int .i64 l.n] 31)) := (Below.refl _ _).alloc (Nat.le_refl _) _
      by_cases hs : l.s = s
      · have hsb : (l.s != s) = false := by simpa using hs
        have HT := Lib.hid (Tb.less_take (s := s) HP.out)
        have HS := Lib.hid hs
        have HB0 := Lib.hid hb0
        clear hb0 hs
        go_wp2_with fail
        go_roundw
        case rel =>
          refine ⟨k + 1, m, by omega, by omega, by go_num, rfl, Lib.hid ?_, Lib.hid (HB.out.trans (HB0.out.mono HB.out.size))⟩
          rw [HT.out, if_pos HS.out]
          exact HO.out.below HB0.out
        case measure => simp only [intOf]; omega
      · have hsb : (l.s != s) = true := by simpa using hs
        have HT := Lib.hid (Tb.less_take (s := s) HP.out)
        have HS := Lib.hid hs
        clear hs
        go_upto_region 6 with fail
        have hBX := HB.out.trans (hb0.drew.mono HB.out.size)
        have HC : Hid (∀ wx, Below (wr.heap.size + 1) (wr.alloc (.cells #[.int .i64 l.s, .int .i64 l.q, .int .i64 l.e, .slice A1 l.v.length c1, .int .i64 l.n] 31)).drew wx → wx.cell? ⟨wr.heap.size, 0, none⟩ = some (.int .i64 l.s) ∧ wx.cell? ⟨wr.heap.size, 1, none⟩ = some (.int .i64 l.q) ∧ wx.cell? ⟨wr.heap.size, 2, none⟩ = some (.int .i64 l.e) ∧ wx.cell? ⟨wr.heap.size, 3, none⟩ = some (.slice A1 l.v.length c1) ∧ wx.cell? ⟨wr.heap.size, 4, none⟩ = some (.int .i64 l.n)) := by
          have hbk := Blk.new wr 31 #[.int .i64 l.s, .int .i64 l.q, .int .i64 l.e, .slice A1 l.v.length c1, .int .i64 l.n]
          exact Lib.hid (fun wx hb => ⟨(hb.cell (p := ⟨wr.heap.size, 0, none⟩) (by simp)).trans (hbk.cell 0), (hb.cell (p := ⟨wr.heap.size, 1, none⟩) (by simp)).trans (hbk.cell 1), (hb.cell (p := ⟨wr.heap.size, 2, none⟩) (by simp)).trans (hbk.cell 2), (hb.cell (p := ⟨wr.heap.size, 3, none⟩) (by simp)).trans (hbk.cell 3), (hb.cell (p := ⟨wr.heap.size, 4, none⟩) (by simp)).trans (hbk.cell 4)⟩)
        have HB0 := Lib.hid hb0.drew
        obtain ⟨wz, hwz⟩ : ∃ wz, wr.alloc (.cells #[.int .i64 l.s, .int .i64 l.q, .int .i64 l.e, .slice A1 l.v.length c1, .int .i64 l.n] 31) = wz := ⟨_, rfl⟩
        have hsz : wz.heap.size = wr.heap.size + 1 := by rw [← hwz]; simp
        rw [hwz] at HB0 hBX HC ⊢
        have HSZ := Lib.hid hsz
        have HBX := Lib.hid hBX
        obtain ⟨z0, z1, z2, z3, z4⟩ := HC.out wz.drew (Below.refl _ _)
        clear hwz hsz hBX hb0
        go_region_law (first
          | (refine step_append_fits (W := w) cellL (.tmp 22) (.tmp 31) rfl rfl (by rfl) (ownsRow_below hv1 ((Below.refl _ _).alloc (Nat.le_refl _) _)) (by rfl) (Rd.lastAt _ A4 c4 l _ rfl) (lastC_one _ _ _) (by omega) (by omega) (hB1.alloc hB1.size _) ?_
             intro w3 hown3 hB3 hg3)
          | (rw [if_pos (by kernel_rfl)]; go_simp; go_at_call 20; refine (copied9_any (W := w) _ _ hl1 (HRD.out.below HB0.out) HBX.out).mono ?_; rintro e w1 ⟨A4, c4, rfl, ho1, hB1, hb1⟩; obtain ⟨vs, hv1, hv2⟩ := (HO.out.below HB0.out).below hb1; obtain ⟨z0, z1, z2, z3, z4⟩ := HC.out w1 (by rw [← HSZ.out]; exact hb1); unfold resV; go_simp))
        all_goals go_wp2_with fail
        all_goals go_roundw
        all_goals first
          | (simp only [intOf]; omega)
          | (refine ⟨k + 1, m + 1, by omega, by omega, by go_num, rfl, Lib.hid ?_, Lib.hid hB3⟩
             have b1 : Below w1.heap.size w1 (w1.alloc (.cells #[.int .i64 l.s, .int .i64 l.q, .int .i64 l.e, .slice A4 l.v.length c4, .int .i64 l.n] 31)) := (Below.refl _ _).alloc (Nat.le_refl _) _
             refine ⟨vs ++ lastC A4 c4 l, hown3, ?_⟩
             rw [HT.out, if_neg HS.out]
             exact ((hv2.snoc ho1).below b1).grown (by decide) (ownsRow_below hv1 b1) hg3)
    · obtain rfl : k = ls.length := by omega
      go_wp2_with fail
      go_ret
      have HO2 := HO.out
      rw [List.take_of_length_le (Nat.le_refl _)] at HO2
      obtain rfl := HO2.length
      exact ⟨g, rfl, HO2, HB.out⟩
theorem without9_any {W w : World} {ls : List Ls} {A : Option Addr} {n c B : Nat} (s : Int) (hn : n ≤ 100000) (hL : LimL ls) (hr : RdL w B A n ls) (hB : Below W.heap.size W w) :
    Calls Try.prog 21 #[.slice A n c, .int .i64 s] w fun e w' => ∃ g, e = .returned (.slice (some ⟨g, 0, none⟩) (Tb.less ls s).length (ls.length + 1)) ∧ OwnL W w' (some ⟨g, 0, none⟩) (Tb.less ls s).length (ls.length + 1) (Tb.less ls s) ∧ Below W.heap.size W w' ∧ Below w.heap.size w w' :=
  (without9_raw ls A n c B s hn hL w hr).mono fun e w' ⟨g, h1, h2, h3⟩ => ⟨g, h1, h2.of hB.size, hB.trans (h3.mono hB.size), h3⟩
end Go.Proofs.Ythblicjcnnjjkaa
