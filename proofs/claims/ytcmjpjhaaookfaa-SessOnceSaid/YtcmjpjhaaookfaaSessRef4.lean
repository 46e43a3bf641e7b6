/- hocketref4.SameTable of two tables that are alike. -/
import Derived.Test.YtcmjpjhaaookfaaSessRef
namespace Go.Proofs.Ytcmjpjhaaookfaa
open Go.RowKit
set_option linter.unusedVariables false
set_option maxHeartbeats 2000000 in
set_option maxRecDepth 100000 in
theorem sameTable_is (w : World) {A A' : Option Addr} {n c n' c' B B' : Nat} {ls : List Ls} (hn : n ≤ 100000) (hb : BytesLs ls) (h : RdL w B A n ls) (h' : RdL w B' A' n' ls) :
    Calls Try.prog 29 #[.slice A n c, .slice A' n' c'] w fun e w' => e = .returned (.bool true) ∧ Below w.heap.size w w' := by
  obtain rfl := h.length
  obtain rfl := h'.length
  have H := Lib.hid h.fit
  have H' := Lib.hid h'.fit
  have HBY := Lib.hid hb
  clear h h' hb
  go_enter Try.func29, Try.ntmps29
  go_wp2_with fail
  go_loopw [5] (fun i wr => ∃ j : Nat, j ≤ ls.length ∧ i = .int .i64 j ∧ Hid (Below w.heap.size w wr)) (fun i _ => ls.length - (intOf i).toNat)
  case atStart => exact ⟨0, Nat.zero_le _, rfl, Lib.hid (Below.refl _ _)⟩
  case round =>
    obtain ⟨j, hj, rfl, HB⟩ := hrel
    by_cases hlt : j < ls.length
    · obtain ⟨b, o, l, A1, c1, rfl, hl, y0, y1, y2, y3, y4, hrd⟩ := (H.out.below' HB.out).at hlt
      obtain ⟨b', o', l', A2, c2, rfl, hl', z0, z1, z2, z3, z4, hrd'⟩ := (H'.out.below' HB.out).at hlt
      rw [hl] at hl'
      injection hl' with hl'
      subst hl'
      have hbl := HBY.out l (List.mem_of_getElem? hl)
      have HBL := Lib.hid hbl
      have HRD := Lib.hid hrd
      have HRD' := Lib.hid hrd'
      have hv : IntKind.i64.wrap ((j : Int) + 1) = (j : Int) + 1 := IntWalk.i64_in _ (by omega)
      have e1 : (l.s == l.s) = true := by simp
      have e2 : (l.q == l.q) = true := by simp
      have e3 : (l.s != l.s) = false := by simp
      have e4 : (l.q != l.q) = false := by simp
      clear hl hbl hrd hrd'
      have hb0 := World.block_lt_of_cell? _ _ y0
      have hb1 := World.block_lt_of_cell? _ _ z0
      have HC : Hid (∀ wx, Below wr.heap.size wr wx → (wx.cell? ⟨b, o + j * 5, none⟩ = some (.int .i64 l.s) ∧ wx.cell? ⟨b, o + j * 5 + 1, none⟩ = some (.int .i64 l.q) ∧ wx.cell? ⟨b, o + j * 5 + 2, none⟩ = some (.int .i64 l.e) ∧ wx.cell? ⟨b, o + j * 5 + 3, none⟩ = some (.slice A1 l.v.length c1) ∧ wx.cell? ⟨b, o + j * 5 + 4, none⟩ = some (.int .i64 l.n)) ∧ wx.cell? ⟨b', o' + j * 5, none⟩ = some (.int .i64 l.s) ∧ wx.cell? ⟨b', o' + j * 5 + 1, none⟩ = some (.int .i64 l.q) ∧ wx.cell? ⟨b', o' + j * 5 + 2, none⟩ = some (.int .i64 l.e) ∧ wx.cell? ⟨b', o' + j * 5 + 3, none⟩ = some (.slice A2 l.v.length c2) ∧ wx.cell? ⟨b', o' + j * 5 + 4, none⟩ = some (.int .i64 l.n)) := Lib.hid (fun wx hb =>
        ⟨⟨(hb.cell (p := ⟨b, o + j * 5, none⟩) hb0).trans y0, (hb.cell (p := ⟨b, o + j * 5 + 1, none⟩) hb0).trans y1, (hb.cell (p := ⟨b, o + j * 5 + 2, none⟩) hb0).trans y2, (hb.cell (p := ⟨b, o + j * 5 + 3, none⟩) hb0).trans y3, (hb.cell (p := ⟨b, o + j * 5 + 4, none⟩) hb0).trans y4⟩,
         (hb.cell (p := ⟨b', o' + j * 5, none⟩) hb1).trans z0, (hb.cell (p := ⟨b', o' + j * 5 + 1, none⟩) hb1).trans z1, (hb.cell (p := ⟨b', o' + j * 5 + 2, none⟩) hb1).trans z2, (hb.cell (p := ⟨b', o' + j * 5 + 3, none⟩) hb1).trans z3, (hb.cell (p := ⟨b', o' + j * 5 + 4, none⟩) hb1).trans z4⟩)
      clear y0 y1 y2 y3 y4 z0 z1 z2 z3 z4 hb0 hb1
      go_upto_region 6 with fail
      have hjl : (j : Int) < (ls.length : Int) := by omega
      have hj0 : (0 : Int) ≤ (j : Int) := by omega
      have hbw : Below wr.heap.size wr wr.drew := (Below.refl _ _).drew
      have hS0 := HC.out _ hbw
      refine wp_region_held_drew (S := fun w' => (w'.cell? ⟨b, o + j * 5, none⟩ = some (.int .i64 l.s) ∧ w'.cell? ⟨b, o + j * 5 + 1, none⟩ = some (.int .i64 l.q) ∧ w'.cell? ⟨b, o + j * 5 + 2, none⟩ = some (.int .i64 l.e) ∧ w'.cell? ⟨b, o + j * 5 + 3, none⟩ = some (.slice A1 l.v.length c1) ∧ w'.cell? ⟨b, o + j * 5 + 4, none⟩ = some (.int .i64 l.n)) ∧ w'.cell? ⟨b', o' + j * 5, none⟩ = some (.int .i64 l.s) ∧ w'.cell? ⟨b', o' + j * 5 + 1, none⟩ = some (.int .i64 l.q) ∧ w'.cell? ⟨b', o' + j * 5 + 2, none⟩ = some (.int .i64 l.e) ∧ w'.cell? ⟨b', o' + j * 5 + 3, none⟩ = some (.slice A2 l.v.length c2) ∧ w'.cell? ⟨b', o' + j * 5 + 4, none⟩ = some (.int .i64 l.n)) (by kernel_rfl) hS0 (fun _ => ?_)
      generalize wr.drew = w4 at hS0 hbw ⊢
      have hS := Lib.hid hS0
      have HB4 := Lib.hid hbw
      clear hS0 hbw
      refine wpAnyH_take (i := 0) (v := .slice (some ⟨b, o, none⟩) ls.length c) rfl (by kernel_rfl) (by kernel_rfl) (by kernel_rfl) (fun _ _ _ h => h) (Or.inl ⟨by kernel_rfl, fun w _ => by go_simp⟩) hS.out ?_
      refine wpAnyH_take (i := 1) (v := .int .i64 (j : Int)) rfl (by kernel_rfl) (by kernel_rfl) (by kernel_rfl) (fun _ _ _ h => h) (Or.inl ⟨by kernel_rfl, fun w _ => by go_simp⟩) hS.out ?_
      refine wpAnyH_take (i := 2) (v := .pointer (some ⟨b, o + j * 5, none⟩)) rfl (by kernel_rfl) (by kernel_rfl) (by kernel_rfl) (fun _ _ _ h => h) (Or.inl ⟨by kernel_rfl, fun w _ => by go_simp⟩) hS.out ?_
      refine wpAnyH_take (i := 3) (v := .pointer (some ⟨b, o + j * 5, none⟩)) rfl (by kernel_rfl) (by kernel_rfl) (by kernel_rfl) (fun _ _ _ h => h) (Or.inl ⟨by kernel_rfl, fun w _ => by go_simp⟩) hS.out ?_
      refine wpAnyH_take (i := 4) (v := .int .i64 l.s) rfl (by kernel_rfl) (by kernel_rfl) (by kernel_rfl) (fun _ _ _ h => h) (Or.inl ⟨by kernel_rfl, fun w h => by obtain ⟨⟨y0, y1, y2, y3, y4⟩, z0, z1, z2, z3, z4⟩ := h; go_simp⟩) hS.out ?_
      refine wpAnyH_take (i := 5) (v := .slice (some ⟨b', o', none⟩) ls.length c') rfl (by kernel_rfl) (by kernel_rfl) (by kernel_rfl) (fun _ _ _ h => h) (Or.inl ⟨by kernel_rfl, fun w _ => by go_simp⟩) hS.out ?_
      refine wpAnyH_take (i := 6) (v := .int .i64 (j : Int)) rfl (by kernel_rfl) (by kernel_rfl) (by kernel_rfl) (fun _ _ _ h => h) (Or.inl ⟨by kernel_rfl, fun w _ => by go_simp⟩) hS.out ?_
      refine wpAnyH_take (i := 7) (v := .pointer (some ⟨b', o' + j * 5, none⟩)) rfl (by kernel_rfl) (by kernel_rfl) (by kernel_rfl) (fun _ _ _ h => h) (Or.inl ⟨by kernel_rfl, fun w _ => by go_simp⟩) hS.out ?_
      refine wpAnyH_take (i := 8) (v := .pointer (some ⟨b', o' + j * 5, none⟩)) rfl (by kernel_rfl) (by kernel_rfl) (by kernel_rfl) (fun _ _ _ h => h) (Or.inl ⟨by kernel_rfl, fun w _ => by go_simp⟩) hS.out ?_
      refine wpAnyH_take (i := 9) (v := .int .i64 l.s) rfl (by kernel_rfl) (by kernel_rfl) (by kernel_rfl) (fun _ _ _ h => h) (Or.inl ⟨by kernel_rfl, fun w h => by obtain ⟨⟨y0, y1, y2, y3, y4⟩, z0, z1, z2, z3, z4⟩ := h; go_simp⟩) hS.out ?_
      refine wpAnyH_take (i := 10) (v := .bool false) rfl (by kernel_rfl) (by kernel_rfl) (by kernel_rfl) (fun _ _ _ h => h) (Or.inl ⟨by kernel_rfl, fun w _ => by go_simp⟩) hS.out ?_
      refine wpAnyH_take (i := 11) (v := .bool false) rfl (by kernel_rfl) (by kernel_rfl) (by kernel_rfl) (fun _ _ _ h => h) (Or.inl ⟨by kernel_rfl, fun w _ => by go_simp⟩) hS.out ?_
      refine wpAnyH_take (i := 12) (v := .slice (some ⟨b, o, none⟩) ls.length c) rfl (by kernel_rfl) (by kernel_rfl) (by kernel_rfl) (fun _ _ _ h => h) (Or.inl ⟨by kernel_rfl, fun w _ => by go_simp⟩) hS.out ?_
      refine wpAnyH_take (i := 13) (v := .int .i64 (j : Int)) rfl (by kernel_rfl) (by kernel_rfl) (by kernel_rfl) (fun _ _ _ h => h) (Or.inl ⟨by kernel_rfl, fun w _ => by go_simp⟩) hS.out ?_
      refine wpAnyH_take (i := 14) (v := .pointer (some ⟨b, o + j * 5, none⟩)) rfl (by kernel_rfl) (by kernel_rfl) (by kernel_rfl) (fun _ _ _ h => h) (Or.inl ⟨by kernel_rfl, fun w _ => by go_simp⟩) hS.out ?_
      refine wpAnyH_take (i := 15) (v := .pointer (some ⟨b, o + j * 5 + 1, none⟩)) rfl (by kernel_rfl) (by kernel_rfl) (by kernel_rfl) (fun _ _ _ h => h) (Or.inl ⟨by kernel_rfl, fun w _ => by go_simp⟩) hS.out ?_
      refine wpAnyH_take (i := 16) (v := .int .i64 l.q) rfl (by kernel_rfl) (by kernel_rfl) (by kernel_rfl) (fun _ _ _ h => h) (Or.inl ⟨by kernel_rfl, fun w h => by obtain ⟨⟨y0, y1, y2, y3, y4⟩, z0, z1, z2, z3, z4⟩ := h; go_simp⟩) hS.out ?_
      refine wpAnyH_take (i := 17) (v := .slice (some ⟨b', o', none⟩) ls.length c') rfl (by kernel_rfl) (by kernel_rfl) (by kernel_rfl) (fun _ _ _ h => h) (Or.inl ⟨by kernel_rfl, fun w _ => by go_simp⟩) hS.out ?_
      refine wpAnyH_take (i := 18) (v := .int .i64 (j : Int)) rfl (by kernel_rfl) (by kernel_rfl) (by kernel_rfl) (fun _ _ _ h => h) (Or.inl ⟨by kernel_rfl, fun w _ => by go_simp⟩) hS.out ?_
      refine wpAnyH_take (i := 19) (v := .pointer (some ⟨b', o' + j * 5, none⟩)) rfl (by kernel_rfl) (by kernel_rfl) (by kernel_rfl) (fun _ _ _ h => h) (Or.inl ⟨by kernel_rfl, fun w _ => by go_simp⟩) hS.out ?_
      refine wpAnyH_take (i := 20) (v := .pointer (some ⟨b', o' + j * 5 + 1, none⟩)) rfl (by kernel_rfl) (by kernel_rfl) (by kernel_rfl) (fun _ _ _ h => h) (Or.inl ⟨by kernel_rfl, fun w _ => by go_simp⟩) hS.out ?_
      refine wpAnyH_take (i := 21) (v := .int .i64 l.q) rfl (by kernel_rfl) (by kernel_rfl) (by kernel_rfl) (fun _ _ _ h => h) (Or.inl ⟨by kernel_rfl, fun w h => by obtain ⟨⟨y0, y1, y2, y3, y4⟩, z0, z1, z2, z3, z4⟩ := h; go_simp⟩) hS.out ?_
      refine wpAnyH_take (i := 22) (v := .bool false) rfl (by kernel_rfl) (by kernel_rfl) (by kernel_rfl) (fun _ _ _ h => h) (Or.inl ⟨by kernel_rfl, fun w _ => by go_simp⟩) hS.out ?_
      refine wpAnyH_take (i := 23) (v := .bool false) rfl (by kernel_rfl) (by kernel_rfl) (by kernel_rfl) (fun _ _ _ h => h) (Or.inl ⟨by kernel_rfl, fun w _ => by go_simp⟩) hS.out ?_
      refine wpAnyH_take (i := 24) (v := .bool false) rfl (by kernel_rfl) (by kernel_rfl) (by kernel_rfl) (fun _ _ _ h => h) (Or.inl ⟨by kernel_rfl, fun w _ => by go_simp⟩) hS.out ?_
      refine wpAnyH_take (i := 25) (v := .slice (some ⟨b, o, none⟩) ls.length c) rfl (by kernel_rfl) (by kernel_rfl) (by kernel_rfl) (fun _ _ _ h => h) (Or.inl ⟨by kernel_rfl, fun w _ => by go_simp⟩) hS.out ?_
      refine wpAnyH_take (i := 26) (v := .int .i64 (j : Int)) rfl (by kernel_rfl) (by kernel_rfl) (by kernel_rfl) (fun _ _ _ h => h) (Or.inl ⟨by kernel_rfl, fun w _ => by go_simp⟩) hS.out ?_
      refine wpAnyH_take (i := 27) (v := .pointer (some ⟨b, o + j * 5, none⟩)) rfl (by kernel_rfl) (by kernel_rfl) (by kernel_rfl) (fun _ _ _ h => h) (Or.inl ⟨by kernel_rfl, fun w _ => by go_simp⟩) hS.out ?_
      refine wpAnyH_take (i := 28) (v := .pointer (some ⟨b, o + j * 5 + 2, none⟩)) rfl (by kernel_rfl) (by kernel_rfl) (by kernel_rfl) (fun _ _ _ h => h) (Or.inl ⟨by kernel_rfl, fun w _ => by go_simp⟩) hS.out ?_
      refine wpAnyH_take (i := 29) (v := .agg #[.int .i64 l.e, .slice A1 l.v.length c1, .int .i64 l.n]) rfl (by kernel_rfl) (by kernel_rfl) (by kernel_rfl) (fun _ _ _ h => h) (Or.inl ⟨by kernel_rfl, fun w h => by obtain ⟨⟨y0, y1, y2, y3, y4⟩, z0, z1, z2, z3, z4⟩ := h; go_simp⟩) hS.out ?_
      refine wpAnyH_take (i := 30) (v := .slice (some ⟨b', o', none⟩) ls.length c') rfl (by kernel_rfl) (by kernel_rfl) (by kernel_rfl) (fun _ _ _ h => h) (Or.inl ⟨by kernel_rfl, fun w _ => by go_simp⟩) hS.out ?_
      refine wpAnyH_take (i := 31) (v := .int .i64 (j : Int)) rfl (by kernel_rfl) (by kernel_rfl) (by kernel_rfl) (fun _ _ _ h => h) (Or.inl ⟨by kernel_rfl, fun w _ => by go_simp⟩) hS.out ?_
      refine wpAnyH_take (i := 32) (v := .pointer (some ⟨b', o' + j * 5, none⟩)) rfl (by kernel_rfl) (by kernel_rfl) (by kernel_rfl) (fun _ _ _ h => h) (Or.inl ⟨by kernel_rfl, fun w _ => by go_simp⟩) hS.out ?_
      refine wpAnyH_take (i := 33) (v := .pointer (some ⟨b', o' + j * 5 + 2, none⟩)) rfl (by kernel_rfl) (by kernel_rfl) (by kernel_rfl) (fun _ _ _ h => h) (Or.inl ⟨by kernel_rfl, fun w _ => by go_simp⟩) hS.out ?_
      refine wpAnyH_take (i := 34) (v := .agg #[.int .i64 l.e, .slice A2 l.v.length c2, .int .i64 l.n]) rfl (by kernel_rfl) (by kernel_rfl) (by kernel_rfl) (fun _ _ _ h => h) (Or.inl ⟨by kernel_rfl, fun w h => by obtain ⟨⟨y0, y1, y2, y3, y4⟩, z0, z1, z2, z3, z4⟩ := h; go_simp⟩) hS.out ?_
      refine wpAnyH_ready (rs := [35]) (by kernel_rfl) (by simp) ?_
      refine AllReadyH.cons rfl (fun K hK => ?_) AllReadyH.nil
      go_simp
      refine (same_is _ _ _ HBL.out (HRD.out.below HB4.out) (HRD'.out.below HB4.out)).mono ?_
      rintro e w5 ⟨rfl, hb5⟩
      have HB5 := Lib.hid (HB4.out.trans (hb5.mono HB4.out.size))
      have hS := Lib.hid (HC.out _ HB5.out)
      clear hb5
      go_simp
      refine hK.out _ _ hS.out (fun _ => ?_)
      clear hK K
      refine wpAnyH_take (i := 36) (v := .bool false) rfl (by kernel_rfl) (by kernel_rfl) (by kernel_rfl) (fun _ _ _ h => h) (Or.inl ⟨by kernel_rfl, fun w _ => by go_simp⟩) hS.out ?_
      refine wpAnyH_take (i := 37) (v := .bool false) rfl (by kernel_rfl) (by kernel_rfl) (by kernel_rfl) (fun _ _ _ h => h) (Or.inl ⟨by kernel_rfl, fun w _ => by go_simp⟩) hS.out ?_
      refine wpAnyH_done (by kernel_rfl) ?_ _
      go_wp2_with fail
      go_roundw
      case rel => exact ⟨j + 1, by omega, by go_num, Lib.hid (HB.out.trans (HB5.out.mono HB.out.size))⟩
      case measure => simp only [intOf]; omega
    · obtain rfl : j = ls.length := by omega
      go_wp2_with fail
      go_ret
      exact ⟨rfl, HB.out⟩
end Go.Proofs.Ytcmjpjhaaookfaa
