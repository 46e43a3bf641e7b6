/- MachSame -/
import Derived.Test.YtmekamgohonffaaBF02
import Derived.Test.YtmekamgohonffaaBF03
import Derived.Test.YtmekamgohonffaaBF09
import Derived.Test.YtmekamgohonffaaBF14
import Derived.Test.YtmekamgohonffaaBF19
import Derived.Test.YtmekamgohonffaaBF23
import Derived.Test.YtmekamgohonffaaBF26
import Derived.Test.YtmekamgohonffaaBF27
import Derived.Test.YtmekamgohonffaaBF32
import Derived.Deep.CutBlock
import Derived.Deep.DeepCutAuto
import Derived.Deep.DrawnRows
import Derived.Deep.QuietTactic
import Derived.Deep.RegionHeld
import Derived.Deep.RegionHeld3
import Derived.Deep.RegionLaw
import Derived.Deep.RegionWith
import Derived.StillTail
namespace Go.Proofs.Ytmekamgohonffaa
open Go.RowKit
set_option linter.unusedVariables false
set_option maxHeartbeats 4000000 in
set_option maxRecDepth 100000 in
theorem sameT_any (w : World) {A A' : Option Addr} {n c n' c' B B' : Nat} {ls ls' : List Ls} (hn : n ≤ 100000) (hn' : n' ≤ 100000) (hb : BytesLs ls) (hb' : BytesLs ls') (h : RdL w B A n ls) (h' : RdL w B' A' n' ls') :
    Calls Try.prog 64 #[.slice A n c, .slice A' n' c'] w fun e w' => e = .returned (.bool (decide (ls = ls'))) ∧ Below w.heap.size w w' := by
  obtain rfl := h.length
  obtain rfl := h'.length
  have H := Lib.hid h.fit
  have H' := Lib.hid h'.fit
  have HBY := Lib.hid hb
  have HBY' := Lib.hid hb'
  clear h h' hb hb'
  obtain ⟨D, hD⟩ : ∃ D, decide (ls = ls') = D := ⟨_, rfl⟩
  rw [hD]
  have HDD := Lib.hid hD
  clear hD
  by_cases hlen : (ls.length : Int) = (ls'.length : Int)
  · have hlb : ((ls.length : Int) == (ls'.length : Int)) = true := by simpa using hlen
    have hln : ls.length = ls'.length := by omega
    have HLN := Lib.hid hln
    have hlen2 : ((ls.length : Int) != (ls'.length : Int)) = false := by simpa using hlen
    clear hln
    go_enter Try.func64, Try.ntmps64
    go_wp2_with fail
    go_loopw [5] (fun i wr => ∃ j : Nat, j ≤ ls.length ∧ i = .int .i64 j ∧ Hid (∀ i, i < j → ls[i]? = ls'[i]?) ∧ Hid (Below w.heap.size w wr)) (fun i _ => ls.length - (intOf i).toNat)
    case atStart => exact ⟨0, Nat.zero_le _, rfl, Lib.hid (fun i hi => absurd hi (by omega)), Lib.hid (Below.refl _ _)⟩
    case round =>
      obtain ⟨j, hj, rfl, HQ, HB⟩ := hrel
      by_cases hlt : j < ls.length
      · have hlt' : j < ls'.length := by have := HLN.out; omega
        obtain ⟨b, o, l, A1, c1, rfl, hl, y0, y1, y2, y3, y4, hrd⟩ := (H.out.below' HB.out).at hlt
        obtain ⟨b', o', l', A2, c2, rfl, hl', z0, z1, z2, z3, z4, hrd'⟩ := (H'.out.below' HB.out).at hlt'
        have HX := Lib.hid hl
        have HX' := Lib.hid hl'
        have HBL := Lib.hid (HBY.out l (List.mem_of_getElem? hl))
        have HBL' := Lib.hid (HBY'.out l' (List.mem_of_getElem? hl'))
        have HRD := Lib.hid hrd
        have HRD' := Lib.hid hrd'
        have hv : IntKind.i64.wrap ((j : Int) + 1) = (j : Int) + 1 := IntWalk.i64_in _ (by omega)
        have hjl : (j : Int) < (ls.length : Int) := by omega
        have hjl' : (j : Int) < (ls'.length : Int) := by omega
        have hj0 : (0 : Int) ≤ (j : Int) := by omega
        clear hl hl' hrd hrd' hlt' hlen hlb hlen2
        have hb0 := World.block_lt_of_cell? _ _ y0
        have hb1 := World.block_lt_of_cell? _ _ z0
        have HC : Hid (∀ wx, Below wr.heap.size wr wx → ((fun w' => (w'.cell? ⟨b, o + j * 5, none⟩ = some (.int .i64 l.s) ∧ w'.cell? ⟨b, o + j * 5 + 1, none⟩ = some (.int .i64 l.q) ∧ w'.cell? ⟨b, o + j * 5 + 2, none⟩ = some (.int .i64 l.e) ∧ w'.cell? ⟨b, o + j * 5 + 3, none⟩ = some (.slice A1 l.v.length c1) ∧ w'.cell? ⟨b, o + j * 5 + 4, none⟩ = some (.int .i64 l.n)) ∧ w'.cell? ⟨b', o' + j * 5, none⟩ = some (.int .i64 l'.s) ∧ w'.cell? ⟨b', o' + j * 5 + 1, none⟩ = some (.int .i64 l'.q) ∧ w'.cell? ⟨b', o' + j * 5 + 2, none⟩ = some (.int .i64 l'.e) ∧ w'.cell? ⟨b', o' + j * 5 + 3, none⟩ = some (.slice A2 l'.v.length c2) ∧ w'.cell? ⟨b', o' + j * 5 + 4, none⟩ = some (.int .i64 l'.n)) wx)) := Lib.hid (fun wx hb =>
          ⟨⟨(hb.cell (p := ⟨b, o + j * 5, none⟩) hb0).trans y0, (hb.cell (p := ⟨b, o + j * 5 + 1, none⟩) hb0).trans y1, (hb.cell (p := ⟨b, o + j * 5 + 2, none⟩) hb0).trans y2, (hb.cell (p := ⟨b, o + j * 5 + 3, none⟩) hb0).trans y3, (hb.cell (p := ⟨b, o + j * 5 + 4, none⟩) hb0).trans y4⟩,
           (hb.cell (p := ⟨b', o' + j * 5, none⟩) hb1).trans z0, (hb.cell (p := ⟨b', o' + j * 5 + 1, none⟩) hb1).trans z1, (hb.cell (p := ⟨b', o' + j * 5 + 2, none⟩) hb1).trans z2, (hb.cell (p := ⟨b', o' + j * 5 + 3, none⟩) hb1).trans z3, (hb.cell (p := ⟨b', o' + j * 5 + 4, none⟩) hb1).trans z4⟩)
        simp only at HC
        clear y0 y1 y2 y3 y4 z0 z1 z2 z3 z4 hb0 hb1
        by_cases hs : l.s = l'.s
        · have hsb : (l.s == l'.s) = true := by simpa using hs
          have hsn : (l.s != l'.s) = false := by simpa using hs
          by_cases hq : l.q = l'.q
          · have hqb : (l.q == l'.q) = true := by simpa using hq
            have hqn : (l.q != l'.q) = false := by simpa using hq
            by_cases hr : l.e = l'.e ∧ l.v = l'.v ∧ l.n = l'.n
            · have HRV : Hid ((decide (l.e = l'.e) && decide (l.v = l'.v) && decide (l.n = l'.n)) = true) := Lib.hid (by simp [hr.1, hr.2.1, hr.2.2])
              have HEQ : Hid (l = l') := Lib.hid ((Ls.eq_iff _ _).2 ⟨hs, hq, hr.1, hr.2.1, hr.2.2⟩)
              clear hs hq hr
              go_upto_region 6 with fail
              have hbw : Below wr.heap.size wr wr.drew := (Below.refl _ _).drew
              have hS0 := HC.out _ hbw
              refine wp_region_held_drew (S := fun w' => (w'.cell? ⟨b, o + j * 5, none⟩ = some (.int .i64 l.s) ∧ w'.cell? ⟨b, o + j * 5 + 1, none⟩ = some (.int .i64 l.q) ∧ w'.cell? ⟨b, o + j * 5 + 2, none⟩ = some (.int .i64 l.e) ∧ w'.cell? ⟨b, o + j * 5 + 3, none⟩ = some (.slice A1 l.v.length c1) ∧ w'.cell? ⟨b, o + j * 5 + 4, none⟩ = some (.int .i64 l.n)) ∧ w'.cell? ⟨b', o' + j * 5, none⟩ = some (.int .i64 l'.s) ∧ w'.cell? ⟨b', o' + j * 5 + 1, none⟩ = some (.int .i64 l'.q) ∧ w'.cell? ⟨b', o' + j * 5 + 2, none⟩ = some (.int .i64 l'.e) ∧ w'.cell? ⟨b', o' + j * 5 + 3, none⟩ = some (.slice A2 l'.v.length c2) ∧ w'.cell? ⟨b', o' + j * 5 + 4, none⟩ = some (.int .i64 l'.n)) (by kernel_rfl) hS0 (fun _ => ?_)
              generalize wr.drew = w4 at hS0 hbw ⊢
              have hS := Lib.hid hS0
              have HB4 := Lib.hid hbw
              clear hS0 hbw
              refine wpAnyH_take (i := 0) (v := .slice (some ⟨b, o, none⟩) ls.length c) rfl (by kernel_rfl) (by kernel_rfl) (by kernel_rfl) (fun _ _ _ h => h) (Or.inl ⟨by kernel_rfl, fun w _ => by go_simp⟩) hS.out ?_
              refine wpAnyH_take (i := 1) (v := .int .i64 (j : Int)) rfl (by kernel_rfl) (by kernel_rfl) (by kernel_rfl) (fun _ _ _ h => h) (Or.inl ⟨by kernel_rfl, fun w _ => by go_simp⟩) hS.out ?_
              refine wpAnyH_take (i := 2) (v := .pointer (some ⟨b, o + j * 5, none⟩)) rfl (by kernel_rfl) (by kernel_rfl) (by kernel_rfl) (fun _ _ _ h => h) (Or.inl ⟨by kernel_rfl, fun w _ => by go_simp⟩) hS.out ?_
              refine wpAnyH_take (i := 3) (v := .pointer (some ⟨b, o + j * 5, none⟩)) rfl (by kernel_rfl) (by kernel_rfl) (by kernel_rfl) (fun _ _ _ h => h) (Or.inl ⟨by kernel_rfl, fun w _ => by go_simp⟩) hS.out ?_
              refine wpAnyH_take (i := 4) (v := .int .i64 l.s) rfl (by kernel_rfl) (by kernel_rfl) (by kernel_rfl) (fun _ _ _ h => h) (Or.inl ⟨by kernel_rfl, fun w h => by obtain ⟨⟨y0, y1, y2, y3, y4⟩, z0, z1, z2, z3, z4⟩ := h; go_simp⟩) hS.out ?_
              refine wpAnyH_take (i := 5) (v := .slice (some ⟨b', o', none⟩) ls'.length c') rfl (by kernel_rfl) (by kernel_rfl) (by kernel_rfl) (fun _ _ _ h => h) (Or.inl ⟨by kernel_rfl, fun w _ => by go_simp⟩) hS.out ?_
              refine wpAnyH_take (i := 6) (v := .int .i64 (j : Int)) rfl (by kernel_rfl) (by kernel_rfl) (by kernel_rfl) (fun _ _ _ h => h) (Or.inl ⟨by kernel_rfl, fun w _ => by go_simp⟩) hS.out ?_
              refine wpAnyH_take (i := 7) (v := .pointer (some ⟨b', o' + j * 5, none⟩)) rfl (by kernel_rfl) (by kernel_rfl) (by kernel_rfl) (fun _ _ _ h => h) (Or.inl ⟨by kernel_rfl, fun w _ => by go_simp⟩) hS.out ?_
              refine wpAnyH_take (i := 8) (v := .pointer (some ⟨b', o' + j * 5, none⟩)) rfl (by kernel_rfl) (by kernel_rfl) (by kernel_rfl) (fun _ _ _ h => h) (Or.inl ⟨by kernel_rfl, fun w _ => by go_simp⟩) hS.out ?_
              refine wpAnyH_take (i := 9) (v := .int .i64 l'.s) rfl (by kernel_rfl) (by kernel_rfl) (by kernel_rfl) (fun _ _ _ h => h) (Or.inl ⟨by kernel_rfl, fun w h => by obtain ⟨⟨y0, y1, y2, y3, y4⟩, z0, z1, z2, z3, z4⟩ := h; go_simp⟩) hS.out ?_
              refine wpAnyH_take (i := 10) (v := .bool false) rfl (by kernel_rfl) (by kernel_rfl) (by kernel_rfl) (fun _ _ _ h => h) (Or.inl ⟨by kernel_rfl, fun w _ => by go_simp⟩) hS.out ?_
              refine wpAnyH_take (i := 11) (v := .bool false) rfl (by kernel_rfl) (by kernel_rfl) (by kernel_rfl) (fun _ _ _ h => h) (Or.inl ⟨by kernel_rfl, fun w _ => by go_simp⟩) hS.out ?_
              refine wpAnyH_take (i := 12) (v := .slice (some ⟨b, o, none⟩) ls.length c) rfl (by kernel_rfl) (by kernel_rfl) (by kernel_rfl) (fun _ _ _ h => h) (Or.inl ⟨by kernel_rfl, fun w _ => by go_simp⟩) hS.out ?_
              refine wpAnyH_take (i := 13) (v := .int .i64 (j : Int)) rfl (by kernel_rfl) (by kernel_rfl) (by kernel_rfl) (fun _ _ _ h => h) (Or.inl ⟨by kernel_rfl, fun w _ => by go_simp⟩) hS.out ?_
              refine wpAnyH_take (i := 14) (v := .pointer (some ⟨b, o + j * 5, none⟩)) rfl (by kernel_rfl) (by kernel_rfl) (by kernel_rfl) (fun _ _ _ h => h) (Or.inl ⟨by kernel_rfl, fun w _ => by go_simp⟩) hS.out ?_
              refine wpAnyH_take (i := 15) (v := .pointer (some ⟨b, o + j * 5 + 1, none⟩)) rfl (by kernel_rfl) (by kernel_rfl) (by kernel_rfl) (fun _ _ _ h => h) (Or.inl ⟨by kernel_rfl, fun w _ => by go_simp⟩) hS.out ?_
              refine wpAnyH_take (i := 16) (v := .int .i64 l.q) rfl (by kernel_rfl) (by kernel_rfl) (by kernel_rfl) (fun _ _ _ h => h) (Or.inl ⟨by kernel_rfl, fun w h => by obtain ⟨⟨y0, y1, y2, y3, y4⟩, z0, z1, z2, z3, z4⟩ := h; go_simp⟩) hS.out ?_
              refine wpAnyH_take (i := 17) (v := .slice (some ⟨b', o', none⟩) ls'.length c') rfl (by kernel_rfl) (by kernel_rfl) (by kernel_rfl) (fun _ _ _ h => h) (Or.inl ⟨by kernel_rfl, fun w _ => by go_simp⟩) hS.out ?_
              refine wpAnyH_take (i := 18) (v := .int .i64 (j : Int)) rfl (by kernel_rfl) (by kernel_rfl) (by kernel_rfl) (fun _ _ _ h => h) (Or.inl ⟨by kernel_rfl, fun w _ => by go_simp⟩) hS.out ?_
              refine wpAnyH_take (i := 19) (v := .pointer (some ⟨b', o' + j * 5, none⟩)) rfl (by kernel_rfl) (by kernel_rfl) (by kernel_rfl) (fun _ _ _ h => h) (Or.inl ⟨by kernel_rfl, fun w _ => by go_simp⟩) hS.out ?_
              refine wpAnyH_take (i := 20) (v := .pointer (some ⟨b', o' + j * 5 + 1, none⟩)) rfl (by kernel_rfl) (by kernel_rfl) (by kernel_rfl) (fun _ _ _ h => h) (Or.inl ⟨by kernel_rfl, fun w _ => by go_simp⟩) hS.out ?_
              refine wpAnyH_take (i := 21) (v := .int .i64 l'.q) rfl (by kernel_rfl) (by kernel_rfl) (by kernel_rfl) (fun _ _ _ h => h) (Or.inl ⟨by kernel_rfl, fun w h => by obtain ⟨⟨y0, y1, y2, y3, y4⟩, z0, z1, z2, z3, z4⟩ := h; go_simp⟩) hS.out ?_
              refine wpAnyH_take (i := 22) (v := .bool false) rfl (by kernel_rfl) (by kernel_rfl) (by kernel_rfl) (fun _ _ _ h => h) (Or.inl ⟨by kernel_rfl, fun w _ => by go_simp⟩) hS.out ?_
              refine wpAnyH_take (i := 23) (v := .bool false) rfl (by kernel_rfl) (by kernel_rfl) (by kernel_rfl) (fun _ _ _ h => h) (Or.inl ⟨by kernel_rfl, fun w _ => by go_simp⟩) hS.out ?_
              refine wpAnyH_take (i := 24) (v := .bool false) rfl (by kernel_rfl) (by kernel_rfl) (by kernel_rfl) (fun _ _ _ h => h) (Or.inl ⟨by kernel_rfl, fun w _ => by go_simp⟩) hS.out ?_
              refine wpAnyH_take (i := 25) (v := .slice (some ⟨b, o, none⟩) ls.length c) rfl (by kernel_rfl) (by kernel_rfl) (by kernel_rfl) (fun _ _ _ h => h) (Or.inl ⟨by kernel_rfl, fun w _ => by go_simp⟩) hS.out ?_
              refine wpAnyH_take (i := 26) (v := .int .i64 (j : Int)) rfl (by kernel_rfl) (by kernel_rfl) (by kernel_rfl) (fun _ _ _ h => h) (Or.inl ⟨by kernel_rfl, fun w _ => by go_simp⟩) hS.out ?_
              refine wpAnyH_take (i := 27) (v := .pointer (some ⟨b, o + j * 5, none⟩)) rfl (by kernel_rfl) (by kernel_rfl) (by kernel_rfl) (fun _ _ _ h => h) (Or.inl ⟨by kernel_rfl, fun w _ => by go_simp⟩) hS.out ?_
              refine wpAnyH_take (i := 28) (v := .pointer (some ⟨b, o + j * 5 + 2, none⟩)) rfl (by kernel_rfl) (by kernel_rfl) (by kernel_rfl) (fun _ _ _ h => h) (Or.inl ⟨by kernel_rfl, fun w _ => by go_simp⟩) hS.out ?_
              refine wpAnyH_take (i := 29) (v := .agg #[.int .i64 l.e, .slice A1 l.v.length c1, .int .i64 l.n]) rfl (by kernel_rfl) (by kernel_rfl) (by kernel_rfl) (fun _ _ _ h => h) (Or.inl ⟨by kernel_rfl, fun w h => by obtain ⟨⟨y0, y1, y2, y3, y4⟩, z0, z1, z2, z3, z4⟩ := h; go_simp⟩) hS.out ?_
              refine wpAnyH_take (i := 30) (v := .slice (some ⟨b', o', none⟩) ls'.length c') rfl (by kernel_rfl) (by kernel_rfl) (by kernel_rfl) (fun _ _ _ h => h) (Or.inl ⟨by kernel_rfl, fun w _ => by go_simp⟩) hS.out ?_
              refine wpAnyH_take (i := 31) (v := .int .i64 (j : Int)) rfl (by kernel_rfl) (by kernel_rfl) (by kernel_rfl) (fun _ _ _ h => h) (Or.inl ⟨by kernel_rfl, fun w _ => by go_simp⟩) hS.out ?_
              refine wpAnyH_take (i := 32) (v := .pointer (some ⟨b', o' + j * 5, none⟩)) rfl (by kernel_rfl) (by kernel_rfl) (by kernel_rfl) (fun _ _ _ h => h) (Or.inl ⟨by kernel_rfl, fun w _ => by go_simp⟩) hS.out ?_
              refine wpAnyH_take (i := 33) (v := .pointer (some ⟨b', o' + j * 5 + 2, none⟩)) rfl (by kernel_rfl) (by kernel_rfl) (by kernel_rfl) (fun _ _ _ h => h) (Or.inl ⟨by kernel_rfl, fun w _ => by go_simp⟩) hS.out ?_
              refine wpAnyH_take (i := 34) (v := .agg #[.int .i64 l'.e, .slice A2 l'.v.length c2, .int .i64 l'.n]) rfl (by kernel_rfl) (by kernel_rfl) (by kernel_rfl) (fun _ _ _ h => h) (Or.inl ⟨by kernel_rfl, fun w h => by obtain ⟨⟨y0, y1, y2, y3, y4⟩, z0, z1, z2, z3, z4⟩ := h; go_simp⟩) hS.out ?_
              refine wpAnyH_ready (rs := [35]) (by kernel_rfl) (by simp) ?_
              refine AllReadyH.cons rfl (fun K hK => ?_) AllReadyH.nil
              go_simp
              refine (sameR_any _ _ _ _ _ HBL.out HBL'.out (HRD.out.below HB4.out) (HRD'.out.below HB4.out)).mono ?_
              rw [HRV.out]
              rintro e w5 ⟨rfl, hb5⟩
              have HB5 := Lib.hid (HB4.out.trans (hb5.mono HB4.out.size))
              have hS := Lib.hid (HC.out _ HB5.out)
              clear hb5
              go_simp
              refine hK.out _ _ hS.out (fun _ => ?_)
              clear hK K
              refine wpAnyH_take (i := 36) (v := .bool false) rfl (by kernel_rfl) (by kernel_rfl) (by kernel_rfl) (fun _ _ _ h => h) (Or.inl ⟨by kernel_rfl, fun w _ => by go_simp⟩) hS.out ?_
              refine wpAnyH_take (i := 37) (v := .bool false) rfl (by kernel_rfl) (by kernel_rfl) (by kernel_rfl) (fun _ _ _ h => h) (Or.inl ⟨by kernel_rfl, fun w _ => by go_simp⟩) hS.out ?_
              refine wpAnyH_done (by kernel_rfl) ?_ _
              go_wp2_with fail
              go_roundw
              case rel =>
                refine ⟨j + 1, by omega, by go_num, Lib.hid (fun i hi => ?_), Lib.hid (HB.out.trans (HB5.out.mono HB.out.size))⟩
                rcases Nat.lt_or_ge i j with h1 | h1
                · exact HQ.out i h1
                · obtain rfl : i = j := by omega
                  rw [HX.out, HX'.out, HEQ.out]
              case measure => simp only [intOf]; omega
            · have HRV : Hid ((decide (l.e = l'.e) && decide (l.v = l'.v) && decide (l.n = l'.n)) = false) := Lib.hid (by rw [Bool.eq_false_iff]; simp only [ne_eq, Bool.and_eq_true, decide_eq_true_eq]; rintro ⟨⟨h1, h2⟩, h3⟩; exact hr ⟨h1, h2, h3⟩)
              have HNE : Hid (l ≠ l') := Lib.hid (fun h => hr (by rw [h]; exact ⟨rfl, rfl, rfl⟩))
              have HNL : Hid (ls ≠ ls') := Lib.hid (fun h => HNE.out (by have h1 := HX.out; rw [h, HX'.out] at h1; exact (Option.some.inj h1).symm))
              clear hs hq hr
              go_upto_region 6 with fail
              have hbw : Below wr.heap.size wr wr.drew := (Below.refl _ _).drew
              have hS0 := HC.out _ hbw
              refine wp_region_held_drew (S := fun w' => (w'.cell? ⟨b, o + j * 5, none⟩ = some (.int .i64 l.s) ∧ w'.cell? ⟨b, o + j * 5 + 1, none⟩ = some (.int .i64 l.q) ∧ w'.cell? ⟨b, o + j * 5 + 2, none⟩ = some (.int .i64 l.e) ∧ w'.cell? ⟨b, o + j * 5 + 3, none⟩ = some (.slice A1 l.v.length c1) ∧ w'.cell? ⟨b, o + j * 5 + 4, none⟩ = some (.int .i64 l.n)) ∧ w'.cell? ⟨b', o' + j * 5, none⟩ = some (.int .i64 l'.s) ∧ w'.cell? ⟨b', o' + j * 5 + 1, none⟩ = some (.int .i64 l'.q) ∧ w'.cell? ⟨b', o' + j * 5 + 2, none⟩ = some (.int .i64 l'.e) ∧ w'.cell? ⟨b', o' + j * 5 + 3, none⟩ = some (.slice A2 l'.v.length c2) ∧ w'.cell? ⟨b', o' + j * 5 + 4, none⟩ = some (.int .i64 l'.n)) (by kernel_rfl) hS0 (fun _ => ?_)
              generalize wr.drew = w4 at hS0 hbw ⊢
              have hS := Lib.hid hS0
              have HB4 := Lib.hid hbw
              clear hS0 hbw
              refine wpAnyH_take (i := 0) (v := .slice (some ⟨b, o, none⟩) ls.length c) rfl (by kernel_rfl) (by kernel_rfl) (by kernel_rfl) (fun _ _ _ h => h) (Or.inl ⟨by kernel_rfl, fun w _ => by go_simp⟩) hS.out ?_
              refine wpAnyH_take (i := 1) (v := .int .i64 (j : Int)) rfl (by kernel_rfl) (by kernel_rfl) (by kernel_rfl) (fun _ _ _ h => h) (Or.inl ⟨by kernel_rfl, fun w _ => by go_simp⟩) hS.out ?_
              refine wpAnyH_take (i := 2) (v := .pointer (some ⟨b, o + j * 5, none⟩)) rfl (by kernel_rfl) (by kernel_rfl) (by kernel_rfl) (fun _ _ _ h => h) (Or.inl ⟨by kernel_rfl, fun w _ => by go_simp⟩) hS.out ?_
              refine wpAnyH_take (i := 3) (v := .pointer (some ⟨b, o + j * 5, none⟩)) rfl (by kernel_rfl) (by kernel_rfl) (by kernel_rfl) (fun _ _ _ h => h) (Or.inl ⟨by kernel_rfl, fun w _ => by go_simp⟩) hS.out ?_
              refine wpAnyH_take (i := 4) (v := .int .i64 l.s) rfl (by kernel_rfl) (by kernel_rfl) (by kernel_rfl) (fun _ _ _ h => h) (Or.inl ⟨by kernel_rfl, fun w h => by obtain ⟨⟨y0, y1, y2, y3, y4⟩, z0, z1, z2, z3, z4⟩ := h; go_simp⟩) hS.out ?_
              refine wpAnyH_take (i := 5) (v := .slice (some ⟨b', o', none⟩) ls'.length c') rfl (by kernel_rfl) (by kernel_rfl) (by kernel_rfl) (fun _ _ _ h => h) (Or.inl ⟨by kernel_rfl, fun w _ => by go_simp⟩) hS.out ?_
              refine wpAnyH_take (i := 6) (v := .int .i64 (j : Int)) rfl (by kernel_rfl) (by kernel_rfl) (by kernel_rfl) (fun _ _ _ h => h) (Or.inl ⟨by kernel_rfl, fun w _ => by go_simp⟩) hS.out ?_
              refine wpAnyH_take (i := 7) (v := .pointer (some ⟨b', o' + j * 5, none⟩)) rfl (by kernel_rfl) (by kernel_rfl) (by kernel_rfl) (fun _ _ _ h => h) (Or.inl ⟨by kernel_rfl, fun w _ => by go_simp⟩) hS.out ?_
              refine wpAnyH_take (i := 8) (v := .pointer (some ⟨b', o' + j * 5, none⟩)) rfl (by kernel_rfl) (by kernel_rfl) (by kernel_rfl) (fun _ _ _ h => h) (Or.inl ⟨by kernel_rfl, fun w _ => by go_simp⟩) hS.out ?_
              refine wpAnyH_take (i := 9) (v := .int .i64 l'.s) rfl (by kernel_rfl) (by kernel_rfl) (by kernel_rfl) (fun _ _ _ h => h) (Or.inl ⟨by kernel_rfl, fun w h => by obtain ⟨⟨y0, y1, y2, y3, y4⟩, z0, z1, z2, z3, z4⟩ := h; go_simp⟩) hS.out ?_
              refine wpAnyH_take (i := 10) (v := .bool false) rfl (by kernel_rfl) (by kernel_rfl) (by kernel_rfl) (fun _ _ _ h => h) (Or.inl ⟨by kernel_rfl, fun w _ => by go_simp⟩) hS.out ?_
              refine wpAnyH_take (i := 11) (v := .bool false) rfl (by kernel_rfl) (by kernel_rfl) (by kernel_rfl) (fun _ _ _ h => h) (Or.inl ⟨by kernel_rfl, fun w _ => by go_simp⟩) hS.out ?_
              refine wpAnyH_take (i := 12) (v := .slice (some ⟨b, o, none⟩) ls.length c) rfl (by kernel_rfl) (by kernel_rfl) (by kernel_rfl) (fun _ _ _ h => h) (Or.inl ⟨by kernel_rfl, fun w _ => by go_simp⟩) hS.out ?_
              refine wpAnyH_take (i := 13) (v := .int .i64 (j : Int)) rfl (by kernel_rfl) (by kernel_rfl) (by kernel_rfl) (fun _ _ _ h => h) (Or.inl ⟨by kernel_rfl, fun w _ => by go_simp⟩) hS.out ?_
              refine wpAnyH_take (i := 14) (v := .pointer (some ⟨b, o + j * 5, none⟩)) rfl (by kernel_rfl) (by kernel_rfl) (by kernel_rfl) (fun _ _ _ h => h) (Or.inl ⟨by kernel_rfl, fun w _ => by go_simp⟩) hS.out ?_
              refine wpAnyH_take (i := 15) (v := .pointer (some ⟨b, o + j * 5 + 1, none⟩)) rfl (by kernel_rfl) (by kernel_rfl) (by kernel_rfl) (fun _ _ _ h => h) (Or.inl ⟨by kernel_rfl, fun w _ => by go_simp⟩) hS.out ?_
              refine wpAnyH_take (i := 16) (v := .int .i64 l.q) rfl (by kernel_rfl) (by kernel_rfl) (by kernel_rfl) (fun _ _ _ h => h) (Or.inl ⟨by kernel_rfl, fun w h => by obtain ⟨⟨y0, y1, y2, y3, y4⟩, z0, z1, z2, z3, z4⟩ := h; go_simp⟩) hS.out ?_
              refine wpAnyH_take (i := 17) (v := .slice (some ⟨b', o', none⟩) ls'.length c') rfl (by kernel_rfl) (by kernel_rfl) (by kernel_rfl) (fun _ _ _ h => h) (Or.inl ⟨by kernel_rfl, fun w _ => by go_simp⟩) hS.out ?_
              refine wpAnyH_take (i := 18) (v := .int .i64 (j : Int)) rfl (by kernel_rfl) (by kernel_rfl) (by kernel_rfl) (fun _ _ _ h => h) (Or.inl ⟨by kernel_rfl, fun w _ => by go_simp⟩) hS.out ?_
              refine wpAnyH_take (i := 19) (v := .pointer (some ⟨b', o' + j * 5, none⟩)) rfl (by kernel_rfl) (by kernel_rfl) (by kernel_rfl) (fun _ _ _ h => h) (Or.inl ⟨by kernel_rfl, fun w _ => by go_simp⟩) hS.out ?_
              refine wpAnyH_take (i := 20) (v := .pointer (some ⟨b', o' + j * 5 + 1, none⟩)) rfl (by kernel_rfl) (by kernel_rfl) (by kernel_rfl) (fun _ _ _ h => h) (Or.inl ⟨by kernel_rfl, fun w _ => by go_simp⟩) hS.out ?_
              refine wpAnyH_take (i := 21) (v := .int .i64 l'.q) rfl (by kernel_rfl) (by kernel_rfl) (by kernel_rfl) (fun _ _ _ h => h) (Or.inl ⟨by kernel_rfl, fun w h => by obtain ⟨⟨y0, y1, y2, y3, y4⟩, z0, z1, z2, z3, z4⟩ := h; go_simp⟩) hS.out ?_
              refine wpAnyH_take (i := 22) (v := .bool false) rfl (by kernel_rfl) (by kernel_rfl) (by kernel_rfl) (fun _ _ _ h => h) (Or.inl ⟨by kernel_rfl, fun w _ => by go_simp⟩) hS.out ?_
              refine wpAnyH_take (i := 23) (v := .bool false) rfl (by kernel_rfl) (by kernel_rfl) (by kernel_rfl) (fun _ _ _ h => h) (Or.inl ⟨by kernel_rfl, fun w _ => by go_simp⟩) hS.out ?_
              refine wpAnyH_take (i := 24) (v := .bool false) rfl (by kernel_rfl) (by kernel_rfl) (by kernel_rfl) (fun _ _ _ h => h) (Or.inl ⟨by kernel_rfl, fun w _ => by go_simp⟩) hS.out ?_
              refine wpAnyH_take (i := 25) (v := .slice (some ⟨b, o, none⟩) ls.length c) rfl (by kernel_rfl) (by kernel_rfl) (by kernel_rfl) (fun _ _ _ h => h) (Or.inl ⟨by kernel_rfl, fun w _ => by go_simp⟩) hS.out ?_
              refine wpAnyH_take (i := 26) (v := .int .i64 (j : Int)) rfl (by kernel_rfl) (by kernel_rfl) (by kernel_rfl) (fun _ _ _ h => h) (Or.inl ⟨by kernel_rfl, fun w _ => by go_simp⟩) hS.out ?_
              refine wpAnyH_take (i := 27) (v := .pointer (some ⟨b, o + j * 5, none⟩)) rfl (by kernel_rfl) (by kernel_rfl) (by kernel_rfl) (fun _ _ _ h => h) (Or.inl ⟨by kernel_rfl, fun w _ => by go_simp⟩) hS.out ?_
              refine wpAnyH_take (i := 28) (v := .pointer (some ⟨b, o + j * 5 + 2, none⟩)) rfl (by kernel_rfl) (by kernel_rfl) (by kernel_rfl) (fun _ _ _ h => h) (Or.inl ⟨by kernel_rfl, fun w _ => by go_simp⟩) hS.out ?_
              refine wpAnyH_take (i := 29) (v := .agg #[.int .i64 l.e, .slice A1 l.v.length c1, .int .i64 l.n]) rfl (by kernel_rfl) (by kernel_rfl) (by kernel_rfl) (fun _ _ _ h => h) (Or.inl ⟨by kernel_rfl, fun w h => by obtain ⟨⟨y0, y1, y2, y3, y4⟩, z0, z1, z2, z3, z4⟩ := h; go_simp⟩) hS.out ?_
              refine wpAnyH_take (i := 30) (v := .slice (some ⟨b', o', none⟩) ls'.length c') rfl (by kernel_rfl) (by kernel_rfl) (by kernel_rfl) (fun _ _ _ h => h) (Or.inl ⟨by kernel_rfl, fun w _ => by go_simp⟩) hS.out ?_
              refine wpAnyH_take (i := 31) (v := .int .i64 (j : Int)) rfl (by kernel_rfl) (by kernel_rfl) (by kernel_rfl) (fun _ _ _ h => h) (Or.inl ⟨by kernel_rfl, fun w _ => by go_simp⟩) hS.out ?_
              refine wpAnyH_take (i := 32) (v := .pointer (some ⟨b', o' + j * 5, none⟩)) rfl (by kernel_rfl) (by kernel_rfl) (by kernel_rfl) (fun _ _ _ h => h) (Or.inl ⟨by kernel_rfl, fun w _ => by go_simp⟩) hS.out ?_
              refine wpAnyH_take (i := 33) (v := .pointer (some ⟨b', o' + j * 5 + 2, none⟩)) rfl (by kernel_rfl) (by kernel_rfl) (by kernel_rfl) (fun _ _ _ h => h) (Or.inl ⟨by kernel_rfl, fun w _ => by go_simp⟩) hS.out ?_
              refine wpAnyH_take (i := 34) (v := .agg #[.int .i64 l'.e, .slice A2 l'.v.length c2, .int .i64 l'.n]) rfl (by kernel_rfl) (by kernel_rfl) (by kernel_rfl) (fun _ _ _ h => h) (Or.inl ⟨by kernel_rfl, fun w h => by obtain ⟨⟨y0, y1, y2, y3, y4⟩, z0, z1, z2, z3, z4⟩ := h; go_simp⟩) hS.out ?_
              refine wpAnyH_ready (rs := [35]) (by kernel_rfl) (by simp) ?_
              refine AllReadyH.cons rfl (fun K hK => ?_) AllReadyH.nil
              go_simp
              refine (sameR_any _ _ _ _ _ HBL.out HBL'.out (HRD.out.below HB4.out) (HRD'.out.below HB4.out)).mono ?_
              rw [HRV.out]
              rintro e w5 ⟨rfl, hb5⟩
              have HB5 := Lib.hid (HB4.out.trans (hb5.mono HB4.out.size))
              have hS := Lib.hid (HC.out _ HB5.out)
              clear hb5
              go_simp
              refine hK.out _ _ hS.out (fun _ => ?_)
              clear hK K
              refine wpAnyH_take (i := 36) (v := .bool true) rfl (by kernel_rfl) (by kernel_rfl) (by kernel_rfl) (fun _ _ _ h => h) (Or.inl ⟨by kernel_rfl, fun w _ => by go_simp⟩) hS.out ?_
              refine wpAnyH_take (i := 37) (v := .bool true) rfl (by kernel_rfl) (by kernel_rfl) (by kernel_rfl) (fun _ _ _ h => h) (Or.inl ⟨by kernel_rfl, fun w _ => by go_simp⟩) hS.out ?_
              refine wpAnyH_done (by kernel_rfl) ?_ _
              go_wp2_with fail
              go_ret
              have hDf : D = false := by rw [← HDD.out]; exact decide_eq_false HNL.out
              subst hDf
              exact ⟨rfl, HB.out.trans (HB5.out.mono HB.out.size)⟩
          · have hqb : (l.q == l'.q) = false := by simpa using hq
            have hqn : (l.q != l'.q) = true := by simpa using hq
            have HNE : Hid (l ≠ l') := Lib.hid (fun h => hq (by rw [h]))
            have HNL : Hid (ls ≠ ls') := Lib.hid (fun h => HNE.out (by have h1 := HX.out; rw [h, HX'.out] at h1; exact (Option.some.inj h1).symm))
            clear hs hq
            go_upto_region 6 with fail
            have hbw : Below wr.heap.size wr wr.drew := (Below.refl _ _).drew
            have hS0 := HC.out _ hbw
            refine wp_region_held_drew (S := fun w' => (w'.cell? ⟨b, o + j * 5, none⟩ = some (.int .i64 l.s) ∧ w'.cell? ⟨b, o + j * 5 + 1, none⟩ = some (.int .i64 l.q) ∧ w'.cell? ⟨b, o + j * 5 + 2, none⟩ = some (.int .i64 l.e) ∧ w'.cell? ⟨b, o + j * 5 + 3, none⟩ = some (.slice A1 l.v.length c1) ∧ w'.cell? ⟨b, o + j * 5 + 4, none⟩ = some (.int .i64 l.n)) ∧ w'.cell? ⟨b', o' + j * 5, none⟩ = some (.int .i64 l'.s) ∧ w'.cell? ⟨b', o' + j * 5 + 1, none⟩ = some (.int .i64 l'.q) ∧ w'.cell? ⟨b', o' + j * 5 + 2, none⟩ = some (.int .i64 l'.e) ∧ w'.cell? ⟨b', o' + j * 5 + 3, none⟩ = some (.slice A2 l'.v.length c2) ∧ w'.cell? ⟨b', o' + j * 5 + 4, none⟩ = some (.int .i64 l'.n)) (by kernel_rfl) hS0 (fun _ => ?_)
            generalize wr.drew = w4 at hS0 hbw ⊢
            have hS := Lib.hid hS0
            have HB4 := Lib.hid hbw
            clear hS0 hbw
            refine wpAnyH_take (i := 0) (v := .slice (some ⟨b, o, none⟩) ls.length c) rfl (by kernel_rfl) (by kernel_rfl) (by kernel_rfl) (fun _ _ _ h => h) (Or.inl ⟨by kernel_rfl, fun w _ => by go_simp⟩) hS.out ?_
            refine wpAnyH_take (i := 1) (v := .int .i64 (j : Int)) rfl (by kernel_rfl) (by kernel_rfl) (by kernel_rfl) (fun _ _ _ h => h) (Or.inl ⟨by kernel_rfl, fun w _ => by go_simp⟩) hS.out ?_
            refine wpAnyH_take (i := 2) (v := .pointer (some ⟨b, o + j * 5, none⟩)) rfl (by kernel_rfl) (by kernel_rfl) (by kernel_rfl) (fun _ _ _ h => h) (Or.inl ⟨by kernel_rfl, fun w _ => by go_simp⟩) hS.out ?_
            refine wpAnyH_take (i := 3) (v := .pointer (some ⟨b, o + j * 5, none⟩)) rfl (by kernel_rfl) (by kernel_rfl) (by kernel_rfl) (fun _ _ _ h => h) (Or.inl ⟨by kernel_rfl, fun w _ => by go_simp⟩) hS.out ?_
            refine wpAnyH_take (i := 4) (v := .int .i64 l.s) rfl (by kernel_rfl) (by kernel_rfl) (by kernel_rfl) (fun _ _ _ h => h) (Or.inl ⟨by kernel_rfl, fun w h => by obtain ⟨⟨y0, y1, y2, y3, y4⟩, z0, z1, z2, z3, z4⟩ := h; go_simp⟩) hS.out ?_
            refine wpAnyH_take (i := 5) (v := .slice (some ⟨b', o', none⟩) ls'.length c') rfl (by kernel_rfl) (by kernel_rfl) (by kernel_rfl) (fun _ _ _ h => h) (Or.inl ⟨by kernel_rfl, fun w _ => by go_simp⟩) hS.out ?_
            refine wpAnyH_take (i := 6) (v := .int .i64 (j : Int)) rfl (by kernel_rfl) (by kernel_rfl) (by kernel_rfl) (fun _ _ _ h => h) (Or.inl ⟨by kernel_rfl, fun w _ => by go_simp⟩) hS.out ?_
            refine wpAnyH_take (i := 7) (v := .pointer (some ⟨b', o' + j * 5, none⟩)) rfl (by kernel_rfl) (by kernel_rfl) (by kernel_rfl) (fun _ _ _ h => h) (Or.inl ⟨by kernel_rfl, fun w _ => by go_simp⟩) hS.out ?_
            refine wpAnyH_take (i := 8) (v := .pointer (some ⟨b', o' + j * 5, none⟩)) rfl (by kernel_rfl) (by kernel_rfl) (by kernel_rfl) (fun _ _ _ h => h) (Or.inl ⟨by kernel_rfl, fun w _ => by go_simp⟩) hS.out ?_
            refine wpAnyH_take (i := 9) (v := .int .i64 l'.s) rfl (by kernel_rfl) (by kernel_rfl) (by kernel_rfl) (fun _ _ _ h => h) (Or.inl ⟨by kernel_rfl, fun w h => by obtain ⟨⟨y0, y1, y2, y3, y4⟩, z0, z1, z2, z3, z4⟩ := h; go_simp⟩) hS.out ?_
            refine wpAnyH_take (i := 10) (v := .bool false) rfl (by kernel_rfl) (by kernel_rfl) (by kernel_rfl) (fun _ _ _ h => h) (Or.inl ⟨by kernel_rfl, fun w _ => by go_simp⟩) hS.out ?_
            refine wpAnyH_take (i := 11) (v := .bool false) rfl (by kernel_rfl) (by kernel_rfl) (by kernel_rfl) (fun _ _ _ h => h) (Or.inl ⟨by kernel_rfl, fun w _ => by go_simp⟩) hS.out ?_
            refine wpAnyH_take (i := 12) (v := .slice (some ⟨b, o, none⟩) ls.length c) rfl (by kernel_rfl) (by kernel_rfl) (by kernel_rfl) (fun _ _ _ h => h) (Or.inl ⟨by kernel_rfl, fun w _ => by go_simp⟩) hS.out ?_
            refine wpAnyH_take (i := 13) (v := .int .i64 (j : Int)) rfl (by kernel_rfl) (by kernel_rfl) (by kernel_rfl) (fun _ _ _ h => h) (Or.inl ⟨by kernel_rfl, fun w _ => by go_simp⟩) hS.out ?_
            refine wpAnyH_take (i := 14) (v := .pointer (some ⟨b, o + j * 5, none⟩)) rfl (by kernel_rfl) (by kernel_rfl) (by kernel_rfl) (fun _ _ _ h => h) (Or.inl ⟨by kernel_rfl, fun w _ => by go_simp⟩) hS.out ?_
            refine wpAnyH_take (i := 15) (v := .pointer (some ⟨b, o + j * 5 + 1, none⟩)) rfl (by kernel_rfl) (by kernel_rfl) (by kernel_rfl) (fun _ _ _ h => h) (Or.inl ⟨by kernel_rfl, fun w _ => by go_simp⟩) hS.out ?_
            refine wpAnyH_take (i := 16) (v := .int .i64 l.q) rfl (by kernel_rfl) (by kernel_rfl) (by kernel_rfl) (fun _ _ _ h => h) (Or.inl ⟨by kernel_rfl, fun w h => by obtain ⟨⟨y0, y1, y2, y3, y4⟩, z0, z1, z2, z3, z4⟩ := h; go_simp⟩) hS.out ?_
            refine wpAnyH_take (i := 17) (v := .slice (some ⟨b', o', none⟩) ls'.length c') rfl (by kernel_rfl) (by kernel_rfl) (by kernel_rfl) (fun _ _ _ h => h) (Or.inl ⟨by kernel_rfl, fun w _ => by go_simp⟩) hS.out ?_
            refine wpAnyH_take (i := 18) (v := .int .i64 (j : Int)) rfl (by kernel_rfl) (by kernel_rfl) (by kernel_rfl) (fun _ _ _ h => h) (Or.inl ⟨by kernel_rfl, fun w _ => by go_simp⟩) hS.out ?_
            refine wpAnyH_take (i := 19) (v := .pointer (some ⟨b', o' + j * 5, none⟩)) rfl (by kernel_rfl) (by kernel_rfl) (by kernel_rfl) (fun _ _ _ h => h) (Or.inl ⟨by kernel_rfl, fun w _ => by go_simp⟩) hS.out ?_
            refine wpAnyH_take (i := 20) (v := .pointer (some ⟨b', o' + j * 5 + 1, none⟩)) rfl (by kernel_rfl) (by kernel_rfl) (by kernel_rfl) (fun _ _ _ h => h) (Or.inl ⟨by kernel_rfl, fun w _ => by go_simp⟩) hS.out ?_
            refine wpAnyH_take (i := 21) (v := .int .i64 l'.q) rfl (by kernel_rfl) (by kernel_rfl) (by kernel_rfl) (fun _ _ _ h => h) (Or.inl ⟨by kernel_rfl, fun w h => by obtain ⟨⟨y0, y1, y2, y3, y4⟩, z0, z1, z2, z3, z4⟩ := h; go_simp⟩) hS.out ?_
            refine wpAnyH_take (i := 22) (v := .bool true) rfl (by kernel_rfl) (by kernel_rfl) (by kernel_rfl) (fun _ _ _ h => h) (Or.inl ⟨by kernel_rfl, fun w _ => by go_simp⟩) hS.out ?_
            refine wpAnyH_take (i := 23) (v := .bool true) rfl (by kernel_rfl) (by kernel_rfl) (by kernel_rfl) (fun _ _ _ h => h) (Or.inl ⟨by kernel_rfl, fun w _ => by go_simp⟩) hS.out ?_
            refine wpAnyH_ready (rs := [24]) (by kernel_rfl) (by simp) ?_
            refine AllReadyH.cons rfl (fun K hK => ?_) AllReadyH.nil
            go_simp
            refine hK.out _ _ hS.out (fun _ => ?_)
            clear hK K
            refine wpAnyH_take (i := 25) (v := undef) rfl (by kernel_rfl) (by kernel_rfl) (by kernel_rfl) (fun _ _ _ h => h) (Or.inr ⟨by kernel_rfl, rfl⟩) hS.out ?_
            refine wpAnyH_take (i := 26) (v := undef) rfl (by kernel_rfl) (by kernel_rfl) (by kernel_rfl) (fun _ _ _ h => h) (Or.inr ⟨by kernel_rfl, rfl⟩) hS.out ?_
            refine wpAnyH_take (i := 27) (v := undef) rfl (by kernel_rfl) (by kernel_rfl) (by kernel_rfl) (fun _ _ _ h => h) (Or.inr ⟨by kernel_rfl, rfl⟩) hS.out ?_
            refine wpAnyH_take (i := 28) (v := undef) rfl (by kernel_rfl) (by kernel_rfl) (by kernel_rfl) (fun _ _ _ h => h) (Or.inr ⟨by kernel_rfl, rfl⟩) hS.out ?_
            refine wpAnyH_take (i := 29) (v := undef) rfl (by kernel_rfl) (by kernel_rfl) (by kernel_rfl) (fun _ _ _ h => h) (Or.inr ⟨by kernel_rfl, rfl⟩) hS.out ?_
            refine wpAnyH_take (i := 30) (v := undef) rfl (by kernel_rfl) (by kernel_rfl) (by kernel_rfl) (fun _ _ _ h => h) (Or.inr ⟨by kernel_rfl, rfl⟩) hS.out ?_
            refine wpAnyH_take (i := 31) (v := undef) rfl (by kernel_rfl) (by kernel_rfl) (by kernel_rfl) (fun _ _ _ h => h) (Or.inr ⟨by kernel_rfl, rfl⟩) hS.out ?_
            refine wpAnyH_take (i := 32) (v := undef) rfl (by kernel_rfl) (by kernel_rfl) (by kernel_rfl) (fun _ _ _ h => h) (Or.inr ⟨by kernel_rfl, rfl⟩) hS.out ?_
            refine wpAnyH_take (i := 33) (v := undef) rfl (by kernel_rfl) (by kernel_rfl) (by kernel_rfl) (fun _ _ _ h => h) (Or.inr ⟨by kernel_rfl, rfl⟩) hS.out ?_
            refine wpAnyH_take (i := 34) (v := undef) rfl (by kernel_rfl) (by kernel_rfl) (by kernel_rfl) (fun _ _ _ h => h) (Or.inr ⟨by kernel_rfl, rfl⟩) hS.out ?_
            refine wpAnyH_take (i := 35) (v := undef) rfl (by kernel_rfl) (by kernel_rfl) (by kernel_rfl) (fun _ _ _ h => h) (Or.inr ⟨by kernel_rfl, rfl⟩) hS.out ?_
            refine wpAnyH_take (i := 36) (v := undef) rfl (by kernel_rfl) (by kernel_rfl) (by kernel_rfl) (fun _ _ _ h => h) (Or.inr ⟨by kernel_rfl, rfl⟩) hS.out ?_
            refine wpAnyH_ready (rs := [37]) (by kernel_rfl) (by simp) ?_
            refine AllReadyH.cons rfl (fun K hK => ?_) AllReadyH.nil
            go_simp
            refine hK.out _ _ hS.out (fun _ => ?_)
            clear hK K
            refine wpAnyH_done (by kernel_rfl) ?_ _
            go_wp2_with fail
            go_ret
            have hDf : D = false := by rw [← HDD.out]; exact decide_eq_false HNL.out
            subst hDf
            exact ⟨rfl, HB.out.trans (HB4.out.mono HB.out.size)⟩
        · have hsb : (l.s == l'.s) = false := by simpa using hs
          have hsn : (l.s != l'.s) = true := by simpa using hs
          have HNE : Hid (l ≠ l') := Lib.hid (fun h => hs (by rw [h]))
          have HNL : Hid (ls ≠ ls') := Lib.hid (fun h => HNE.out (by have h1 := HX.out; rw [h, HX'.out] at h1; exact (Option.some.inj h1).symm))
          clear hs
          go_upto_region 6 with fail
          have hbw : Below wr.heap.size wr wr.drew := (Below.refl _ _).drew
          have hS0 := HC.out _ hbw
          refine wp_region_held_drew (S := fun w' => (w'.cell? ⟨b, o + j * 5, none⟩ = some (.int .i64 l.s) ∧ w'.cell? ⟨b, o + j * 5 + 1, none⟩ = some (.int .i64 l.q) ∧ w'.cell? ⟨b, o + j * 5 + 2, none⟩ = some (.int .i64 l.e) ∧ w'.cell? ⟨b, o + j * 5 + 3, none⟩ = some (.slice A1 l.v.length c1) ∧ w'.cell? ⟨b, o + j * 5 + 4, none⟩ = some (.int .i64 l.n)) ∧ w'.cell? ⟨b', o' + j * 5, none⟩ = some (.int .i64 l'.s) ∧ w'.cell? ⟨b', o' + j * 5 + 1, none⟩ = some (.int .i64 l'.q) ∧ w'.cell? ⟨b', o' + j * 5 + 2, none⟩ = some (.int .i64 l'.e) ∧ w'.cell? ⟨b', o' + j * 5 + 3, none⟩ = some (.slice A2 l'.v.length c2) ∧ w'.cell? ⟨b', o' + j * 5 + 4, none⟩ = some (.int .i64 l'.n)) (by kernel_rfl) hS0 (fun _ => ?_)
          generalize wr.drew = w4 at hS0 hbw ⊢
          have hS := Lib.hid hS0
          have HB4 := Lib.hid hbw
          clear hS0 hbw
          refine wpAnyH_take (i := 0) (v := .slice (some ⟨b, o, none⟩) ls.length c) rfl (by kernel_rfl) (by kernel_rfl) (by kernel_rfl) (fun _ _ _ h => h) (Or.inl ⟨by kernel_rfl, fun w _ => by go_simp⟩) hS.out ?_
          refine wpAnyH_take (i := 1) (v := .int .i64 (j : Int)) rfl (by kernel_rfl) (by kernel_rfl) (by kernel_rfl) (fun _ _ _ h => h) (Or.inl ⟨by kernel_rfl, fun w _ => by go_simp⟩) hS.out ?_
          refine wpAnyH_take (i := 2) (v := .pointer (some ⟨b, o + j * 5, none⟩)) rfl (by kernel_rfl) (by kernel_rfl) (by kernel_rfl) (fun _ _ _ h => h) (Or.inl ⟨by kernel_rfl, fun w _ => by go_simp⟩) hS.out ?_
          refine wpAnyH_take (i := 3) (v := .pointer (some ⟨b, o + j * 5, none⟩)) rfl (by kernel_rfl) (by kernel_rfl) (by kernel_rfl) (fun _ _ _ h => h) (Or.inl ⟨by kernel_rfl, fun w _ => by go_simp⟩) hS.out ?_
          refine wpAnyH_take (i := 4) (v := .int .i64 l.s) rfl (by kernel_rfl) (by kernel_rfl) (by kernel_rfl) (fun _ _ _ h => h) (Or.inl ⟨by kernel_rfl, fun w h => by obtain ⟨⟨y0, y1, y2, y3, y4⟩, z0, z1, z2, z3, z4⟩ := h; go_simp⟩) hS.out ?_
          refine wpAnyH_take (i := 5) (v := .slice (some ⟨b', o', none⟩) ls'.length c') rfl (by kernel_rfl) (by kernel_rfl) (by kernel_rfl) (fun _ _ _ h => h) (Or.inl ⟨by kernel_rfl, fun w _ => by go_simp⟩) hS.out ?_
          refine wpAnyH_take (i := 6) (v := .int .i64 (j : Int)) rfl (by kernel_rfl) (by kernel_rfl) (by kernel_rfl) (fun _ _ _ h => h) (Or.inl ⟨by kernel_rfl, fun w _ => by go_simp⟩) hS.out ?_
          refine wpAnyH_take (i := 7) (v := .pointer (some ⟨b', o' + j * 5, none⟩)) rfl (by kernel_rfl) (by kernel_rfl) (by kernel_rfl) (fun _ _ _ h => h) (Or.inl ⟨by kernel_rfl, fun w _ => by go_simp⟩) hS.out ?_
          refine wpAnyH_take (i := 8) (v := .pointer (some ⟨b', o' + j * 5, none⟩)) rfl (by kernel_rfl) (by kernel_rfl) (by kernel_rfl) (fun _ _ _ h => h) (Or.inl ⟨by kernel_rfl, fun w _ => by go_simp⟩) hS.out ?_
          refine wpAnyH_take (i := 9) (v := .int .i64 l'.s) rfl (by kernel_rfl) (by kernel_rfl) (by kernel_rfl) (fun _ _ _ h => h) (Or.inl ⟨by kernel_rfl, fun w h => by obtain ⟨⟨y0, y1, y2, y3, y4⟩, z0, z1, z2, z3, z4⟩ := h; go_simp⟩) hS.out ?_
          refine wpAnyH_take (i := 10) (v := .bool true) rfl (by kernel_rfl) (by kernel_rfl) (by kernel_rfl) (fun _ _ _ h => h) (Or.inl ⟨by kernel_rfl, fun w _ => by go_simp⟩) hS.out ?_
          refine wpAnyH_ready (rs := [11]) (by kernel_rfl) (by simp) ?_
          refine AllReadyH.cons rfl (fun K hK => ?_) AllReadyH.nil
          go_simp
          refine hK.out _ _ hS.out (fun _ => ?_)
          clear hK K
          refine wpAnyH_take (i := 12) (v := undef) rfl (by kernel_rfl) (by kernel_rfl) (by kernel_rfl) (fun _ _ _ h => h) (Or.inr ⟨by kernel_rfl, rfl⟩) hS.out ?_
          refine wpAnyH_take (i := 13) (v := undef) rfl (by kernel_rfl) (by kernel_rfl) (by kernel_rfl) (fun _ _ _ h => h) (Or.inr ⟨by kernel_rfl, rfl⟩) hS.out ?_
          refine wpAnyH_take (i := 14) (v := undef) rfl (by kernel_rfl) (by kernel_rfl) (by kernel_rfl) (fun _ _ _ h => h) (Or.inr ⟨by kernel_rfl, rfl⟩) hS.out ?_
          refine wpAnyH_take (i := 15) (v := undef) rfl (by kernel_rfl) (by kernel_rfl) (by kernel_rfl) (fun _ _ _ h => h) (Or.inr ⟨by kernel_rfl, rfl⟩) hS.out ?_
          refine wpAnyH_take (i := 16) (v := undef) rfl (by kernel_rfl) (by kernel_rfl) (by kernel_rfl) (fun _ _ _ h => h) (Or.inr ⟨by kernel_rfl, rfl⟩) hS.out ?_
          refine wpAnyH_take (i := 17) (v := undef) rfl (by kernel_rfl) (by kernel_rfl) (by kernel_rfl) (fun _ _ _ h => h) (Or.inr ⟨by kernel_rfl, rfl⟩) hS.out ?_
          refine wpAnyH_take (i := 18) (v := undef) rfl (by kernel_rfl) (by kernel_rfl) (by kernel_rfl) (fun _ _ _ h => h) (Or.inr ⟨by kernel_rfl, rfl⟩) hS.out ?_
          refine wpAnyH_take (i := 19) (v := undef) rfl (by kernel_rfl) (by kernel_rfl) (by kernel_rfl) (fun _ _ _ h => h) (Or.inr ⟨by kernel_rfl, rfl⟩) hS.out ?_
          refine wpAnyH_take (i := 20) (v := undef) rfl (by kernel_rfl) (by kernel_rfl) (by kernel_rfl) (fun _ _ _ h => h) (Or.inr ⟨by kernel_rfl, rfl⟩) hS.out ?_
          refine wpAnyH_take (i := 21) (v := undef) rfl (by kernel_rfl) (by kernel_rfl) (by kernel_rfl) (fun _ _ _ h => h) (Or.inr ⟨by kernel_rfl, rfl⟩) hS.out ?_
          refine wpAnyH_take (i := 22) (v := undef) rfl (by kernel_rfl) (by kernel_rfl) (by kernel_rfl) (fun _ _ _ h => h) (Or.inr ⟨by kernel_rfl, rfl⟩) hS.out ?_
          refine wpAnyH_take (i := 23) (v := .bool true) rfl (by kernel_rfl) (by kernel_rfl) (by kernel_rfl) (fun _ _ _ h => h) (Or.inl ⟨by kernel_rfl, fun w _ => by go_simp⟩) hS.out ?_
          refine wpAnyH_ready (rs := [24]) (by kernel_rfl) (by simp) ?_
          refine AllReadyH.cons rfl (fun K hK => ?_) AllReadyH.nil
          go_simp
          refine hK.out _ _ hS.out (fun _ => ?_)
          clear hK K
          refine wpAnyH_take (i := 25) (v := undef) rfl (by kernel_rfl) (by kernel_rfl) (by kernel_rfl) (fun _ _ _ h => h) (Or.inr ⟨by kernel_rfl, rfl⟩) hS.out ?_
          refine wpAnyH_take (i := 26) (v := undef) rfl (by kernel_rfl) (by kernel_rfl) (by kernel_rfl) (fun _ _ _ h => h) (Or.inr ⟨by kernel_rfl, rfl⟩) hS.out ?_
          refine wpAnyH_take (i := 27) (v := undef) rfl (by kernel_rfl) (by kernel_rfl) (by kernel_rfl) (fun _ _ _ h => h) (Or.inr ⟨by kernel_rfl, rfl⟩) hS.out ?_
          refine wpAnyH_take (i := 28) (v := undef) rfl (by kernel_rfl) (by kernel_rfl) (by kernel_rfl) (fun _ _ _ h => h) (Or.inr ⟨by kernel_rfl, rfl⟩) hS.out ?_
          refine wpAnyH_take (i := 29) (v := undef) rfl (by kernel_rfl) (by kernel_rfl) (by kernel_rfl) (fun _ _ _ h => h) (Or.inr ⟨by kernel_rfl, rfl⟩) hS.out ?_
          refine wpAnyH_take (i := 30) (v := undef) rfl (by kernel_rfl) (by kernel_rfl) (by kernel_rfl) (fun _ _ _ h => h) (Or.inr ⟨by kernel_rfl, rfl⟩) hS.out ?_
          refine wpAnyH_take (i := 31) (v := undef) rfl (by kernel_rfl) (by kernel_rfl) (by kernel_rfl) (fun _ _ _ h => h) (Or.inr ⟨by kernel_rfl, rfl⟩) hS.out ?_
          refine wpAnyH_take (i := 32) (v := undef) rfl (by kernel_rfl) (by kernel_rfl) (by kernel_rfl) (fun _ _ _ h => h) (Or.inr ⟨by kernel_rfl, rfl⟩) hS.out ?_
          refine wpAnyH_take (i := 33) (v := undef) rfl (by kernel_rfl) (by kernel_rfl) (by kernel_rfl) (fun _ _ _ h => h) (Or.inr ⟨by kernel_rfl, rfl⟩) hS.out ?_
          refine wpAnyH_take (i := 34) (v := undef) rfl (by kernel_rfl) (by kernel_rfl) (by kernel_rfl) (fun _ _ _ h => h) (Or.inr ⟨by kernel_rfl, rfl⟩) hS.out ?_
          refine wpAnyH_take (i := 35) (v := undef) rfl (by kernel_rfl) (by kernel_rfl) (by kernel_rfl) (fun _ _ _ h => h) (Or.inr ⟨by kernel_rfl, rfl⟩) hS.out ?_
          refine wpAnyH_take (i := 36) (v := undef) rfl (by kernel_rfl) (by kernel_rfl) (by kernel_rfl) (fun _ _ _ h => h) (Or.inr ⟨by kernel_rfl, rfl⟩) hS.out ?_
          refine wpAnyH_ready (rs := [37]) (by kernel_rfl) (by simp) ?_
          refine AllReadyH.cons rfl (fun K hK => ?_) AllReadyH.nil
          go_simp
          refine hK.out _ _ hS.out (fun _ => ?_)
          clear hK K
          refine wpAnyH_done (by kernel_rfl) ?_ _
          go_wp2_with fail
          go_ret
          have hDf : D = false := by rw [← HDD.out]; exact decide_eq_false HNL.out
          subst hDf
          exact ⟨rfl, HB.out.trans (HB4.out.mono HB.out.size)⟩
      · obtain rfl : j = ls.length := by omega
        go_wp2_with fail
        go_ret
        have hDt : D = true := by
          rw [← HDD.out]
          refine decide_eq_true (List.ext_getElem? ?_)
          intro i
          rcases Nat.lt_or_ge i ls.length with h1 | h1
          · exact HQ.out i h1
          · rw [List.getElem?_eq_none h1, List.getElem?_eq_none (by have := HLN.out; omega)]
        subst hDt
        exact ⟨rfl, HB.out⟩
  · have hlb : ((ls.length : Int) == (ls'.length : Int)) = false := by simpa using hlen
    have hlen2 : ((ls.length : Int) != (ls'.length : Int)) = true := by simpa using hlen
    have hDf : D = false := by rw [← HDD.out]; exact decide_eq_false fun h => hlen (by rw [h])
    subst hDf
    clear hlen
    go_enter Try.func64, Try.ntmps64
    go_wp2_with fail
    go_ret
    exact ⟨rfl, Below.refl _ _⟩
end Go.Proofs.Ytmekamgohonffaa

