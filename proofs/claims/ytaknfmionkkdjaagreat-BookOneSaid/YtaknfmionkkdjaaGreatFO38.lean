/- MachSame MachSameE MesgRow BoxKit -/
import Derived.Test.YtaknfmionkkdjaaGreatFO05
import Derived.Test.YtaknfmionkkdjaaGreatFO08
import Derived.Test.YtaknfmionkkdjaaGreatFO15
import Derived.Test.YtaknfmionkkdjaaGreatFO18
import Derived.Test.YtaknfmionkkdjaaGreatFO20
import Derived.Test.YtaknfmionkkdjaaGreatFO22
import Derived.Test.YtaknfmionkkdjaaGreatFO26
import Derived.Test.YtaknfmionkkdjaaGreatFO30
import Derived.Test.YtaknfmionkkdjaaGreatFO31
import Derived.Test.YtaknfmionkkdjaaGreatFO34
import Derived.Deep.RegionHeld3
import Derived.BigQuiet
import Derived.Deep.QuietTactic
import Derived.Deep.RegionLaw
import Derived.Laws.CopyOwn
import Derived.WalkSmall
import Derived.Deep.MidRow
import Derived.Deep.RegionWith
import Derived.OwnWalk
import Derived.WalkLawsBesides
import Derived.WalkSpells
namespace Go.Proofs.YtaknfmionkkdjaaGreat
open Go.RowKit
set_option linter.unusedVariables false
set_option maxHeartbeats 4000000 in
set_option maxRecDepth 100000 in
theorem sameT_any (w : World) {A A' : Option Addr} {n c n' c' B B' : Nat} {ls ls' : List Ls} (hn : n ≤ 100000) (hn' : n' ≤ 100000) (hb : BytesLs ls) (hb' : BytesLs ls') (h : RdL w B A n ls) (h' : RdL w B' A' n' ls') :
    Calls Tryz.prog 40 #[.slice A n c, .slice A' n' c'] w fun e w' => e = .returned (.bool (decide (ls = ls'))) ∧ Below w.heap.size w w' := by
  obtain rfl := h.length
  obtain rfl := h'.length
  have H := Lib.hid h.fit
  have H' := Lib.hid h'.fit
  have HBY := Lib.hid hb
  have HBY' := Lib.hid hb'
  clear h h' hb hb'
  obtain ⟨D, hD⟩ : ∃ D, decide (ls = ls') = D := ⟨_, rfl⟩
  rw [hD]
  have HDD := Lib.hid hD
  clear hD
  by_cases hlen : (ls.length : Int) = (ls'.length : Int)
  · have hlb : ((ls.length : Int) == (ls'.length : Int)) = true := by simpa using hlen
    have hln : ls.length = ls'.length := by omega
    have HLN := Lib.hid hln
    have hlen2 : ((ls.length : Int) != (ls'.length : Int)) = false := by simpa using hlen
    clear hln
    go_enter Tryz.func40, Tryz.ntmps40
    go_wp2_with fail
    go_loopw [5] (fun i wr => ∃ j : Nat, j ≤ ls.length ∧ i = .int .i64 j ∧ Hid (∀ i, i < j → ls[i]? = ls'[i]?) ∧ Hid (Below w.heap.size w wr)) (fun i _ => ls.length - (intOf i).toNat)
    case atStart => exact ⟨0, Nat.zero_le _, rfl, Lib.hid (fun i hi => absurd hi (by omega)), Lib.hid (Below.refl _ _)⟩
    case round =>
      obtain ⟨j, hj, rfl, HQ, HB⟩ := hrel
      by_cases hlt : j < ls.length
      · have hlt' : j < ls'.length := by have := HLN.out; omega
        obtain ⟨b, o, l, A1, c1, rfl, hl, y0, y1, y2, y3, y4, hrd⟩ := (H.out.below' HB.out).at hlt
        obtain ⟨b', o', l', A2, c2, rfl, hl', z0, z1, z2, z3, z4, hrd'⟩ := (H'.out.below' HB.out).at hlt'
        have HX := Lib.hid hl
        have HX' := Lib.hid hl'
        have HBL := Lib.hid (HBY.out l (List.mem_of_getElem? hl))
        have HBL' := Lib.hid (HBY'.out l' (List.mem_of_getElem? hl'))
        have HRD := Lib.hid hrd
        have HRD' := Lib.hid hrd'
        have hv : IntKind.i64.wrap ((j : Int) + 1) = (j : Int) + 1 := IntWalk.i64_in _ (by omega)
        have hjl : (j : Int) < (ls.length : Int) := by omega
        have hjl' : (j : Int) < (ls'.length : Int) := by omega
        have hj0 : (0 : Int) ≤ (j : Int) := by omega
        clear hl hl' hrd hrd' hlt' hlen hlb hlen2
        have hb0 := World.block_lt_of_cell? _ _ y0
        have hb1 := World.block_lt_of_cell? _ _ z0
        have HC : Hid (∀ wx, Below wr.heap.size wr wx → ((fun w' => (w'.cell? ⟨b, o + j * 5, none⟩ = some (.int .i64 l.s) ∧ w'.cell? ⟨b, o + j * 5 + 1, none⟩ = some (.int .i64 l.q) ∧ w'.cell? ⟨b, o + j * 5 + 2, none⟩ = some (.int .i64 l.e) ∧ w'.cell? ⟨b, o + j * 5 + 3, none⟩ = some (.slice A1 l.v.length c1) ∧ w'.cell? ⟨b, o + j * 5 + 4, none⟩ = some (.int .i64 l.n)) ∧ w'.cell? ⟨b', o' + j * 5, none⟩ = some (.int .i64 l'.s) ∧ w'.cell? ⟨b', o' + j * 5 + 1, none⟩ = some (.int .i64 l'.q) ∧ w'.cell? ⟨b', o' + j * 5 + 2, none⟩ = some (.int .i64 l'.e) ∧ w'.cell? ⟨b', o' + j * 5 + 3, none⟩ = some (.slice A2 l'.v.length c2) ∧ w'.cell? ⟨b', o' + j * 5 + 4, none⟩ = some (.int .i64 l'.n)) wx)) := Lib.hid (fun wx hb =>
          ⟨⟨(hb.cell (p := ⟨b, o + j * 5, none⟩) hb0).trans y0, (hb.cell (p := ⟨b, o + j * 5 + 1, none⟩) hb0).trans y1, (hb.cell (p := ⟨b, o + j * 5 + 2, none⟩) hb0).trans y2, (hb.cell (p := ⟨b, o + j * 5 + 3, none⟩) hb0).trans y3, (hb.cell (p := ⟨b, o + j * 5 + 4, none⟩) hb0).trans y4⟩,
           (hb.cell (p := ⟨b', o' + j * 5, none⟩) hb1).trans z0, (hb.cell (p := ⟨b', o' + j * 5 + 1, none⟩) hb1).trans z1, (hb.cell (p := ⟨b', o' + j * 5 + 2, none⟩) hb1).trans z2, (hb.cell (p := ⟨b', o' + j * 5 + 3, none⟩) hb1).trans z3, (hb.cell (p := ⟨b', o' + j * 5 + 4, none⟩) hb1).trans z4⟩)
        simp only at HC
        clear y0 y1 y2 y3 y4 z0 z1 z2 z3 z4 hb0 hb1
        by_cases hs : l.s = l'.s
        · have hsb : (l.s == l'.s) = true := by simpa using hs
          have hsn : (l.s != l'.s) = false := by simpa using hs
          by_cases hq : l.q = l'.q
          · have hqb : (l.q == l'.q) = true := by simpa using hq
            have hqn : (l.q != l'.q) = false := by simpa using hq
            by_cases hr : l.e = l'.e ∧ l.v = l'.v ∧ l.n = l'.n
            · have HRV : Hid ((decide (l.e = l'.e) && decide (l.v = l'.v) && decide (l.n = l'.n)) = true) := Lib.hid (by simp [hr.1, hr.2.1, hr.2.2])
              have HEQ : Hid (l = l') := Lib.hid ((Ls.eq_iff _ _).2 ⟨hs, hq, hr.1, hr.2.1, hr.2.2⟩)
              clear hs hq hr
              go_upto_region 6 with fail
              have hbw : Below wr.heap.size wr wr.drew := (Below.refl _ _).drew
              have hS0 := HC.out _ hbw
              refine wp_region_held_drew (S := fun w' => (w'.cell? ⟨b, o + j * 5, none⟩ = some (.int .i64 l.s) ∧ w'.cell? ⟨b, o + j * 5 + 1, none⟩ = some (.int .i64 l.q) ∧ w'.cell? ⟨b, o + j * 5 + 2, none⟩ = some (.int .i64 l.e) ∧ w'.cell? ⟨b, o + j * 5 + 3, none⟩ = some (.slice A1 l.v.length c1) ∧ w'.cell? ⟨b, o + j * 5 + 4, none⟩ = some (.int .i64 l.n)) ∧ w'.cell? ⟨b', o' + j * 5, none⟩ = some (.int .i64 l'.s) ∧ w'.cell? ⟨b', o' + j * 5 + 1, none⟩ = some (.int .i64 l'.q) ∧ w'.cell? ⟨b', o' + j * 5 + 2, none⟩ = some (.int .i64 l'.e) ∧ w'.cell? ⟨b', o' + j * 5 + 3, none⟩ = some (.slice A2 l'.v.length c2) ∧ w'.cell? ⟨b', o' + j * 5 + 4, none⟩ = some (.int .i64 l'.n)) (by kernel_rfl) hS0 (fun _ => ?_)
              generalize wr.drew = w4 at hS0 hbw ⊢
              have hS := Lib.hid hS0
              have HB4 := Lib.hid hbw
              clear hS0 hbw
              refine wpAnyH_take (i := 0) (v := .slice (some ⟨b, o, none⟩) ls.length c) rfl (by kernel_rfl) (by kernel_rfl) (by kernel_rfl) (fun _ _ _ h => h) (Or.inl ⟨by kernel_rfl, fun w _ => by go_simp⟩) hS.out ?_
              refine wpAnyH_take (i := 1) (v := .int .i64 (j : Int)) rfl (by kernel_rfl) (by kernel_rfl) (by kernel_rfl) (fun _ _ _ h => h) (Or.inl ⟨by kernel_rfl, fun w _ => by go_simp⟩) hS.out ?_
              refine wpAnyH_take (i := 2) (v := .pointer (some ⟨b, o + j * 5, none⟩)) rfl (by kernel_rfl) (by kernel_rfl) (by kernel_rfl) (fun _ _ _ h => h) (Or.inl ⟨by kernel_rfl, fun w _ => by go_simp⟩) hS.out ?_
              refine wpAnyH_take (i := 3) (v := .pointer (some ⟨b, o + j * 5, none⟩)) rfl (by kernel_rfl) (by kernel_rfl) (by kernel_rfl) (fun _ _ _ h => h) (Or.inl ⟨by kernel_rfl, fun w _ => by go_simp⟩) hS.out ?_
              refine wpAnyH_take (i := 4) (v := .int .i64 l.s) rfl (by kernel_rfl) (by kernel_rfl) (by kernel_rfl) (fun _ _ _ h => h) (Or.inl ⟨by kernel_rfl, fun w h => by obtain ⟨⟨y0, y1, y2, y3, y4⟩, z0, z1, z2, z3, z4⟩ := h; go_simp⟩) hS.out ?_
              refine wpAnyH_take (i := 5) (v := .slice (some ⟨b', o', none⟩) ls'.length c') rfl (by kernel_rfl) (by kernel_rfl) (by kernel_rfl) (fun _ _ _ h => h) (Or.inl ⟨by kernel_rfl, fun w _ => by go_simp⟩) hS.out ?_
              refine wpAnyH_take (i := 6) (v := .int .i64 (j : Int)) rfl (by kernel_rfl) (by kernel_rfl) (by kernel_rfl) (fun _ _ _ h => h) (Or.inl ⟨by kernel_rfl, fun w _ => by go_simp⟩) hS.out ?_
              refine wpAnyH_take (i := 7) (v := .pointer (some ⟨b', o' + j * 5, none⟩)) rfl (by kernel_rfl) (by kernel_rfl) (by kernel_rfl) (fun _ _ _ h => h) (Or.inl ⟨by kernel_rfl, fun w _ => by go_simp⟩) hS.out ?_
              refine wpAnyH_take (i := 8) (v := .pointer (some ⟨b', o' + j * 5, none⟩)) rfl (by kernel_rfl) (by kernel_rfl) (by kernel_rfl) (fun _ _ _ h => h) (Or.inl ⟨by kernel_rfl, fun w _ => by go_simp⟩) hS.out ?_
              refine wpAnyH_take (i := 9) (v := .int .i64 l'.s) rfl (by kernel_rfl) (by kernel_rfl) (by kernel_rfl) (fun _ _ _ h => h) (Or.inl ⟨by kernel_rfl, fun w h => by obtain ⟨⟨y0, y1, y2, y3, y4⟩, z0, z1, z2, z3, z4⟩ := h; go_simp⟩) hS.out ?_
              refine wpAnyH_take (i := 10) (v := .bool false) rfl (by kernel_rfl) (by kernel_rfl) (by kernel_rfl) (fun _ _ _ h => h) (Or.inl ⟨by kernel_rfl, fun w _ => by go_simp⟩) hS.out ?_
              refine wpAnyH_take (i := 11) (v := .bool false) rfl (by kernel_rfl) (by kernel_rfl) (by kernel_rfl) (fun _ _ _ h => h) (Or.inl ⟨by kernel_rfl, fun w _ => by go_simp⟩) hS.out ?_
              refine wpAnyH_take (i := 12) (v := .slice (some ⟨b, o, none⟩) ls.length c) rfl (by kernel_rfl) (by kernel_rfl) (by kernel_rfl) (fun _ _ _ h => h) (Or.inl ⟨by kernel_rfl, fun w _ => by go_simp⟩) hS.out ?_
              refine wpAnyH_take (i := 13) (v := .int .i64 (j : Int)) rfl (by kernel_rfl) (by kernel_rfl) (by kernel_rfl) (fun _ _ _ h => h) (Or.inl ⟨by kernel_rfl, fun w _ => by go_simp⟩) hS.out ?_
              refine wpAnyH_take (i := 14) (v := .pointer (some ⟨b, o + j * 5, none⟩)) rfl (by kernel_rfl) (by kernel_rfl) (by kernel_rfl) (fun _ _ _ h => h) (Or.inl ⟨by kernel_rfl, fun w _ => by go_simp⟩) hS.out ?_
              refine wpAnyH_take (i := 15) (v := .pointer (some ⟨b, o + j * 5 + 1, none⟩)) rfl (by kernel_rfl) (by kernel_rfl) (by kernel_rfl) (fun _ _ _ h => h) (Or.inl ⟨by kernel_rfl, fun w _ => by go_simp⟩) hS.out ?_
              refine wpAnyH_take (i := 16) (v := .int .i64 l.q) rfl (by kernel_rfl) (by kernel_rfl) (by kernel_rfl) (fun _ _ _ h => h) (Or.inl ⟨by kernel_rfl, fun w h => by obtain ⟨⟨y0, y1, y2, y3, y4⟩, z0, z1, z2, z3, z4⟩ := h; go_simp⟩) hS.out ?_
              refine wpAnyH_take (i := 17) (v := .slice (some ⟨b', o', none⟩) ls'.length c') rfl (by kernel_rfl) (by kernel_rfl) (by kernel_rfl) (fun _ _ _ h => h) (Or.inl ⟨by kernel_rfl, fun w _ => by go_simp⟩) hS.out ?_
              refine wpAnyH_take (i := 18) (v := .int .i64 (j : Int)) rfl (by kernel_rfl) (by kernel_rfl) (by kernel_rfl) (fun _ _ _ h => h) (Or.inl ⟨by kernel_rfl, fun w _ => by go_simp⟩) hS.out ?_
              refine wpAnyH_take (i := 19) (v := .pointer (some ⟨b', o' + j * 5, none⟩)) rfl (by kernel_rfl) (by kernel_rfl) (by kernel_rfl) (fun _ _ _ h => h) (Or.inl ⟨by kernel_rfl, fun w _ => by go_simp⟩) hS.out ?_
              refine wpAnyH_take (i := 20) (v := .pointer (some ⟨b', o' + j * 5 + 1, none⟩)) rfl (by kernel_rfl) (by kernel_rfl) (by kernel_rfl) (fun _ _ _ h => h) (Or.inl ⟨by kernel_rfl, fun w _ => by go_simp⟩) hS.out ?_
              refine wpAnyH_take (i := 21) (v := .int .i64 l'.q) rfl (by kernel_rfl) (by kernel_rfl) (by kernel_rfl) (fun _ _ _ h => h) (Or.inl ⟨by kernel_rfl, fun w h => by obtain ⟨⟨y0, y1, y2, y3, y4⟩, z0, z1, z2, z3, z4⟩ := h; go_simp⟩) hS.out ?_
              refine wpAnyH_take (i := 22) (v := .bool false) rfl (by kernel_rfl) (by kernel_rfl) (by kernel_rfl) (fun _ _ _ h => h) (Or.inl ⟨by kernel_rfl, fun w _ => by go_simp⟩) hS.out ?_
              refine wpAnyH_take (i := 23) (v := .bool false) rfl (by kernel_rfl) (by kernel_rfl) (by kernel_rfl) (fun _ _ _ h => h) (Or.inl ⟨by kernel_rfl, fun w _ => by go_simp⟩) hS.out ?_
              refine wpAnyH_take (i := 24) (v := .bool false) rfl (by kernel_rfl) (by kernel_rfl) (by kernel_rfl) (fun _ _ _ h => h) (Or.inl ⟨by kernel_rfl, fun w _ => by go_simp⟩) hS.out ?_
              refine wpAnyH_take (i := 25) (v := .slice (some ⟨b, o, none⟩) ls.length c) rfl (by kernel_rfl) (by kernel_rfl) (by kernel_rfl) (fun _ _ _ h => h) (Or.inl ⟨by kernel_rfl, fun w _ => by go_simp⟩) hS.out ?_
              refine wpAnyH_take (i := 26) (v := .int .i64 (j : Int)) rfl (by kernel_rfl) (by kernel_rfl) (by kernel_rfl) (fun _ _ _ h => h) (Or.inl ⟨by kernel_rfl, fun w _ => by go_simp⟩) hS.out ?_
              refine wpAnyH_take (i := 27) (v := .pointer (some ⟨b, o + j * 5, none⟩)) rfl (by kernel_rfl) (by kernel_rfl) (by kernel_rfl) (fun _ _ _ h => h) (Or.inl ⟨by kernel_rfl, fun w _ => by go_simp⟩) hS.out ?_
              refine wpAnyH_take (i := 28) (v := .pointer (some ⟨b, o + j * 5 + 2, none⟩)) rfl (by kernel_rfl) (by kernel_rfl) (by kernel_rfl) (fun _ _ _ h => h) (Or.inl ⟨by kernel_rfl, fun w _ => by go_simp⟩) hS.out ?_
              refine wpAnyH_take (i := 29) (v := .agg #[.int .i64 l.e, .slice A1 l.v.length c1, .int .i64 l.n]) rfl (by kernel_rfl) (by kernel_rfl) (by kernel_rfl) (fun _ _ _ h => h) (Or.inl ⟨by kernel_rfl, fun w h => by obtain ⟨⟨y0, y1, y2, y3, y4⟩, z0, z1, z2, z3, z4⟩ := h; go_simp⟩) hS.out ?_
              refine wpAnyH_take (i := 30) (v := .slice (some ⟨b', o', none⟩) ls'.length c') rfl (by kernel_rfl) (by kernel_rfl) (by kernel_rfl) (fun _ _ _ h => h) (Or.inl ⟨by kernel_rfl, fun w _ => by go_simp⟩) hS.out ?_
              refine wpAnyH_take (i := 31) (v := .int .i64 (j : Int)) rfl (by kernel_rfl) (by kernel_rfl) (by kernel_rfl) (fun _ _ _ h => h) (Or.inl ⟨by kernel_rfl, fun w _ => by go_simp⟩) hS.out ?_
              refine wpAnyH_take (i := 32) (v := .pointer (some ⟨b', o' + j * 5, none⟩)) rfl (by kernel_rfl) (by kernel_rfl) (by kernel_rfl) (fun _ _ _ h => h) (Or.inl ⟨by kernel_rfl, fun w _ => by go_simp⟩) hS.out ?_
              refine wpAnyH_take (i := 33) (v := .pointer (some ⟨b', o' + j * 5 + 2, none⟩)) rfl (by kernel_rfl) (by kernel_rfl) (by kernel_rfl) (fun _ _ _ h => h) (Or.inl ⟨by kernel_rfl, fun w _ => by go_simp⟩) hS.out ?_
              refine wpAnyH_take (i := 34) (v := .agg #[.int .i64 l'.e, .slice A2 l'.v.length c2, .int .i64 l'.n]) rfl (by kernel_rfl) (by kernel_rfl) (by kernel_rfl) (fun _ _ _ h => h) (Or.inl ⟨by kernel_rfl, fun w h => by obtain ⟨⟨y0, y1, y2, y3, y4⟩, z0, z1, z2, z3, z4⟩ := h; go_simp⟩) hS.out ?_
              refine wpAnyH_ready (rs := [35]) (by kernel_rfl) (by simp) ?_
              refine AllReadyH.cons rfl (fun K hK => ?_) AllReadyH.nil
              go_simp
              refine (sameR_any _ _ _ _ _ HBL.out HBL'.out (HRD.out.below HB4.out) (HRD'.out.below HB4.out)).mono ?_
              rw [HRV.out]
              rintro e w5 ⟨rfl, hb5⟩
              have HB5 := Lib.hid (HB4.out.trans (hb5.mono HB4.out.size))
              have hS := Lib.hid (HC.out _ HB5.out)
              clear hb5
              go_simp
              refine hK.out _ _ hS.out (fun _ => ?_)
              clear hK K
              refine wpAnyH_take (i := 36) (v := .bool false) rfl (by kernel_rfl) (by kernel_rfl) (by kernel_rfl) (fun _ _ _ h => h) (Or.inl ⟨by kernel_rfl, fun w _ => by go_simp⟩) hS.out ?_
              refine wpAnyH_take (i := 37) (v := .bool false) rfl (by kernel_rfl) (by kernel_rfl) (by kernel_rfl) (fun _ _ _ h => h) (Or.inl ⟨by kernel_rfl, fun w _ => by go_simp⟩) hS.out ?_
              refine wpAnyH_done (by kernel_rfl) ?_ _
              go_wp2_with fail
              go_roundw
              case rel =>
                refine ⟨j + 1, by omega, by go_num, Lib.hid (fun i hi => ?_), Lib.hid (HB.out.trans (HB5.out.mono HB.out.size))⟩
                rcases Nat.lt_or_ge i j with h1 | h1
                · exact HQ.out i h1
                · obtain rfl : i = j := by omega
                  rw [HX.out, HX'.out, HEQ.out]
              case measure => simp only [intOf]; omega
            · have HRV : Hid ((decide (l.e = l'.e) && decide (l.v = l'.v) && decide (l.n = l'.n)) = false) := Lib.hid (by rw [Bool.eq_false_iff]; simp only [ne_eq, Bool.and_eq_true, decide_eq_true_eq]; rintro ⟨⟨h1, h2⟩, h3⟩; exact hr ⟨h1, h2, h3⟩)
              have HNE : Hid (l ≠ l') := Lib.hid (fun h => hr (by rw [h]; exact ⟨rfl, rfl, rfl⟩))
              have HNL : Hid (ls ≠ ls') := Lib.hid (fun h => HNE.out (by have h1 := HX.out; rw [h, HX'.out] at h1; exact (Option.some.inj h1).symm))
              clear hs hq hr
              go_upto_region 6 with fail
              have hbw : Below wr.heap.size wr wr.drew := (Below.refl _ _).drew
              have hS0 := HC.out _ hbw
              refine wp_region_held_drew (S := fun w' => (w'.cell? ⟨b, o + j * 5, none⟩ = some (.int .i64 l.s) ∧ w'.cell? ⟨b, o + j * 5 + 1, none⟩ = some (.int .i64 l.q) ∧ w'.cell? ⟨b, o + j * 5 + 2, none⟩ = some (.int .i64 l.e) ∧ w'.cell? ⟨b, o + j * 5 + 3, none⟩ = some (.slice A1 l.v.length c1) ∧ w'.cell? ⟨b, o + j * 5 + 4, none⟩ = some (.int .i64 l.n)) ∧ w'.cell? ⟨b', o' + j * 5, none⟩ = some (.int .i64 l'.s) ∧ w'.cell? ⟨b', o' + j * 5 + 1, none⟩ = some (.int .i64 l'.q) ∧ w'.cell? ⟨b', o' + j * 5 + 2, none⟩ = some (.int .i64 l'.e) ∧ w'.cell? ⟨b', o' + j * 5 + 3, none⟩ = some (.slice A2 l'.v.length c2) ∧ w'.cell? ⟨b', o' + j * 5 + 4, none⟩ = some (.int .i64 l'.n)) (by kernel_rfl) hS0 (fun _ => ?_)
              generalize wr.drew = w4 at hS0 hbw ⊢
              have hS := Lib.hid hS0
              have HB4 := Lib.hid hbw
              clear hS0 hbw
              refine wpAnyH_take (i := 0) (v := .slice (some ⟨b, o, none⟩) ls.length c) rfl (by kernel_rfl) (by kernel_rfl) (by kernel_rfl) (fun _ _ _ h => h) (Or.inl ⟨by kernel_rfl, fun w _ => by go_simp⟩) hS.out ?_
              refine wpAnyH_take (i := 1) (v := .int .i64 (j : Int)) rfl (by kernel_rfl) (by kernel_rfl) (by kernel_rfl) (fun _ _ _ h => h) (Or.inl ⟨by kernel_rfl, fun w _ => by go_simp⟩) hS.out ?_
              refine wpAnyH_take (i := 2) (v := .pointer (some ⟨b, o + j * 5, none⟩)) rfl (by kernel_rfl) (by kernel_rfl) (by kernel_rfl) (fun _ _ _ h => h) (Or.inl ⟨by kernel_rfl, fun w _ => by go_simp⟩) hS.out ?_
              refine wpAnyH_take (i := 3) (v := .pointer (some ⟨b, o + j * 5, none⟩)) rfl (by kernel_rfl) (by kernel_rfl) (by kernel_rfl) (fun _ _ _ h => h) (Or.inl ⟨by kernel_rfl, fun w _ => by go_simp⟩) hS.out ?_
              refine wpAnyH_take (i := 4) (v := .int .i64 l.s) rfl (by kernel_rfl) (by kernel_rfl) (by kernel_rfl) (fun _ _ _ h => h) (Or.inl ⟨by kernel_rfl, fun w h => by obtain ⟨⟨y0, y1, y2, y3, y4⟩, z0, z1, z2, z3, z4⟩ := h; go_simp⟩) hS.out ?_
              refine wpAnyH_take (i := 5) (v := .slice (some ⟨b', o', none⟩) ls'.length c') rfl (by kernel_rfl) (by kernel_rfl) (by kernel_rfl) (fun _ _ _ h => h) (Or.inl ⟨by kernel_rfl, fun w _ => by go_simp⟩) hS.out ?_
              refine wpAnyH_take (i := 6) (v := .int .i64 (j : Int)) rfl (by kernel_rfl) (by kernel_rfl) (by kernel_rfl) (fun _ _ _ h => h) (Or.inl ⟨by kernel_rfl, fun w _ => by go_simp⟩) hS.out ?_
              refine wpAnyH_take (i := 7) (v := .pointer (some ⟨b', o' + j * 5, none⟩)) rfl (by kernel_rfl) (by kernel_rfl) (by kernel_rfl) (fun _ _ _ h => h) (Or.inl ⟨by kernel_rfl, fun w _ => by go_simp⟩) hS.out ?_
              refine wpAnyH_take (i := 8) (v := .pointer (some ⟨b', o' + j * 5, none⟩)) rfl (by kernel_rfl) (by kernel_rfl) (by kernel_rfl) (fun _ _ _ h => h) (Or.inl ⟨by kernel_rfl, fun w _ => by go_simp⟩) hS.out ?_
              refine wpAnyH_take (i := 9) (v := .int .i64 l'.s) rfl (by kernel_rfl) (by kernel_rfl) (by kernel_rfl) (fun _ _ _ h => h) (Or.inl ⟨by kernel_rfl, fun w h => by obtain ⟨⟨y0, y1, y2, y3, y4⟩, z0, z1, z2, z3, z4⟩ := h; go_simp⟩) hS.out ?_
              refine wpAnyH_take (i := 10) (v := .bool false) rfl (by kernel_rfl) (by kernel_rfl) (by kernel_rfl) (fun _ _ _ h => h) (Or.inl ⟨by kernel_rfl, fun w _ => by go_simp⟩) hS.out ?_
              refine wpAnyH_take (i := 11) (v := .bool false) rfl (by kernel_rfl) (by kernel_rfl) (by kernel_rfl) (fun _ _ _ h => h) (Or.inl ⟨by kernel_rfl, fun w _ => by go_simp⟩) hS.out ?_
              refine wpAnyH_take (i := 12) (v := .slice (some ⟨b, o, none⟩) ls.length c) rfl (by kernel_rfl) (by kernel_rfl) (by kernel_rfl) (fun _ _ _ h => h) (Or.inl ⟨by kernel_rfl, fun w _ => by go_simp⟩) hS.out ?_
              refine wpAnyH_take (i := 13) (v := .int .i64 (j : Int)) rfl (by kernel_rfl) (by kernel_rfl) (by kernel_rfl) (fun _ _ _ h => h) (Or.inl ⟨by kernel_rfl, fun w _ => by go_simp⟩) hS.out ?_
              refine wpAnyH_take (i := 14) (v := .pointer (some ⟨b, o + j * 5, none⟩)) rfl (by kernel_rfl) (by kernel_rfl) (by kernel_rfl) (fun _ _ _ h => h) (Or.inl ⟨by kernel_rfl, fun w _ => by go_simp⟩) hS.out ?_
              refine wpAnyH_take (i := 15) (v := .pointer (some ⟨b, o + j * 5 + 1, none⟩)) rfl (by kernel_rfl) (by kernel_rfl) (by kernel_rfl) (fun _ _ _ h => h) (Or.inl ⟨by kernel_rfl, fun w _ => by go_simp⟩) hS.out ?_
              refine wpAnyH_take (i := 16) (v := .int .i64 l.q) rfl (by kernel_rfl) (by kernel_rfl) (by kernel_rfl) (fun _ _ _ h => h) (Or.inl ⟨by kernel_rfl, fun w h => by obtain ⟨⟨y0, y1, y2, y3, y4⟩, z0, z1, z2, z3, z4⟩ := h; go_simp⟩) hS.out ?_
              refine wpAnyH_take (i := 17) (v := .slice (some ⟨b', o', none⟩) ls'.length c') rfl (by kernel_rfl) (by kernel_rfl) (by kernel_rfl) (fun _ _ _ h => h) (Or.inl ⟨by kernel_rfl, fun w _ => by go_simp⟩) hS.out ?_
              refine wpAnyH_take (i := 18) (v := .int .i64 (j : Int)) rfl (by kernel_rfl) (by kernel_rfl) (by kernel_rfl) (fun _ _ _ h => h) (Or.inl ⟨by kernel_rfl, fun w _ => by go_simp⟩) hS.out ?_
              refine wpAnyH_take (i := 19) (v := .pointer (some ⟨b', o' + j * 5, none⟩)) rfl (by kernel_rfl) (by kernel_rfl) (by kernel_rfl) (fun _ _ _ h => h) (Or.inl ⟨by kernel_rfl, fun w _ => by go_simp⟩) hS.out ?_
              refine wpAnyH_take (i := 20) (v := .pointer (some ⟨b', o' + j * 5 + 1, none⟩)) rfl (by kernel_rfl) (by kernel_rfl) (by kernel_rfl) (fun _ _ _ h => h) (Or.inl ⟨by kernel_rfl, fun w _ => by go_simp⟩) hS.out ?_
              refine wpAnyH_take (i := 21) (v := .int .i64 l'.q) rfl (by kernel_rfl) (by kernel_rfl) (by kernel_rfl) (fun _ _ _ h => h) (Or.inl ⟨by kernel_rfl, fun w h => by obtain ⟨⟨y0, y1, y2, y3, y4⟩, z0, z1, z2, z3, z4⟩ := h; go_simp⟩) hS.out ?_
              refine wpAnyH_take (i := 22) (v := .bool false) rfl (by kernel_rfl) (by kernel_rfl) (by kernel_rfl) (fun _ _ _ h => h) (Or.inl ⟨by kernel_rfl, fun w _ => by go_simp⟩) hS.out ?_
              refine wpAnyH_take (i := 23) (v := .bool false) rfl (by kernel_rfl) (by kernel_rfl) (by kernel_rfl) (fun _ _ _ h => h) (Or.inl ⟨by kernel_rfl, fun w _ => by go_simp⟩) hS.out ?_
              refine wpAnyH_take (i := 24) (v := .bool false) rfl (by kernel_rfl) (by kernel_rfl) (by kernel_rfl) (fun _ _ _ h => h) (Or.inl ⟨by kernel_rfl, fun w _ => by go_simp⟩) hS.out ?_
              refine wpAnyH_take (i := 25) (v := .slice (some ⟨b, o, none⟩) ls.length c) rfl (by kernel_rfl) (by kernel_rfl) (by kernel_rfl) (fun _ _ _ h => h) (Or.inl ⟨by kernel_rfl, fun w _ => by go_simp⟩) hS.out ?_
              refine wpAnyH_take (i := 26) (v := .int .i64 (j : Int)) rfl (by kernel_rfl) (by kernel_rfl) (by kernel_rfl) (fun _ _ _ h => h) (Or.inl ⟨by kernel_rfl, fun w _ => by go_simp⟩) hS.out ?_
              refine wpAnyH_take (i := 27) (v := .pointer (some ⟨b, o + j * 5, none⟩)) rfl (by kernel_rfl) (by kernel_rfl) (by kernel_rfl) (fun _ _ _ h => h) (Or.inl ⟨by kernel_rfl, fun w _ => by go_simp⟩) hS.out ?_
              refine wpAnyH_take (i := 28) (v := .pointer (some ⟨b, o + j * 5 + 2, none⟩)) rfl (by kernel_rfl) (by kernel_rfl) (by kernel_rfl) (fun _ _ _ h => h) (Or.inl ⟨by kernel_rfl, fun w _ => by go_simp⟩) hS.out ?_
              refine wpAnyH_take (i := 29) (v := .agg #[.int .i64 l.e, .slice A1 l.v.length c1, .int .i64 l.n]) rfl (by kernel_rfl) (by kernel_rfl) (by kernel_rfl) (fun _ _ _ h => h) (Or.inl ⟨by kernel_rfl, fun w h => by obtain ⟨⟨y0, y1, y2, y3, y4⟩, z0, z1, z2, z3, z4⟩ := h; go_simp⟩) hS.out ?_
              refine wpAnyH_take (i := 30) (v := .slice (some ⟨b', o', none⟩) ls'.length c') rfl (by kernel_rfl) (by kernel_rfl) (by kernel_rfl) (fun _ _ _ h => h) (Or.inl ⟨by kernel_rfl, fun w _ => by go_simp⟩) hS.out ?_
              refine wpAnyH_take (i := 31) (v := .int .i64 (j : Int)) rfl (by kernel_rfl) (by kernel_rfl) (by kernel_rfl) (fun _ _ _ h => h) (Or.inl ⟨by kernel_rfl, fun w _ => by go_simp⟩) hS.out ?_
              refine wpAnyH_take (i := 32) (v := .pointer (some ⟨b', o' + j * 5, none⟩)) rfl (by kernel_rfl) (by kernel_rfl) (by kernel_rfl) (fun _ _ _ h => h) (Or.inl ⟨by kernel_rfl, fun w _ => by go_simp⟩) hS.out ?_
              refine wpAnyH_take (i := 33) (v := .pointer (some ⟨b', o' + j * 5 + 2, none⟩)) rfl (by kernel_rfl) (by kernel_rfl) (by kernel_rfl) (fun _ _ _ h => h) (Or.inl ⟨by kernel_rfl, fun w _ => by go_simp⟩) hS.out ?_
              refine wpAnyH_take (i := 34) (v := .agg #[.int .i64 l'.e, .slice A2 l'.v.length c2, .int .i64 l'.n]) rfl (by kernel_rfl) (by kernel_rfl) (by kernel_rfl) (fun _ _ _ h => h) (Or.inl ⟨by kernel_rfl, fun w h => by obtain ⟨⟨y0, y1, y2, y3, y4⟩, z0, z1, z2, z3, z4⟩ := h; go_simp⟩) hS.out ?_
              refine wpAnyH_ready (rs := [35]) (by kernel_rfl) (by simp) ?_
              refine AllReadyH.cons rfl (fun K hK => ?_) AllReadyH.nil
              go_simp
              refine (sameR_any _ _ _ _ _ HBL.out HBL'.out (HRD.out.below HB4.out) (HRD'.out.below HB4.out)).mono ?_
              rw [HRV.out]
              rintro e w5 ⟨rfl, hb5⟩
              have HB5 := Lib.hid (HB4.out.trans (hb5.mono HB4.out.size))
              have hS := Lib.hid (HC.out _ HB5.out)
              clear hb5
              go_simp
              refine hK.out _ _ hS.out (fun _ => ?_)
              clear hK K
              refine wpAnyH_take (i := 36) (v := .bool true) rfl (by kernel_rfl) (by kernel_rfl) (by kernel_rfl) (fun _ _ _ h => h) (Or.inl ⟨by kernel_rfl, fun w _ => by go_simp⟩) hS.out ?_
              refine wpAnyH_take (i := 37) (v := .bool true) rfl (by kernel_rfl) (by kernel_rfl) (by kernel_rfl) (fun _ _ _ h => h) (Or.inl ⟨by kernel_rfl, fun w _ => by go_simp⟩) hS.out ?_
              refine wpAnyH_done (by kernel_rfl) ?_ _
              go_wp2_with fail
              go_ret
              have hDf : D = false := by rw [← HDD.out]; exact decide_eq_false HNL.out
              subst hDf
              exact ⟨rfl, HB.out.trans (HB5.out.mono HB.out.size)⟩
          · have hqb : (l.q == l'.q) = false := by simpa using hq
            have hqn : (l.q != l'.q) = true := by simpa using hq
            have HNE : Hid (l ≠ l') := Lib.hid (fun h => hq (by rw [h]))
            have HNL : Hid (ls ≠ ls') := Lib.hid (fun h => HNE.out (by have h1 := HX.out; rw [h, HX'.out] at h1; exact (Option.some.inj h1).symm))
            clear hs hq
            go_upto_region 6 with fail
            have hbw : Below wr.heap.size wr wr.drew := (Below.refl _ _).drew
            have hS0 := HC.out _ hbw
            refine wp_region_held_drew (S := fun w' => (w'.cell? ⟨b, o + j * 5, none⟩ = some (.int .i64 l.s) ∧ w'.cell? ⟨b, o + j * 5 + 1, none⟩ = some (.int .i64 l.q) ∧ w'.cell? ⟨b, o + j * 5 + 2, none⟩ = some (.int .i64 l.e) ∧ w'.cell? ⟨b, o + j * 5 + 3, none⟩ = some (.slice A1 l.v.length c1) ∧ w'.cell? ⟨b, o + j * 5 + 4, none⟩ = some (.int .i64 l.n)) ∧ w'.cell? ⟨b', o' + j * 5, none⟩ = some (.int .i64 l'.s) ∧ w'.cell? ⟨b', o' + j * 5 + 1, none⟩ = some (.int .i64 l'.q) ∧ w'.cell? ⟨b', o' + j * 5 + 2, none⟩ = some (.int .i64 l'.e) ∧ w'.cell? ⟨b', o' + j * 5 + 3, none⟩ = some (.slice A2 l'.v.length c2) ∧ w'.cell? ⟨b', o' + j * 5 + 4, none⟩ = some (.int .i64 l'.n)) (by kernel_rfl) hS0 (fun _ => ?_)
            generalize wr.drew = w4 at hS0 hbw ⊢
            have hS := Lib.hid hS0
            have HB4 := Lib.hid hbw
            clear hS0 hbw
            refine wpAnyH_take (i := 0) (v := .slice (some ⟨b, o, none⟩) ls.length c) rfl (by kernel_rfl) (by kernel_rfl) (by kernel_rfl) (fun _ _ _ h => h) (Or.inl ⟨by kernel_rfl, fun w _ => by go_simp⟩) hS.out ?_
            refine wpAnyH_take (i := 1) (v := .int .i64 (j : Int)) rfl (by kernel_rfl) (by kernel_rfl) (by kernel_rfl) (fun _ _ _ h => h) (Or.inl ⟨by kernel_rfl, fun w _ => by go_simp⟩) hS.out ?_
            refine wpAnyH_take (i := 2) (v := .pointer (some ⟨b, o + j * 5, none⟩)) rfl (by kernel_rfl) (by kernel_rfl) (by kernel_rfl) (fun _ _ _ h => h) (Or.inl ⟨by kernel_rfl, fun w _ => by go_simp⟩) hS.out ?_
            refine wpAnyH_take (i := 3) (v := .pointer (some ⟨b, o + j * 5, none⟩)) rfl (by kernel_rfl) (by kernel_rfl) (by kernel_rfl) (fun _ _ _ h => h) (Or.inl ⟨by kernel_rfl, fun w _ => by go_simp⟩) hS.out ?_
            refine wpAnyH_take (i := 4) (v := .int .i64 l.s) rfl (by kernel_rfl) (by kernel_rfl) (by kernel_rfl) (fun _ _ _ h => h) (Or.inl ⟨by kernel_rfl, fun w h => by obtain ⟨⟨y0, y1, y2, y3, y4⟩, z0, z1, z2, z3, z4⟩ := h; go_simp⟩) hS.out ?_
            refine wpAnyH_take (i := 5) (v := .slice (some ⟨b', o', none⟩) ls'.length c') rfl (by kernel_rfl) (by kernel_rfl) (by kernel_rfl) (fun _ _ _ h => h) (Or.inl ⟨by kernel_rfl, fun w _ => by go_simp⟩) hS.out ?_
            refine wpAnyH_take (i := 6) (v := .int .i64 (j : Int)) rfl (by kernel_rfl) (by kernel_rfl) (by kernel_rfl) (fun _ _ _ h => h) (Or.inl ⟨by kernel_rfl, fun w _ => by go_simp⟩) hS.out ?_
            refine wpAnyH_take (i := 7) (v := .pointer (some ⟨b', o' + j * 5, none⟩)) rfl (by kernel_rfl) (by kernel_rfl) (by kernel_rfl) (fun _ _ _ h => h) (Or.inl ⟨by kernel_rfl, fun w _ => by go_simp⟩) hS.out ?_
            refine wpAnyH_take (i := 8) (v := .pointer (some ⟨b', o' + j * 5, none⟩)) rfl (by kernel_rfl) (by kernel_rfl) (by kernel_rfl) (fun _ _ _ h => h) (Or.inl ⟨by kernel_rfl, fun w _ => by go_simp⟩) hS.out ?_
            refine wpAnyH_take (i := 9) (v := .int .i64 l'.s) rfl (by kernel_rfl) (by kernel_rfl) (by kernel_rfl) (fun _ _ _ h => h) (Or.inl ⟨by kernel_rfl, fun w h => by obtain ⟨⟨y0, y1, y2, y3, y4⟩, z0, z1, z2, z3, z4⟩ := h; go_simp⟩) hS.out ?_
            refine wpAnyH_take (i := 10) (v := .bool false) rfl (by kernel_rfl) (by kernel_rfl) (by kernel_rfl) (fun _ _ _ h => h) (Or.inl ⟨by kernel_rfl, fun w _ => by go_simp⟩) hS.out ?_
            refine wpAnyH_take (i := 11) (v := .bool false) rfl (by kernel_rfl) (by kernel_rfl) (by kernel_rfl) (fun _ _ _ h => h) (Or.inl ⟨by kernel_rfl, fun w _ => by go_simp⟩) hS.out ?_
            refine wpAnyH_take (i := 12) (v := .slice (some ⟨b, o, none⟩) ls.length c) rfl (by kernel_rfl) (by kernel_rfl) (by kernel_rfl) (fun _ _ _ h => h) (Or.inl ⟨by kernel_rfl, fun w _ => by go_simp⟩) hS.out ?_
            refine wpAnyH_take (i := 13) (v := .int .i64 (j : Int)) rfl (by kernel_rfl) (by kernel_rfl) (by kernel_rfl) (fun _ _ _ h => h) (Or.inl ⟨by kernel_rfl, fun w _ => by go_simp⟩) hS.out ?_
            refine wpAnyH_take (i := 14) (v := .pointer (some ⟨b, o + j * 5, none⟩)) rfl (by kernel_rfl) (by kernel_rfl) (by kernel_rfl) (fun _ _ _ h => h) (Or.inl ⟨by kernel_rfl, fun w _ => by go_simp⟩) hS.out ?_
            refine wpAnyH_take (i := 15) (v := .pointer (some ⟨b, o + j * 5 + 1, none⟩)) rfl (by kernel_rfl) (by kernel_rfl) (by kernel_rfl) (fun _ _ _ h => h) (Or.inl ⟨by kernel_rfl, fun w _ => by go_simp⟩) hS.out ?_
            refine wpAnyH_take (i := 16) (v := .int .i64 l.q) rfl (by kernel_rfl) (by kernel_rfl) (by kernel_rfl) (fun _ _ _ h => h) (Or.inl ⟨by kernel_rfl, fun w h => by obtain ⟨⟨y0, y1, y2, y3, y4⟩, z0, z1, z2, z3, z4⟩ := h; go_simp⟩) hS.out ?_
            refine wpAnyH_take (i := 17) (v := .slice (some ⟨b', o', none⟩) ls'.length c') rfl (by kernel_rfl) (by kernel_rfl) (by kernel_rfl) (fun _ _ _ h => h) (Or.inl ⟨by kernel_rfl, fun w _ => by go_simp⟩) hS.out ?_
            refine wpAnyH_take (i := 18) (v := .int .i64 (j : Int)) rfl (by kernel_rfl) (by kernel_rfl) (by kernel_rfl) (fun _ _ _ h => h) (Or.inl ⟨by kernel_rfl, fun w _ => by go_simp⟩) hS.out ?_
            refine wpAnyH_take (i := 19) (v := .pointer (some ⟨b', o' + j * 5, none⟩)) rfl (by kernel_rfl) (by kernel_rfl) (by kernel_rfl) (fun _ _ _ h => h) (Or.inl ⟨by kernel_rfl, fun w _ => by go_simp⟩) hS.out ?_
            refine wpAnyH_take (i := 20) (v := .pointer (some ⟨b', o' + j * 5 + 1, none⟩)) rfl (by kernel_rfl) (by kernel_rfl) (by kernel_rfl) (fun _ _ _ h => h) (Or.inl ⟨by kernel_rfl, fun w _ => by go_simp⟩) hS.out ?_
            refine wpAnyH_take (i := 21) (v := .int .i64 l'.q) rfl (by kernel_rfl) (by kernel_rfl) (by kernel_rfl) (fun _ _ _ h => h) (Or.inl ⟨by kernel_rfl, fun w h => by obtain ⟨⟨y0, y1, y2, y3, y4⟩, z0, z1, z2, z3, z4⟩ := h; go_simp⟩) hS.out ?_
            refine wpAnyH_take (i := 22) (v := .bool true) rfl (by kernel_rfl) (by kernel_rfl) (by kernel_rfl) (fun _ _ _ h => h) (Or.inl ⟨by kernel_rfl, fun w _ => by go_simp⟩) hS.out ?_
            refine wpAnyH_take (i := 23) (v := .bool true) rfl (by kernel_rfl) (by kernel_rfl) (by kernel_rfl) (fun _ _ _ h => h) (Or.inl ⟨by kernel_rfl, fun w _ => by go_simp⟩) hS.out ?_
            refine wpAnyH_ready (rs := [24]) (by kernel_rfl) (by simp) ?_
            refine AllReadyH.cons rfl (fun K hK => ?_) AllReadyH.nil
            go_simp
            refine hK.out _ _ hS.out (fun _ => ?_)
            clear hK K
            refine wpAnyH_take (i := 25) (v := undef) rfl (by kernel_rfl) (by kernel_rfl) (by kernel_rfl) (fun _ _ _ h => h) (Or.inr ⟨by kernel_rfl, rfl⟩) hS.out ?_
            refine wpAnyH_take (i := 26) (v := undef) rfl (by kernel_rfl) (by kernel_rfl) (by kernel_rfl) (fun _ _ _ h => h) (Or.inr ⟨by kernel_rfl, rfl⟩) hS.out ?_
            refine wpAnyH_take (i := 27) (v := undef) rfl (by kernel_rfl) (by kernel_rfl) (by kernel_rfl) (fun _ _ _ h => h) (Or.inr ⟨by kernel_rfl, rfl⟩) hS.out ?_
            refine wpAnyH_take (i := 28) (v := undef) rfl (by kernel_rfl) (by kernel_rfl) (by kernel_rfl) (fun _ _ _ h => h) (Or.inr ⟨by kernel_rfl, rfl⟩) hS.out ?_
            refine wpAnyH_take (i := 29) (v := undef) rfl (by kernel_rfl) (by kernel_rfl) (by kernel_rfl) (fun _ _ _ h => h) (Or.inr ⟨by kernel_rfl, rfl⟩) hS.out ?_
            refine wpAnyH_take (i := 30) (v := undef) rfl (by kernel_rfl) (by kernel_rfl) (by kernel_rfl) (fun _ _ _ h => h) (Or.inr ⟨by kernel_rfl, rfl⟩) hS.out ?_
            refine wpAnyH_take (i := 31) (v := undef) rfl (by kernel_rfl) (by kernel_rfl) (by kernel_rfl) (fun _ _ _ h => h) (Or.inr ⟨by kernel_rfl, rfl⟩) hS.out ?_
            refine wpAnyH_take (i := 32) (v := undef) rfl (by kernel_rfl) (by kernel_rfl) (by kernel_rfl) (fun _ _ _ h => h) (Or.inr ⟨by kernel_rfl, rfl⟩) hS.out ?_
            refine wpAnyH_take (i := 33) (v := undef) rfl (by kernel_rfl) (by kernel_rfl) (by kernel_rfl) (fun _ _ _ h => h) (Or.inr ⟨by kernel_rfl, rfl⟩) hS.out ?_
            refine wpAnyH_take (i := 34) (v := undef) rfl (by kernel_rfl) (by kernel_rfl) (by kernel_rfl) (fun _ _ _ h => h) (Or.inr ⟨by kernel_rfl, rfl⟩) hS.out ?_
            refine wpAnyH_take (i := 35) (v := undef) rfl (by kernel_rfl) (by kernel_rfl) (by kernel_rfl) (fun _ _ _ h => h) (Or.inr ⟨by kernel_rfl, rfl⟩) hS.out ?_
            refine wpAnyH_take (i := 36) (v := undef) rfl (by kernel_rfl) (by kernel_rfl) (by kernel_rfl) (fun _ _ _ h => h) (Or.inr ⟨by kernel_rfl, rfl⟩) hS.out ?_
            refine wpAnyH_ready (rs := [37]) (by kernel_rfl) (by simp) ?_
            refine AllReadyH.cons rfl (fun K hK => ?_) AllReadyH.nil
            go_simp
            refine hK.out _ _ hS.out (fun _ => ?_)
            clear hK K
            refine wpAnyH_done (by kernel_rfl) ?_ _
            go_wp2_with fail
            go_ret
            have hDf : D = false := by rw [← HDD.out]; exact decide_eq_false HNL.out
            subst hDf
            exact ⟨rfl, HB.out.trans (HB4.out.mono HB.out.size)⟩
        · have hsb : (l.s == l'.s) = false := by simpa using hs
          have hsn : (l.s != l'.s) = true := by simpa using hs
          have HNE : Hid (l ≠ l') := Lib.hid (fun h => hs (by rw [h]))
          have HNL : Hid (ls ≠ ls') := Lib.hid (fun h => HNE.out (by have h1 := HX.out; rw [h, HX'.out] at h1; exact (Option.some.inj h1).symm))
          clear hs
          go_upto_region 6 with fail
          have hbw : Below wr.heap.size wr wr.drew := (Below.refl _ _).drew
          have hS0 := HC.out _ hbw
          refine wp_region_held_drew (S := fun w' => (w'.cell? ⟨b, o + j * 5, none⟩ = some (.int .i64 l.s) ∧ w'.cell? ⟨b, o + j * 5 + 1, none⟩ = some (.int .i64 l.q) ∧ w'.cell? ⟨b, o + j * 5 + 2, none⟩ = some (.int .i64 l.e) ∧ w'.cell? ⟨b, o + j * 5 + 3, none⟩ = some (.slice A1 l.v.length c1) ∧ w'.cell? ⟨b, o + j * 5 + 4, none⟩ = some (.int .i64 l.n)) ∧ w'.cell? ⟨b', o' + j * 5, none⟩ = some (.int .i64 l'.s) ∧ w'.cell? ⟨b', o' + j * 5 + 1, none⟩ = some (.int .i64 l'.q) ∧ w'.cell? ⟨b', o' + j * 5 + 2, none⟩ = some (.int .i64 l'.e) ∧ w'.cell? ⟨b', o' + j * 5 + 3, none⟩ = some (.slice A2 l'.v.length c2) ∧ w'.cell? ⟨b', o' + j * 5 + 4, none⟩ = some (.int .i64 l'.n)) (by kernel_rfl) hS0 (fun _ => ?_)
          generalize wr.drew = w4 at hS0 hbw ⊢
          have hS := Lib.hid hS0
          have HB4 := Lib.hid hbw
          clear hS0 hbw
          refine wpAnyH_take (i := 0) (v := .slice (some ⟨b, o, none⟩) ls.length c) rfl (by kernel_rfl) (by kernel_rfl) (by kernel_rfl) (fun _ _ _ h => h) (Or.inl ⟨by kernel_rfl, fun w _ => by go_simp⟩) hS.out ?_
          refine wpAnyH_take (i := 1) (v := .int .i64 (j : Int)) rfl (by kernel_rfl) (by kernel_rfl) (by kernel_rfl) (fun _ _ _ h => h) (Or.inl ⟨by kernel_rfl, fun w _ => by go_simp⟩) hS.out ?_
          refine wpAnyH_take (i := 2) (v := .pointer (some ⟨b, o + j * 5, none⟩)) rfl (by kernel_rfl) (by kernel_rfl) (by kernel_rfl) (fun _ _ _ h => h) (Or.inl ⟨by kernel_rfl, fun w _ => by go_simp⟩) hS.out ?_
          refine wpAnyH_take (i := 3) (v := .pointer (some ⟨b, o + j * 5, none⟩)) rfl (by kernel_rfl) (by kernel_rfl) (by kernel_rfl) (fun _ _ _ h => h) (Or.inl ⟨by kernel_rfl, fun w _ => by go_simp⟩) hS.out ?_
          refine wpAnyH_take (i := 4) (v := .int .i64 l.s) rfl (by kernel_rfl) (by kernel_rfl) (by kernel_rfl) (fun _ _ _ h => h) (Or.inl ⟨by kernel_rfl, fun w h => by obtain ⟨⟨y0, y1, y2, y3, y4⟩, z0, z1, z2, z3, z4⟩ := h; go_simp⟩) hS.out ?_
          refine wpAnyH_take (i := 5) (v := .slice (some ⟨b', o', none⟩) ls'.length c') rfl (by kernel_rfl) (by kernel_rfl) (by kernel_rfl) (fun _ _ _ h => h) (Or.inl ⟨by kernel_rfl, fun w _ => by go_simp⟩) hS.out ?_
          refine wpAnyH_take (i := 6) (v := .int .i64 (j : Int)) rfl (by kernel_rfl) (by kernel_rfl) (by kernel_rfl) (fun _ _ _ h => h) (Or.inl ⟨by kernel_rfl, fun w _ => by go_simp⟩) hS.out ?_
          refine wpAnyH_take (i := 7) (v := .pointer (some ⟨b', o' + j * 5, none⟩)) rfl (by kernel_rfl) (by kernel_rfl) (by kernel_rfl) (fun _ _ _ h => h) (Or.inl ⟨by kernel_rfl, fun w _ => by go_simp⟩) hS.out ?_
          refine wpAnyH_take (i := 8) (v := .pointer (some ⟨b', o' + j * 5, none⟩)) rfl (by kernel_rfl) (by kernel_rfl) (by kernel_rfl) (fun _ _ _ h => h) (Or.inl ⟨by kernel_rfl, fun w _ => by go_simp⟩) hS.out ?_
          refine wpAnyH_take (i := 9) (v := .int .i64 l'.s) rfl (by kernel_rfl) (by kernel_rfl) (by kernel_rfl) (fun _ _ _ h => h) (Or.inl ⟨by kernel_rfl, fun w h => by obtain ⟨⟨y0, y1, y2, y3, y4⟩, z0, z1, z2, z3, z4⟩ := h; go_simp⟩) hS.out ?_
          refine wpAnyH_take (i := 10) (v := .bool true) rfl (by kernel_rfl) (by kernel_rfl) (by kernel_rfl) (fun _ _ _ h => h) (Or.inl ⟨by kernel_rfl, fun w _ => by go_simp⟩) hS.out ?_
          refine wpAnyH_ready (rs := [11]) (by kernel_rfl) (by simp) ?_
          refine AllReadyH.cons rfl (fun K hK => ?_) AllReadyH.nil
          go_simp
          refine hK.out _ _ hS.out (fun _ => ?_)
          clear hK K
          refine wpAnyH_take (i := 12) (v := undef) rfl (by kernel_rfl) (by kernel_rfl) (by kernel_rfl) (fun _ _ _ h => h) (Or.inr ⟨by kernel_rfl, rfl⟩) hS.out ?_
          refine wpAnyH_take (i := 13) (v := undef) rfl (by kernel_rfl) (by kernel_rfl) (by kernel_rfl) (fun _ _ _ h => h) (Or.inr ⟨by kernel_rfl, rfl⟩) hS.out ?_
          refine wpAnyH_take (i := 14) (v := undef) rfl (by kernel_rfl) (by kernel_rfl) (by kernel_rfl) (fun _ _ _ h => h) (Or.inr ⟨by kernel_rfl, rfl⟩) hS.out ?_
          refine wpAnyH_take (i := 15) (v := undef) rfl (by kernel_rfl) (by kernel_rfl) (by kernel_rfl) (fun _ _ _ h => h) (Or.inr ⟨by kernel_rfl, rfl⟩) hS.out ?_
          refine wpAnyH_take (i := 16) (v := undef) rfl (by kernel_rfl) (by kernel_rfl) (by kernel_rfl) (fun _ _ _ h => h) (Or.inr ⟨by kernel_rfl, rfl⟩) hS.out ?_
          refine wpAnyH_take (i := 17) (v := undef) rfl (by kernel_rfl) (by kernel_rfl) (by kernel_rfl) (fun _ _ _ h => h) (Or.inr ⟨by kernel_rfl, rfl⟩) hS.out ?_
          refine wpAnyH_take (i := 18) (v := undef) rfl (by kernel_rfl) (by kernel_rfl) (by kernel_rfl) (fun _ _ _ h => h) (Or.inr ⟨by kernel_rfl, rfl⟩) hS.out ?_
          refine wpAnyH_take (i := 19) (v := undef) rfl (by kernel_rfl) (by kernel_rfl) (by kernel_rfl) (fun _ _ _ h => h) (Or.inr ⟨by kernel_rfl, rfl⟩) hS.out ?_
          refine wpAnyH_take (i := 20) (v := undef) rfl (by kernel_rfl) (by kernel_rfl) (by kernel_rfl) (fun _ _ _ h => h) (Or.inr ⟨by kernel_rfl, rfl⟩) hS.out ?_
          refine wpAnyH_take (i := 21) (v := undef) rfl (by kernel_rfl) (by kernel_rfl) (by kernel_rfl) (fun _ _ _ h => h) (Or.inr ⟨by kernel_rfl, rfl⟩) hS.out ?_
          refine wpAnyH_take (i := 22) (v := undef) rfl (by kernel_rfl) (by kernel_rfl) (by kernel_rfl) (fun _ _ _ h => h) (Or.inr ⟨by kernel_rfl, rfl⟩) hS.out ?_
          refine wpAnyH_take (i := 23) (v := .bool true) rfl (by kernel_rfl) (by kernel_rfl) (by kernel_rfl) (fun _ _ _ h => h) (Or.inl ⟨by kernel_rfl, fun w _ => by go_simp⟩) hS.out ?_
          refine wpAnyH_ready (rs := [24]) (by kernel_rfl) (by simp) ?_
          refine AllReadyH.cons rfl (fun K hK => ?_) AllReadyH.nil
          go_simp
          refine hK.out _ _ hS.out (fun _ => ?_)
          clear hK K
          refine wpAnyH_take (i := 25) (v := undef) rfl (by kernel_rfl) (by kernel_rfl) (by kernel_rfl) (fun _ _ _ h => h) (Or.inr ⟨by kernel_rfl, rfl⟩) hS.out ?_
          refine wpAnyH_take (i := 26) (v := undef) rfl (by kernel_rfl) (by kernel_rfl) (by kernel_rfl) (fun _ _ _ h => h) (Or.inr ⟨by kernel_rfl, rfl⟩) hS.out ?_
          refine wpAnyH_take (i := 27) (v := undef) rfl (by kernel_rfl) (by kernel_rfl) (by kernel_rfl) (fun _ _ _ h => h) (Or.inr ⟨by kernel_rfl, rfl⟩) hS.out ?_
          refine wpAnyH_take (i := 28) (v := undef) rfl (by kernel_rfl) (by kernel_rfl) (by kernel_rfl) (fun _ _ _ h => h) (Or.inr ⟨by kernel_rfl, rfl⟩) hS.out ?_
          refine wpAnyH_take (i := 29) (v := undef) rfl (by kernel_rfl) (by kernel_rfl) (by kernel_rfl) (fun _ _ _ h => h) (Or.inr ⟨by kernel_rfl, rfl⟩) hS.out ?_
          refine wpAnyH_take (i := 30) (v := undef) rfl (by kernel_rfl) (by kernel_rfl) (by kernel_rfl) (fun _ _ _ h => h) (Or.inr ⟨by kernel_rfl, rfl⟩) hS.out ?_
          refine wpAnyH_take (i := 31) (v := undef) rfl (by kernel_rfl) (by kernel_rfl) (by kernel_rfl) (fun _ _ _ h => h) (Or.inr ⟨by kernel_rfl, rfl⟩) hS.out ?_
          refine wpAnyH_take (i := 32) (v := undef) rfl (by kernel_rfl) (by kernel_rfl) (by kernel_rfl) (fun _ _ _ h => h) (Or.inr ⟨by kernel_rfl, rfl⟩) hS.out ?_
          refine wpAnyH_take (i := 33) (v := undef) rfl (by kernel_rfl) (by kernel_rfl) (by kernel_rfl) (fun _ _ _ h => h) (Or.inr ⟨by kernel_rfl, rfl⟩) hS.out ?_
          refine wpAnyH_take (i := 34) (v := undef) rfl (by kernel_rfl) (by kernel_rfl) (by kernel_rfl) (fun _ _ _ h => h) (Or.inr ⟨by kernel_rfl, rfl⟩) hS.out ?_
          refine wpAnyH_take (i := 35) (v := undef) rfl (by kernel_rfl) (by kernel_rfl) (by kernel_rfl) (fun _ _ _ h => h) (Or.inr ⟨by kernel_rfl, rfl⟩) hS.out ?_
          refine wpAnyH_take (i := 36) (v := undef) rfl (by kernel_rfl) (by kernel_rfl) (by kernel_rfl) (fun _ _ _ h => h) (Or.inr ⟨by kernel_rfl, rfl⟩) hS.out ?_
          refine wpAnyH_ready (rs := [37]) (by kernel_rfl) (by simp) ?_
          refine AllReadyH.cons rfl (fun K hK => ?_) AllReadyH.nil
          go_simp
          refine hK.out _ _ hS.out (fun _ => ?_)
          clear hK K
          refine wpAnyH_done (by kernel_rfl) ?_ _
          go_wp2_with fail
          go_ret
          have hDf : D = false := by rw [← HDD.out]; exact decide_eq_false HNL.out
          subst hDf
          exact ⟨rfl, HB.out.trans (HB4.out.mono HB.out.size)⟩
      · obtain rfl : j = ls.length := by omega
        go_wp2_with fail
        go_ret
        have hDt : D = true := by
          rw [← HDD.out]
          refine decide_eq_true (List.ext_getElem? ?_)
          intro i
          rcases Nat.lt_or_ge i ls.length with h1 | h1
          · exact HQ.out i h1
          · rw [List.getElem?_eq_none h1, List.getElem?_eq_none (by have := HLN.out; omega)]
        subst hDt
        exact ⟨rfl, HB.out⟩
  · have hlb : ((ls.length : Int) == (ls'.length : Int)) = false := by simpa using hlen
    have hlen2 : ((ls.length : Int) != (ls'.length : Int)) = true := by simpa using hlen
    have hDf : D = false := by rw [← HDD.out]; exact decide_eq_false fun h => hlen (by rw [h])
    subst hDf
    clear hlen
    go_enter Tryz.func40, Tryz.ntmps40
    go_wp2_with fail
    go_ret
    exact ⟨rfl, Below.refl _ _⟩
end Go.Proofs.YtaknfmionkkdjaaGreat

namespace Go.Proofs.YtaknfmionkkdjaaGreat
open Go.RowKit
set_option linter.unusedVariables false
theorem Mc.same_eq (m m' : Mc) : decide (m = m') = (m.o.same m'.o && decide (m.t = m'.t)) := by
  rw [Bool.eq_iff_iff, decide_eq_true_iff, Mc.eq_iff]
  unfold Ob.same
  simp [and_assoc]
set_option maxHeartbeats 2000000 in
set_option maxRecDepth 100000 in
theorem refSame_any (w : World) {a a' : MA} {m m' : Mc} {B B' : Nat} (hM : m.Ok) (hM' : m'.Ok) (h : RdM w B a m) (h' : RdM w B' a' m') :
    Calls Tryz.prog 15 #[machV a m, machV a' m'] w fun e w' => e = .returned (.bool (decide (m = m'))) ∧ Below w.heap.size w w' := by
  obtain ⟨⟨A0, Ac0, A1, Ac1, A2, Ac2, A3, Ac3⟩, At, Act⟩ := a
  obtain ⟨⟨D0, Dc0, D1, Dc1, D2, Dc2, D3, Dc3⟩, Dt, Dct⟩ := a'
  have b0 : Below w.heap.size w ((w.alloc (.cells #[.slice A0 m.o.reg.length Ac0, .slice A1 m.o.q.length Ac1, .slice A2 m.o.lk.length Ac2, .slice A3 m.o.mp.length Ac3, .slice At m.t.length Act] 33)).alloc (.cells #[.slice D0 m'.o.reg.length Dc0, .slice D1 m'.o.q.length Dc1, .slice D2 m'.o.lk.length Dc2, .slice D3 m'.o.mp.length Dc3, .slice Dt m'.t.length Dct] 33)) := ((Below.refl _ _).alloc (Nat.le_refl _) _).alloc (by simp) _
  have HB := Lib.hid b0
  have H := Lib.hid (h.fit.below b0)
  have H' := Lib.hid (h'.fit.below b0)
  have HK := Lib.hid ((Blk.new w 33 #[.slice A0 m.o.reg.length Ac0, .slice A1 m.o.q.length Ac1, .slice A2 m.o.lk.length Ac2, .slice A3 m.o.mp.length Ac3, .slice At m.t.length Act]).alloc (.cells #[.slice D0 m'.o.reg.length Dc0, .slice D1 m'.o.q.length Dc1, .slice D2 m'.o.lk.length Dc2, .slice D3 m'.o.mp.length Dc3, .slice Dt m'.t.length Dct] 33))
  have HK' := Lib.hid (Blk.new (w.alloc (.cells #[.slice A0 m.o.reg.length Ac0, .slice A1 m.o.q.length Ac1, .slice A2 m.o.lk.length Ac2, .slice A3 m.o.mp.length Ac3, .slice At m.t.length Act] 33)) 33 #[.slice D0 m'.o.reg.length Dc0, .slice D1 m'.o.q.length Dc1, .slice D2 m'.o.lk.length Dc2, .slice D3 m'.o.mp.length Dc3, .slice Dt m'.t.length Dct])
  rw [World.size_alloc] at HK'
  have ht8 := hM.t8
  have ht8' := hM'.t8
  have HM := Lib.hid hM
  have HM' := Lib.hid hM'
  clear h h' b0 hM hM'
  rw [Mc.same_eq]
  unfold machV machC
  simp only
  obtain ⟨S, hS⟩ : ∃ S, m.o.same m'.o = S := ⟨_, rfl⟩
  obtain ⟨T, hT⟩ : ∃ T, decide (m.t = m'.t) = T := ⟨_, rfl⟩
  have C1 := Lib.hid (fun w (h : RdO w w.heap.size ⟨A0, Ac0, A1, Ac1, A2, Ac2, A3, Ac3⟩ m.o) (h' : RdO w w.heap.size ⟨D0, Dc0, D1, Dc1, D2, Dc2, D3, Dc3⟩ m'.o) => sameO_any w HM.out.o HM'.out.o h h')
  have C2 := Lib.hid (fun w (h : RdL w w.heap.size At m.t.length m.t) (h' : RdL w w.heap.size Dt m'.t.length m'.t) => sameT_any w (c := Act) (c' := Dct) (by omega) (by omega) HM.out.t.bytes HM'.out.t.bytes h h')
  rw [hS] at C1 ⊢
  rw [hT] at C2 ⊢
  clear hS hT
  go_enter Tryz.func15, Tryz.ntmps15
  go_upto_region 1 with fail
  generalize (w.alloc (.cells #[.slice A0 m.o.reg.length Ac0, .slice A1 m.o.q.length Ac1, .slice A2 m.o.lk.length Ac2, .slice A3 m.o.mp.length Ac3, .slice At m.t.length Act] 33)).alloc (.cells #[.slice D0 m'.o.reg.length Dc0, .slice D1 m'.o.q.length Dc1, .slice D2 m'.o.lk.length Dc2, .slice D3 m'.o.mp.length Dc3, .slice Dt m'.t.length Dct] 33) = wa at HB H H' HK HK' ⊢
  obtain ⟨x0, x1, x2, x3, x4⟩ := five HK.out
  obtain ⟨y0, y1, y2, y3, y4⟩ := five HK'.out
  cases S with
  | true =>
    go_wp2_with (first
      | (go_at_call 39; refine (C1.out wa H.out.o.fit H'.out.o.fit).mono ?_; rintro en w1 ⟨rfl, hb1⟩; have HB1 := Lib.hid hb1; clear hb1 x0 x1 x2 x3 x4 y0 y1 y2 y3 y4; obtain ⟨x0, x1, x2, x3, x4⟩ := five (HK.out.below HB1.out); obtain ⟨y0, y1, y2, y3, y4⟩ := five (HK'.out.below HB1.out))
      | (go_at_call 40; refine (C2.out w1 (H.out.fit.below HB1.out).t.fit (H'.out.fit.below HB1.out).t.fit).mono ?_; rintro en w2 ⟨rfl, hb2⟩; have HB2 := Lib.hid hb2; clear hb2)
      | fail)
    go_ret
    exact ⟨by simp, HB.out.trans ((HB1.out.trans (HB2.out.mono HB1.out.size)).mono HB.out.size)⟩
  | false =>
    go_wp2_with (first
      | (go_at_call 39; refine (C1.out wa H.out.o.fit H'.out.o.fit).mono ?_; rintro en w1 ⟨rfl, hb1⟩; have HB1 := Lib.hid hb1; clear hb1)
      | fail)
    go_ret
    exact ⟨by simp, HB.out.trans (HB1.out.mono HB.out.size)⟩
set_option maxHeartbeats 8000000 in
set_option maxRecDepth 100000 in
theorem refSameEntry_any (w : World) {ca ca' : CA} {e e' : En} {B B' : Nat} (hc : e.c.Fits) (hc' : e'.c.Fits) (h : RdC w B ca e.c) (h' : RdC w B' ca' e'.c) :
    Calls Tryz.prog 25 #[entV ca e, entV ca' e'] w fun en w' => en = .returned (.bool (decide (e = e'))) ∧ Below w.heap.size w w' := by
  obtain ⟨Ak, Akc, Av, Avc, Ao, Aoc⟩ := ca
  obtain ⟨Dk, Dkc, Dv, Dvc, Do, Doc⟩ := ca'
  have b0 : Below w.heap.size w ((w.alloc (.cells #[.int .i64 e.s, .int .i64 e.q, .int .i64 e.c.kind, .int .i64 e.c.who, .slice Ak e.c.key.length Akc, .slice Av e.c.val.length Avc, .slice Ao e.c.old.length Aoc] 40)).alloc (.cells #[.int .i64 e'.s, .int .i64 e'.q, .int .i64 e'.c.kind, .int .i64 e'.c.who, .slice Dk e'.c.key.length Dkc, .slice Dv e'.c.val.length Dvc, .slice Do e'.c.old.length Doc] 40)) := ((Below.refl _ _).alloc (Nat.le_refl _) _).alloc (by simp) _
  have HB := Lib.hid b0
  have p1 := str_of (c := Akc) (h.rk.fit.below b0)
  have p2 := str_of (c := Dkc) (h'.rk.fit.below b0)
  have p3 := str_of (c := Avc) (h.rv.fit.below b0)
  have p4 := str_of (c := Dvc) (h'.rv.fit.below b0)
  have p5 := str_of (c := Aoc) (h.ro.fit.below b0)
  have p6 := str_of (c := Doc) (h'.ro.fit.below b0)
  have Q1 := Lib.hid (strL_eq hc.key.2 hc'.key.2)
  have Q2 := Lib.hid (strL_eq hc.val.2 hc'.val.2)
  have Q3 := Lib.hid (strL_eq hc.old.2 hc'.old.2)
  have HK := Lib.hid ((Blk.new w 40 #[.int .i64 e.s, .int .i64 e.q, .int .i64 e.c.kind, .int .i64 e.c.who, .slice Ak e.c.key.length Akc, .slice Av e.c.val.length Avc, .slice Ao e.c.old.length Aoc]).alloc (.cells #[.int .i64 e'.s, .int .i64 e'.q, .int .i64 e'.c.kind, .int .i64 e'.c.who, .slice Dk e'.c.key.length Dkc, .slice Dv e'.c.val.length Dvc, .slice Do e'.c.old.length Doc] 40))
  have HK' := Lib.hid (Blk.new (w.alloc (.cells #[.int .i64 e.s, .int .i64 e.q, .int .i64 e.c.kind, .int .i64 e.c.who, .slice Ak e.c.key.length Akc, .slice Av e.c.val.length Avc, .slice Ao e.c.old.length Aoc] 40)) 40 #[.int .i64 e'.s, .int .i64 e'.q, .int .i64 e'.c.kind, .int .i64 e'.c.who, .slice Dk e'.c.key.length Dkc, .slice Dv e'.c.val.length Dvc, .slice Do e'.c.old.length Doc])
  rw [World.size_alloc] at HK'
  clear h h' b0 hc hc'
  obtain ⟨D, hD⟩ : ∃ D, decide (e = e') = D := ⟨_, rfl⟩
  rw [hD]
  have hyes : e.s = e'.s → e.q = e'.q → e.c.kind = e'.c.kind → e.c.who = e'.c.who → e.c.key = e'.c.key → e.c.val = e'.c.val → e.c.old = e'.c.old → D = true := fun h1 h2 h3 h4 h5 h6 h7 => by rw [← hD]; exact decide_eq_true ((En.eq_iff _ _).2 ⟨h1, h2, h3, h4, h5, h6, h7⟩)
  have hno : e ≠ e' → D = false := fun h => by rw [← hD]; exact decide_eq_false h
  clear hD
  unfold entV entC
  simp only
  obtain ⟨es, eq, ⟨ekind, ewho, ekey, eval, eold⟩⟩ := e
  obtain ⟨fs, fq, ⟨fkind, fwho, fkey, fval, fold⟩⟩ := e'
  simp only at *
  obtain ⟨wa, hwa⟩ : ∃ x, (w.alloc (.cells #[.int .i64 es, .int .i64 eq, .int .i64 ekind, .int .i64 ewho, .slice Ak ekey.length Akc, .slice Av eval.length Avc, .slice Ao eold.length Aoc] 40)).alloc (.cells #[.int .i64 fs, .int .i64 fq, .int .i64 fkind, .int .i64 fwho, .slice Dk fkey.length Dkc, .slice Dv fval.length Dvc, .slice Do fold.length Doc] 40) = x := ⟨_, rfl⟩
  rw [hwa] at p1 p2 p3 p4 p5 p6 HB HK HK'
  obtain ⟨x0, x1, x2, x3, x4, x5, x6⟩ := seven HK.out
  obtain ⟨y0, y1, y2, y3, y4, y5, y6⟩ := seven HK'.out
  have HW := Lib.hid hwa
  have HYES := Lib.hid hyes
  have HNO := Lib.hid hno
  clear hwa hyes hno
  by_cases h0 : es = fs
  · have b0 : (es == fs) = true := by simpa using h0
    by_cases h1 : eq = fq
    · have b1 : (eq == fq) = true := by simpa using h1
      by_cases h2 : ekind = fkind
      · have b2 : (ekind == fkind) = true := by simpa using h2
        by_cases h3 : ewho = fwho
        · have b3 : (ewho == fwho) = true := by simpa using h3
          by_cases h4 : ekey = fkey
          · have b4 : ((strB ekey).toList == (strB fkey).toList) = true := by rw [Q1.out]; exact decide_eq_true h4
            have g4 : (strB ekey == strB fkey) = true := by rw [h4]; exact strB_self _
            by_cases h5 : eval = fval
            · have b5 : ((strB eval).toList == (strB fval).toList) = true := by rw [Q2.out]; exact decide_eq_true h5
              have g5 : (strB eval == strB fval) = true := by rw [h5]; exact strB_self _
              by_cases h6 : eold = fold
              · have b6 : ((strB eold).toList == (strB fold).toList) = true := by rw [Q3.out]; exact decide_eq_true h6
                have g6 : (strB eold == strB fold) = true := by rw [h6]; exact strB_self _
                have hd := HYES.out h0 h1 h2 h3 h4 h5 h6
                subst hd
                clear h0 h1 h2 h3 h4 h5 h6
                go_enter Tryz.func25, Tryz.ntmps25
                go_upto_region 1 with fail
                rw [HW.out]
                go_wp2_with fail
                go_ret
                exact ⟨rfl, HB.out⟩
              · have hd := HNO.out (fun h => h6 ((En.eq_iff _ _).1 h).2.2.2.2.2.2)
                subst hd
                have b6 : ((strB eold).toList == (strB fold).toList) = false := by rw [Q3.out]; exact decide_eq_false h6
                have g6 : (strB eold == strB fold) = false := by rw [← Bool.not_eq_true]; intro h; rw [ba_beq, decide_eq_true_iff] at h; rw [h] at b6; simp at b6
                clear h0 h1 h2 h3 h4 h5 h6
                go_enter Tryz.func25, Tryz.ntmps25
                go_upto_region 1 with fail
                rw [HW.out]
                go_wp2_with fail
                go_ret
                exact ⟨rfl, HB.out⟩
            · have hd := HNO.out (fun h => h5 ((En.eq_iff _ _).1 h).2.2.2.2.2.1)
              subst hd
              have b5 : ((strB eval).toList == (strB fval).toList) = false := by rw [Q2.out]; exact decide_eq_false h5
              have g5 : (strB eval == strB fval) = false := by rw [← Bool.not_eq_true]; intro h; rw [ba_beq, decide_eq_true_iff] at h; rw [h] at b5; simp at b5
              clear h0 h1 h2 h3 h4 h5
              go_enter Tryz.func25, Tryz.ntmps25
              go_upto_region 1 with fail
              rw [HW.out]
              go_wp2_with fail
              go_ret
              exact ⟨rfl, HB.out⟩
          · have hd := HNO.out (fun h => h4 ((En.eq_iff _ _).1 h).2.2.2.2.1)
            subst hd
            have b4 : ((strB ekey).toList == (strB fkey).toList) = false := by rw [Q1.out]; exact decide_eq_false h4
            have g4 : (strB ekey == strB fkey) = false := by rw [← Bool.not_eq_true]; intro h; rw [ba_beq, decide_eq_true_iff] at h; rw [h] at b4; simp at b4
            clear h0 h1 h2 h3 h4
            go_enter Tryz.func25, Tryz.ntmps25
            go_upto_region 1 with fail
            rw [HW.out]
            go_wp2_with fail
            go_ret
            exact ⟨rfl, HB.out⟩
        · have hd := HNO.out (fun h => h3 ((En.eq_iff _ _).1 h).2.2.2.1)
          subst hd
          have b3 : (ewho == fwho) = false := by simpa using h3
          clear h0 h1 h2 h3
          go_enter Tryz.func25, Tryz.ntmps25
          go_upto_region 1 with fail
          rw [HW.out]
          go_wp2_with fail
          go_ret
          exact ⟨rfl, HB.out⟩
      · have hd := HNO.out (fun h => h2 ((En.eq_iff _ _).1 h).2.2.1)
        subst hd
        have b2 : (ekind == fkind) = false := by simpa using h2
        clear h0 h1 h2
        go_enter Tryz.func25, Tryz.ntmps25
        go_upto_region 1 with fail
        rw [HW.out]
        go_wp2_with fail
        go_ret
        exact ⟨rfl, HB.out⟩
    · have hd := HNO.out (fun h => h1 ((En.eq_iff _ _).1 h).2.1)
      subst hd
      have b1 : (eq == fq) = false := by simpa using h1
      clear h0 h1
      go_enter Tryz.func25, Tryz.ntmps25
      go_upto_region 1 with fail
      rw [HW.out]
      go_wp2_with fail
      go_ret
      exact ⟨rfl, HB.out⟩
  · have hd := HNO.out (fun h => h0 ((En.eq_iff _ _).1 h).1)
    subst hd
    have b0 : (es == fs) = false := by simpa using h0
    clear h0
    go_enter Tryz.func25, Tryz.ntmps25
    go_upto_region 1 with fail
    rw [HW.out]
    go_wp2_with fail
    go_ret
    exact ⟨rfl, HB.out⟩
end Go.Proofs.YtaknfmionkkdjaaGreat

namespace Go.Proofs.YtaknfmionkkdjaaGreat
open Go.RowKit
set_option linter.unusedVariables false
section
variable {W w wx : World} {b g k : Nat} {t e : TypeId} {old cs c : Array Value}
theorem only_row (w : World) (g : Nat) (cs : Array Value) : Only g w (w.setRow g cs) :=
  ⟨rfl, rfl, rfl, by simp, fun k hk hne => setRow_other w g k cs (by rintro rfl; exact hne rfl)⟩
theorem Blk.row (h : Blk w g t old) (cs : Array Value) : Blk (w.setRow g cs) g t cs := setRow_heap w g old cs t (0, 0) h
theorem Blk.row_other (h : Blk w k t c) (hne : k ≠ g) (cs : Array Value) : Blk (w.setRow g cs) k t c := (setRow_other w g k cs hne).trans h
theorem own_row_t {base size n : Nat} {v : Value} {xs : List Value} (h : w.ownsRow base e size v n xs) (hb : Blk w b t old) (hne : e ≠ t) : (w.setRow b cs).ownsRow base e size v n xs := by
  refine h.kept (only_row w b cs) ?_
  rcases h.2 with ⟨h1, _⟩ | ⟨g, cap, cur, h1, _, hh, _⟩
  · rw [h1]; exact .inl rfl
  · rw [h1]
    refine .inr ?_
    show some g ≠ some b
    intro h0
    injection h0 with h0
    subst h0
    have hb' : w.heap[g]? = some (.cells old t (0, 0)) := hb
    rw [hb'] at hh
    injection hh with hh
    injection hh with _ h3 _
    exact hne h3.symm
end
end Go.Proofs.YtaknfmionkkdjaaGreat

namespace Go.Proofs.YtaknfmionkkdjaaGreat
open Go.RowKit
set_option linter.unusedVariables false
theorem boxed (w : World) (Z R : Array Value) (T : TypeId) : ∃ g w2, w.heap.size = g ∧ (w.alloc (.cells Z T)).setRow g R = w2 ∧ Below w.heap.size w w2 ∧ Blk w2 g T R :=
  ⟨_, _, rfl, rfl, below_setRow ((Below.refl _ _).alloc (Nat.le_refl _) _) (Nat.le_refl _) _, (Blk.new _ _ _).row _⟩
theorem alloced (w : World) (R : Array Value) (T : TypeId) : ∃ g w2, w.heap.size = g ∧ w.alloc (.cells R T) = w2 ∧ Below w.heap.size w w2 ∧ Blk w2 g T R :=
  ⟨_, _, rfl, rfl, (Below.refl _ _).alloc (Nat.le_refl _) _, Blk.new _ _ _⟩
end Go.Proofs.YtaknfmionkkdjaaGreat

