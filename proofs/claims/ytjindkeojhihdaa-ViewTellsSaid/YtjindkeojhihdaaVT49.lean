/- ViewTellsWalk -/
import Derived.Test.YtjindkeojhihdaaVT06
import Derived.Test.YtjindkeojhihdaaVT07
import Derived.Test.YtjindkeojhihdaaVT09
import Derived.Test.YtjindkeojhihdaaVT10
import Derived.Test.YtjindkeojhihdaaVT15
import Derived.Test.YtjindkeojhihdaaVT23
import Derived.Test.YtjindkeojhihdaaVT25
import Derived.Test.YtjindkeojhihdaaVT26
import Derived.Test.YtjindkeojhihdaaVT27
import Derived.Test.YtjindkeojhihdaaVT30
import Derived.Test.YtjindkeojhihdaaVT31
import Derived.Test.YtjindkeojhihdaaVT33
import Derived.Test.YtjindkeojhihdaaVT34
import Derived.Test.YtjindkeojhihdaaVT35
import Derived.Test.YtjindkeojhihdaaVT37
import Derived.Test.YtjindkeojhihdaaVT38
import Derived.Test.YtjindkeojhihdaaVT39
import Derived.Test.YtjindkeojhihdaaVT47
import Derived.Test.YtjindkeojhihdaaVT48
import Derived.BigQuiet
import Derived.Deep.CutBlock
import Derived.Deep.DeepCutAuto
import Derived.Deep.DrawnRows
import Derived.Deep.Matrix
import Derived.Deep.QuietTactic
import Derived.Deep.RegionHeld3
import Derived.Deep.RegionLaw
import Derived.Deep.RegionWith
import Derived.WalkSmall
namespace Go.Proofs.Ytjindkeojhihdaa
open Go.RowKit
set_option linter.unusedVariables false
theorem wf_in {z : Int} (h : (Lit.int .i64 z).wf = true) : In64 z := by
  simp [Lit.wf] at h
  have e : IntKind.i64.min = -9223372036854775808 := by rfl
  have e2 : IntKind.i64.max = 9223372036854775807 := by rfl
  constructor <;> omega
theorem msgC_one (a : GA) (m : Mg) : ∀ u ∈ (msgC a m).toList, u.oneCell' = true := by
  intro u hu
  unfold msgC at hu
  simp only [List.mem_cons, List.not_mem_nil, or_false] at hu
  rcases hu with rfl | rfl | rfl | rfl | rfl | rfl | rfl | rfl | rfl | rfl | rfl | rfl | rfl | rfl | rfl | rfl | rfl | rfl | rfl | rfl | rfl | rfl | rfl | rfl <;> rfl
theorem msgC_all (a : GA) (m : Mg) : (msgC a m).all (·.oneCell') = true := Array.all_eq_true_iff_forall_mem.2 (fun v hv => msgC_one a m v (by simpa using hv))
theorem mgOf_lo (n m : Int) : Vw.lo ≤ (mgOf n m).inst := by
  have h0 : Vw.lo ≤ (0 : Int) := by decide
  have h1 : Vw.lo ≤ m % 256 := by unfold Vw.lo; omega
  unfold mgOf
  repeat' split
  all_goals first | exact h1 | exact h0
theorem msgC_ms (a : GA) (n m : Int) : Ms (msgC a (mgOf n m)).toList := ⟨rfl, msgC_one _ _, rfl, rfl, rfl, rfl, rfl, mgOf_lo n m⟩
theorem Ms.set4 {l : List Value} (h : Ms l) {v : Int} (hv : Vw.lo ≤ v) : Ms (l.set 4 (.int .i64 v)) := by
  obtain ⟨h1, h2, h3, h4, h5, h6, h7, h8⟩ := h
  obtain ⟨v0, v1, v2, v3, v4, v5, v6, v7, v8, v9, v10, v11, v12, v13, v14, v15, v16, v17, v18, v19, v20, v21, v22, v23, rfl⟩ := list24 h1
  refine ⟨rfl, fun u hu => ?_, h3, h4, rfl, h6, h7, hv⟩
  rcases List.mem_or_eq_of_mem_set hu with hu | rfl
  · exact h2 u hu
  · rfl
theorem Ms.set1 {l : List Value} (h : Ms l) (v : Int) : Ms (l.set 1 (.int .i64 v)) := by
  obtain ⟨h1, h2, h3, h4, h5, h6, h7, h8⟩ := h
  obtain ⟨v0, v1, v2, v3, v4, v5, v6, v7, v8, v9, v10, v11, v12, v13, v14, v15, v16, v17, v18, v19, v20, v21, v22, v23, rfl⟩ := list24 h1
  refine ⟨rfl, fun u hu => ?_, h3, rfl, h5, h6, h7, h8⟩
  rcases List.mem_or_eq_of_mem_set hu with hu | rfl
  · exact h2 u hu
  · rfl
/-- three rows, and where they stand -/
def TabR (w : World) (g : Nat) : Prop := ∀ p, p < 3 → ∃ A n c es, w.cell? ⟨g, p, none⟩ = some (.slice A n c) ∧ n ≤ 1000 ∧ RdV w w.heap.size A n es
theorem TabR.below {w w' : World} {g : Nat} (h : TabR w g) (hb : Below w.heap.size w w') : TabR w' g := fun p hp => by
  obtain ⟨A, n, c, es, h1, h2, h3⟩ := h p hp
  exact ⟨A, n, c, es, (hb.cell (p := ⟨g, p, none⟩) (World.block_lt_of_cell? _ _ h1)).trans h1, h2, (h3.below hb).fit⟩
def TabK (w : World) (g : Nat) : Prop := ∀ p, p < 4 → ∃ k, w.cell? ⟨g, p, none⟩ = some (.int .i64 k) ∧ In64 k
theorem TabK.below {w w' : World} {g : Nat} (h : TabK w g) (hb : Below w.heap.size w w') : TabK w' g := fun p hp => by
  obtain ⟨k, h1, h2⟩ := h p hp
  exact ⟨k, (hb.cell (p := ⟨g, p, none⟩) (World.block_lt_of_cell? _ _ h1)).trans h1, h2⟩
set_option maxRecDepth 100000 in
set_option maxHeartbeats 4000000 in
theorem viewTells_walk (a0 a1 a2 : Int) (a3 : Option Addr) (len3 cap3 : Nat) (e3 : List (List Value)) (a4 : Option Addr) (len4 cap4 : Nat) (z4 : List Int) (w : World) (w0 : (Lit.int .i64 a0).wf = true) (w1 : (Lit.int .i64 a1).wf = true) (w2 : (Lit.int .i64 a2).wf = true) (w3 : IsRowV w a3 len3 cap3 e3) (w4 : IsRow .i64 w a4 len4 cap4 z4) :
    Calls Try.prog 5 #[.int .i64 a0, .int .i64 a1, .int .i64 a2, .slice a3 len3 cap3, .slice a4 len4 cap4] w fun e w' => e = .returned (.bool true) ∧ Below w.heap.size w w' := by
  obtain ⟨h4, h4l, h4c, h4m⟩ := w4.ints
  obtain ⟨h3, h3c, h3m⟩ := w3
  have H3 := Lib.hid h3
  have H4 := Lib.hid h4
  have i0 := wf_in w0
  have i1 := wf_in w1
  have i2 := wf_in w2
  clear w0 w1 w2 h3 h4 w4
  go_enter Try.func5, Try.ntmps5
  by_cases hlong : 15 < len3
  · clear i0 i1 i2
    go_wp2_with (first
      | (go_at_call 9; refine (awake14 _).mono ?_; rintro e wd ⟨rfl, hb⟩)
      | fail)
    go_ret
    exact ⟨rfl, hb⟩
  · have hshort : len3 ≤ 15 := by omega
    go_wp2_with fail
    go_loopw [0, 1, 2, 11] (fun s0 s1 s2 s11 wr => ∃ (a b n : Int) (i : Nat), i ≤ 2 ∧ s11 = .int .i64 (i : Int) ∧ s0 = .int .i64 a ∧ s1 = .int .i64 b ∧ s2 = .int .i64 n ∧ Hid (In64 a ∧ In64 b ∧ In64 n) ∧ Hid (Below w.heap.size w wr)) (fun _ _ _ i _ => 2 - (intOf i).toNat)
    case atStart => exact ⟨a0, a1, a2, 0, by omega, rfl, rfl, rfl, rfl, Lib.hid ⟨i0, i1, i2⟩, Lib.hid (Below.refl _ _)⟩
    case round =>
      clear i0 i1 i2
      obtain ⟨a, b, n, i, hi, rfl, rfl, rfl, rfl, HI, HB⟩ := hrel
      by_cases hlt : i < 2
      · go_upto_region 6 with fail
        go_cut [81] from 31 to 81 (fun s81 wx => s81 = .bool false ∧ Hid (Below w.heap.size w wx))
        case first =>
          obtain ⟨ia, ib, inn⟩ := HI.out
          obtain ⟨x1, hx1⟩ : ∃ x, Vw.next a b = x := ⟨_, rfl⟩
          obtain ⟨x2, hx2⟩ : ∃ x, Vw.who a = x := ⟨_, rfl⟩
          obtain ⟨x3, hx3⟩ : ∃ x, Vw.mem a = x := ⟨_, rfl⟩
          obtain ⟨x4, hx4⟩ : ∃ x, Vw.most a n = x := ⟨_, rfl⟩
          obtain ⟨x5, hx5⟩ : ∃ x, Vw.after a b = x := ⟨_, rfl⟩
          obtain ⟨x6, hx6⟩ : ∃ x, Vw.limit b = x := ⟨_, rfl⟩
          have C1 := fun wx : World => next14 wx a b ia ib
          have D1 := fun wx : World => refNext_any wx a b ia ib
          have C2 := fun wx : World => who14 wx a ia
          have D2 := fun wx : World => refWho_any wx a ia
          have C3 := fun wx : World => members14 wx a ia
          have D3 := fun wx : World => refMembers_any (W := wx) (w := wx) a ia (Below.refl _ _)
          have C4 := fun wx : World => most14' wx a n ia inn
          have D4 := fun wx : World => refMost_any wx a n ia inn
          have C5 := fun wx : World => after14 wx a b ia ib
          have D5 := fun wx : World => refAfter_any wx a b ia ib
          have C6 := fun wx : World => limit14 wx b ib
          have D6 := fun wx : World => refLimit_any wx b ib
          have hl3 : x3.length ≤ 7 := by rw [← hx3, Vw.mem_len]; exact Vw.members_len a
          rw [hx1] at C1 D1
          rw [hx2] at C2 D2
          rw [hx3] at C3 D3
          rw [hx4] at C4 D4
          rw [hx5] at C5 D5
          rw [hx6] at C6 D6
          have HL3 := Lib.hid hl3
          clear hx1 hx2 hx3 hx4 hx5 hx6 hlt hi hl3 HI ia ib inn
          go_wp2_with (first
            | (go_at_call 13; refine (C1 _).mono ?_; rintro e w1 ⟨rfl, hb⟩; replace HB := Lib.hid (HB.out.trans (hb.mono HB.out.size)); clear hb)
            | (go_at_call 14; refine (D1 _).mono ?_; rintro e w1 ⟨rfl, rfl⟩)
            | (go_at_call 15; refine (C2 _).mono ?_; rintro e w1 ⟨rfl, hb⟩; replace HB := Lib.hid (HB.out.trans (hb.mono HB.out.size)); clear hb)
            | (go_at_call 16; refine (D2 _).mono ?_; rintro e w1 ⟨rfl, rfl⟩)
            | (go_at_call 10; refine (C3 _).mono ?_; rintro e w1 ⟨A1, c1, rfl, ho, _, hb⟩; replace HB := Lib.hid (HB.out.trans (hb.mono HB.out.size)); have HM1 := Lib.hid (Rd.own_ ho); clear hb ho)
            | (go_at_call 18; refine (D3 _).mono ?_; rintro e w1 ⟨A2, c2, rfl, ho, _, hb⟩; replace HB := Lib.hid (HB.out.trans (hb.mono HB.out.size)); replace HM1 := Lib.hid (HM1.out.below hb); have HM2 := Lib.hid (Rd.own_ ho); clear hb ho)
            | (go_at_call 17; refine (same_any _ A1 A2 _ c1 _ c2 _ _ x3 x3 HM1.out HM2.out (by have := HL3.out; unfold maxLen; omega) (by have := HL3.out; unfold maxLen; omega)).mono ?_; rw [decide_eq_true (rfl : x3 = x3)]; rintro e w1 ⟨rfl, kq, rfl⟩; replace HB := Lib.hid (HB.out.trans (belowQ _ _ kq)); clear HM1 HM2)
            | (go_at_call 11; refine (C4 _).mono ?_; rintro e w1 ⟨rfl, hb⟩; replace HB := Lib.hid (HB.out.trans (hb.mono HB.out.size)); clear hb)
            | (go_at_call 19; refine (D4 _).mono ?_; rintro e w1 ⟨rfl, hb⟩; replace HB := Lib.hid (HB.out.trans (hb.mono HB.out.size)); clear hb)
            | (go_at_call 20; refine (C5 _).mono ?_; rintro e w1 ⟨rfl, hb⟩; replace HB := Lib.hid (HB.out.trans (hb.mono HB.out.size)); clear hb)
            | (go_at_call 21; refine (D5 _).mono ?_; rintro e w1 ⟨rfl, hb⟩; replace HB := Lib.hid (HB.out.trans (hb.mono HB.out.size)); clear hb)
            | (go_at_call 12; refine (C6 _).mono ?_; rintro e w1 ⟨rfl, hb⟩; replace HB := Lib.hid (HB.out.trans (hb.mono HB.out.size)); clear hb)
            | (go_at_call 22; refine (D6 _).mono ?_; rintro e w1 ⟨rfl, rfl⟩)
            | fail)
          go_meet
          exact ⟨rfl, HB⟩
        case rest =>
          obtain ⟨rfl, HB⟩ := hcut
          rename World => wx
          have ha := and_127 a
          have hbb := and_7 b
          have hnn := and_7 n
          go_wp2_with fail
          go_roundw
          case rel => exact ⟨a % 128, b % 8, n % 8 + 1, i + 1, by omega, by go_num, rfl, rfl, rfl, Lib.hid ⟨⟨by omega, by omega⟩, ⟨by omega, by omega⟩, ⟨by omega, by omega⟩⟩, HB⟩
          case measure => simp [intOf]; omega
      · have inn := HI.out.2.2
        clear HI
        go_upto_region 11 with fail
        have HB0 := HB
        go_loopw [12, 13] (fun s12 s13 wx => ∃ (j : Nat) (A : Option Addr) (c : Nat) (es : List (List Value)), j ≤ 9 ∧ j ≤ len4 ∧ s13 = .int .i64 (j : Int) ∧ s12 = .slice A j c ∧ Hid (es.length = j) ∧ Hid (∀ cs ∈ es, Ms cs) ∧ Hid (OwnV w wx A j c es) ∧ Hid (Below w.heap.size w wx)) (fun _ s _ => 9 - (intOf s).toNat)
        case atStart => exact ⟨0, none, 0, [], by omega, by omega, rfl, rfl, Lib.hid rfl, Lib.hid (fun cs hc => (by cases hc)), Lib.hid (OwnV.nil _ _), HB⟩
        case round =>
          clear HB HB0
          obtain ⟨j, A, c, es, hj9, hj4, rfl, rfl, HE, HM, HO, HB⟩ := hrel
          by_cases hin : j < len4 ∧ j < 9
          · obtain ⟨hin1, hin2⟩ := hin
            have HR4 := H4.out.below HB.out
            obtain ⟨z, hz⟩ : ∃ z, (z4.take len4)[j]? = some z := ⟨_, List.getElem?_eq_getElem (by omega)⟩
            obtain ⟨b4, o4, rfl, _⟩ := HR4.int_at hin1
            have hc := HR4.int_cell hin1 hz
            clear HR4 hz
            go_upto_region 13 with fail
            go_cut [14] from 89 to 110 (fun s14 wx => ∃ g cs, s14 = .pointer (some ⟨g, 0, none⟩) ∧ Hid (Blk wx g 29 cs) ∧ Hid (Ms cs.toList) ∧ Hid (wr.heap.size ≤ g) ∧ Hid (Below wr.heap.size wr wx))
            case first =>
              have hb4l : b4 < wr.heap.size := World.block_lt_of_cell? _ _ hc
              have hS0 : Below wr.heap.size wr wr.drew := (Below.refl _ _).drew
              refine wp_region_held_drew (S := fun w' => Below wr.heap.size wr w') (by kernel_rfl) hS0 (fun _ => ?_)
              have hS := Lib.hid hS0
              clear hS0
              generalize wr.drew = wd at hS ⊢
              refine wpAnyH_take (i := 0) (v := .slice (some ⟨b4, o4, none⟩) len4 cap4) rfl (by kernel_rfl) (by kernel_rfl) (by kernel_rfl) (fun _ _ _ h => h) (Or.inl ⟨by kernel_rfl, fun w _ => by go_simp⟩) hS.out ?_
              refine wpAnyH_take (i := 1) (v := .int .i64 (j : Int)) rfl (by kernel_rfl) (by kernel_rfl) (by kernel_rfl) (fun _ _ _ h => h) (Or.inl ⟨by kernel_rfl, fun w _ => by go_simp⟩) hS.out ?_
              refine wpAnyH_take (i := 2) (v := .pointer (some ⟨b4, o4 + j, none⟩)) rfl (by kernel_rfl) (by kernel_rfl) (by kernel_rfl) (fun _ _ _ h => h) (Or.inl ⟨by kernel_rfl, fun w _ => by go_simp⟩) hS.out ?_
              refine wpAnyH_take (i := 3) (v := .int .i64 z) rfl (by kernel_rfl) (by kernel_rfl) (by kernel_rfl) (fun _ _ _ h => h) (Or.inl ⟨by kernel_rfl, fun w hw => by have hq := (hw.cell (p := ⟨b4, o4 + j, none⟩) hb4l).trans hc; go_simp⟩) hS.out ?_
              refine wpAnyH_take (i := 4) (v := .int .i64 (bits .andNot .i64 z 7)) rfl (by kernel_rfl) (by kernel_rfl) (by kernel_rfl) (fun _ _ _ h => h) (Or.inl ⟨by kernel_rfl, fun w _ => by go_simp⟩) hS.out ?_
              refine wpAnyH_take (i := 5) (v := .int .i64 (bits .or .i64 (bits .andNot .i64 z 7) 1)) rfl (by kernel_rfl) (by kernel_rfl) (by kernel_rfl) (fun _ _ _ h => h) (Or.inl ⟨by kernel_rfl, fun w _ => by go_simp⟩) hS.out ?_
              refine wpAnyH_take (i := 6) (v := .slice (some ⟨b4, o4, none⟩) len4 cap4) rfl (by kernel_rfl) (by kernel_rfl) (by kernel_rfl) (fun _ _ _ h => h) (Or.inl ⟨by kernel_rfl, fun w _ => by go_simp⟩) hS.out ?_
              refine wpAnyH_take (i := 7) (v := .int .i64 (j : Int)) rfl (by kernel_rfl) (by kernel_rfl) (by kernel_rfl) (fun _ _ _ h => h) (Or.inl ⟨by kernel_rfl, fun w _ => by go_simp⟩) hS.out ?_
              refine wpAnyH_take (i := 8) (v := .pointer (some ⟨b4, o4 + j, none⟩)) rfl (by kernel_rfl) (by kernel_rfl) (by kernel_rfl) (fun _ _ _ h => h) (Or.inl ⟨by kernel_rfl, fun w _ => by go_simp⟩) hS.out ?_
              refine wpAnyH_take (i := 9) (v := .int .i64 z) rfl (by kernel_rfl) (by kernel_rfl) (by kernel_rfl) (fun _ _ _ h => h) (Or.inl ⟨by kernel_rfl, fun w hw => by have hq := (hw.cell (p := ⟨b4, o4 + j, none⟩) hb4l).trans hc; go_simp⟩) hS.out ?_
              refine wpAnyH_take (i := 10) (v := .int .i64 (z / 16)) rfl (by kernel_rfl) (by kernel_rfl) (by kernel_rfl) (fun _ _ _ h => h) (Or.inl ⟨by kernel_rfl, fun w _ => by go_simp⟩) hS.out ?_
              refine wpAnyH_ready (rs := [11, 12]) (by kernel_rfl) (by simp) ?_
              refine AllReadyH.cons rfl (fun K hK => ?_) (AllReadyH.cons rfl (fun K hK => ?_) AllReadyH.nil)
              · go_simp
                refine (msg_any _ _ _).mono ?_
                rintro e w1 ⟨aG, rfl, _, hb⟩
                have hS := Lib.hid (hS.out.trans (hb.mono hS.out.size))
                go_simp
                refine hK.out _ _ hS.out (fun _ => ?_)
                clear hK K
                clear hb
                refine wpAnyH_ready (rs := [12]) (by kernel_rfl) (by simp) ?_
                refine AllReadyH.cons rfl (fun K hK => ?_) AllReadyH.nil
                go_simp
                refine hK.out _ _ (hS.out.alloc hS.out.size _) (fun _ => ?_)
                clear hK K
                obtain ⟨gn, w2, hg, hw, hkn, hbn⟩ : ∃ gn w2, w1.heap.size = gn ∧ w1.alloc (.cells #[.int .i64 0, .int .i64 0, .int .i64 0, .int .i64 0, .int .i64 0, .int .i64 0, .bool false, .int .i64 0, .int .i64 0, .int .i64 0, .int .i64 0, .slice none 0 0, .int .i64 0, .int .i64 0, .slice none 0 0, .slice none 0 0, .int .i64 0, .int .i64 0, .int .i64 0, .int .i64 0, .int .i64 0, .slice none 0 0, .slice none 0 0, .slice none 0 0] 29) = w2 ∧ Blk w2 gn 29 mz ∧ Below w1.heap.size w1 w2 := ⟨_, _, rfl, rfl, Blk.new _ _ _, (Below.refl _ _).alloc (Nat.le_refl _) _⟩
                have hgn : wr.heap.size ≤ gn := by rw [← hg]; exact hS.out.size
                have hS := Lib.hid (hS.out.trans (hbn.mono hS.out.size))
                rw [hg, hw]
                clear hg hw hbn
                refine wpAnyH_ready (rs := [13]) (by kernel_rfl) (by simp) ?_
                refine AllReadyH.cons rfl (fun K hK => ?_) AllReadyH.nil
                rw [if_pos (by kernel_rfl)]
                refine wp_store_row 29 (.tmp 14) (.tmp 110) rfl gn (msgC aG _) rfl rfl 29 mz hkn (by kernel_rfl) rfl (msgC_all _ _) ?_
                refine hK.out _ _ (below_setRow hS.out hgn _) (fun _ => ?_)
                clear hK K
                refine wpAnyH_done (by kernel_rfl) ?_ _
                have hk2 := hkn.put_ (msgC aG (mgOf (bits .or .i64 (bits .andNot .i64 z 7) 1) (z / 16)))
                have hS2 := below_setRow hS.out hgn (msgC aG (mgOf (bits .or .i64 (bits .andNot .i64 z 7) 1) (z / 16)))
                generalize w2.setRow gn _ = wz at hk2 hS2 ⊢
                have HK2 := Lib.hid hk2
                have HS2 := Lib.hid hS2
                clear hk2 hS2 hkn
                go_wp2_with fail
                go_meet
                exact ⟨gn, _, rfl, HK2, Lib.hid (msgC_ms aG _ _), Lib.hid hgn, HS2⟩
              · go_simp
                refine hK.out _ _ (hS.out.alloc hS.out.size _) (fun _ => ?_)
                clear hK K
                obtain ⟨gn, w2, hg, hw, hkn, hbn⟩ : ∃ gn w2, wd.heap.size = gn ∧ wd.alloc (.cells #[.int .i64 0, .int .i64 0, .int .i64 0, .int .i64 0, .int .i64 0, .int .i64 0, .bool false, .int .i64 0, .int .i64 0, .int .i64 0, .int .i64 0, .slice none 0 0, .int .i64 0, .int .i64 0, .slice none 0 0, .slice none 0 0, .int .i64 0, .int .i64 0, .int .i64 0, .int .i64 0, .int .i64 0, .slice none 0 0, .slice none 0 0, .slice none 0 0] 29) = w2 ∧ Blk w2 gn 29 mz ∧ Below wd.heap.size wd w2 := ⟨_, _, rfl, rfl, Blk.new _ _ _, (Below.refl _ _).alloc (Nat.le_refl _) _⟩
                have hgn : wr.heap.size ≤ gn := by rw [← hg]; exact hS.out.size
                have hS := Lib.hid (hS.out.trans (hbn.mono hS.out.size))
                rw [hg, hw]
                clear hg hw hbn
                refine wpAnyH_ready (rs := [11]) (by kernel_rfl) (by simp) ?_
                refine AllReadyH.cons rfl (fun K hK => ?_) AllReadyH.nil
                go_simp
                refine (msg_any _ _ _).mono ?_
                rintro e w3 ⟨aG, rfl, _, hb⟩
                have hS := Lib.hid (hS.out.trans (hb.mono hS.out.size))
                have hkn := hkn.below hb
                clear hb
                go_simp
                refine hK.out _ _ hS.out (fun _ => ?_)
                clear hK K
                refine wpAnyH_ready (rs := [13]) (by kernel_rfl) (by simp) ?_
                refine AllReadyH.cons rfl (fun K hK => ?_) AllReadyH.nil
                rw [if_pos (by kernel_rfl)]
                refine wp_store_row 29 (.tmp 14) (.tmp 110) rfl gn (msgC aG _) rfl rfl 29 mz hkn (by kernel_rfl) rfl (msgC_all _ _) ?_
                refine hK.out _ _ (below_setRow hS.out hgn _) (fun _ => ?_)
                clear hK K
                refine wpAnyH_done (by kernel_rfl) ?_ _
                have hk2 := hkn.put_ (msgC aG (mgOf (bits .or .i64 (bits .andNot .i64 z 7) 1) (z / 16)))
                have hS2 := below_setRow hS.out hgn (msgC aG (mgOf (bits .or .i64 (bits .andNot .i64 z 7) 1) (z / 16)))
                generalize w3.setRow gn _ = wz at hk2 hS2 ⊢
                have HK2 := Lib.hid hk2
                have HS2 := Lib.hid hS2
                clear hk2 hS2 hkn
                go_wp2_with fail
                go_meet
                exact ⟨gn, _, rfl, HK2, Lib.hid (msgC_ms aG _ _), Lib.hid hgn, HS2⟩
            case rest =>
              obtain ⟨g, cs, rfl, HK, HMS, HG, HBx⟩ := hcut
              rename World => wx
              obtain ⟨l, rfl⟩ : ∃ l : List Value, cs = l.toArray := ⟨cs.toList, by simp⟩
              have HBW := Lib.hid (HB.out.trans (HBx.out.mono HB.out.size))
              have HOR := Lib.hid HO.out
              have HBR := Lib.hid HBx.out
              have HGR := Lib.hid HG.out
              have hb4 : b4 < wr.heap.size := World.block_lt_of_cell? _ _ hc
              have hcx := (HBx.out.cell (p := ⟨b4, o4 + j, none⟩) hb4).trans hc
              have hg := HG.out
              have hne : b4 ≠ g := by omega
              have hgw : w.heap.size ≤ g := Nat.le_trans HB.out.size hg
              have HGW := Lib.hid hgw
              have HMS : Hid (Ms l) := Lib.hid (by have := HMS.out; simpa using this)
              obtain ⟨_, c1, c4, _, _⟩ := HK.out.sv HMS.out
              have f1 := HK.out.frozen 1
              have f4 := HK.out.frozen 4
              obtain ⟨iv0, hiv⟩ : ∃ x, (svOf l).inst = x := ⟨_, rfl⟩
              obtain ⟨fv0, hfv⟩ : ∃ x, (svOf l).frm = x := ⟨_, rfl⟩
              rw [hiv] at c4
              rw [hfv] at c1
              have a3_ := and_3 iv0
              have a7_ := and_7 (z / 4096)
              clear hc HO HB HBx hb4 hg hiv hfv hgw
              go_upto_region 16 with fail
              obtain ⟨v4, hv4⟩ : ∃ x, iv0 % 4 * 8 = x := ⟨_, rfl⟩
              obtain ⟨v1, hv1⟩ : ∃ x, z / 4096 % 8 = x := ⟨_, rfl⟩
              have hlo : Vw.lo ≤ v4 := by unfold Vw.lo; omega
              rw [hv4, hv1]
              obtain ⟨l2, hl2⟩ : ∃ x, (l.set 4 (.int .i64 v4)).set 1 (.int .i64 v1) = x := ⟨_, rfl⟩
              have hms2 : Ms l2 := by rw [← hl2]; exact (HMS.out.set4 hlo).set1 v1
              have hk2 : Blk ((wx.setCell ⟨g, 4, none⟩ (.int .i64 v4)).setCell ⟨g, 1, none⟩ (.int .i64 v1)) g 29 l2.toArray := by
                have := (HK.out.set_ 4 (.int .i64 v4)).set_ 1 (.int .i64 v1)
                rw [← hl2]
                simpa using this
              have hgw := HGW.out
              have hb2 : Below w.heap.size w ((wx.setCell ⟨g, 4, none⟩ (.int .i64 v4)).setCell ⟨g, 1, none⟩ (.int .i64 v1)) := (HBW.out.setCell hgw _).setCell hgw _
              have hox : OwnV w ((wx.setCell ⟨g, 4, none⟩ (.int .i64 v4)).setCell ⟨g, 1, none⟩ (.int .i64 v1)) A j c es := by
                have hb5 : Below wr.heap.size wr ((wx.setCell ⟨g, 4, none⟩ (.int .i64 v4)).setCell ⟨g, 1, none⟩ (.int .i64 v1)) := (HBR.out.setCell HGR.out _).setCell HGR.out _
                exact HOR.out.below hb5
              generalize (wx.setCell ⟨g, 4, none⟩ (.int .i64 v4)).setCell ⟨g, 1, none⟩ (.int .i64 v1) = w5 at hk2 hb2 hox ⊢
              have HK5 := Lib.hid hk2
              have HB5 := Lib.hid hb2
              have HO5 := Lib.hid hox
              have HM2 := Lib.hid hms2
              have hCs := fun wz : World => oneM wz HM2.out.len
              unfold mz at hCs
              have hj1 : j + 1 ≤ 9 := by omega
              clear hk2 hb2 hox hms2 hl2 hv4 hv1 hlo hcx c1 c4 f1 f4 hne a3_ a7_ HK hgw
              go_wp2_with (first
                | (refine wpList_load_row rfl 29 (.tmp 14) rfl g rfl 29 l2.toArray (0, 0) _ HK5.out Try.underlying29 rfl (by rw [List.size_toArray, HM2.out.len]; kernel_rfl) ?_)
                | (at_builtin
                   refine wpList_append_V (W := w) msgS14 (.tmp 123) (.tmp 125) rfl (by rfl) rfl (HO5.out.below ((Below.refl _ _).alloc (Nat.le_refl _) _)) rfl (B := w5.heap.size + 1) (ws := l2) (hCs w5) HM2.out.one rfl (by omega) (by decide) (HB5.out.alloc HB5.out.size _) ?_
                   intro A1 c1 w6 hown1 hB1 hg1)
                | fail)
              any_goals (exfalso; have hl24 := HM2.out.len; omega)
              go_roundw
              case rel =>
                refine ⟨j + 1, A1, c1, es ++ [l2], by omega, by omega, by go_num, rfl, Lib.hid (by rw [List.length_append, HE.out]; rfl), Lib.hid (fun d hd => ?_), Lib.hid ?_, Lib.hid hB1⟩
                · rw [List.mem_append] at hd
                  rcases hd with hd | hd
                  · exact HM.out d hd
                  · simp at hd; subst hd; exact HM2.out
                · unfold OwnV
                  simpa using hown1
              case measure => simp [intOf]; omega
          · go_upto_region 11 with fail
            go_cut [96] from 89 to 96 (fun s96 wx => s96 = .bool false ∧ wx = wr)
            case first =>
              rcases (show ¬ j < len4 ∨ j < len4 ∧ ¬ j < 9 by omega) with h1 | ⟨h1, h2⟩
              all_goals
                clear hin
                go_wp2_with fail
                go_meet
                first | exact ⟨rfl, rfl⟩ | exact ⟨by rw [decide_eq_false (by omega)], rfl⟩
            case rest =>
              obtain ⟨rfl, rfl⟩ := hcut
              rename World => wr
              have h0 : (wr.alloc (.cells #[] 29)).ownsRow wr.heap.size 29 24 (.slice (some ⟨wr.heap.size, 0, none⟩) 0 0) 0 [] := ⟨rfl, .inr ⟨_, 0, #[], rfl, Nat.le_refl _, Blk.new _ _ _, by omega, by decide, rfl, rfl⟩⟩
              have hb0 : Below wr.heap.size wr (wr.alloc (.cells #[] 29)) := (Below.refl _ _).alloc (Nat.le_refl _) _
              have H0 := Lib.hid h0
              have HONE : Hid (∀ u ∈ es.flatten, u.oneCell' = true) := Lib.hid (fun u hu => by obtain ⟨l, hl, hul⟩ := List.mem_flatten.1 hu; exact (HM.out l hl).one u hul)
              have HONE3 : Hid (∀ u ∈ e3.flatten, u.oneCell' = true) := Lib.hid (fun u hu => by obtain ⟨l, hl, hul⟩ := List.mem_flatten.1 hu; exact (H3.out.ms l hl).one u hul)
              have H3r := Lib.hid (H3.out.below HB.out).fit
              have HOr : Hid (RdV wr wr.heap.size A j es) := Lib.hid (by have h := HO.out; rw [← HE.out] at h ⊢; exact h.rd HM.out)
              have HBA0 := Lib.hid hb0
              clear h0 hb0
              go_upto_region 18 with (first
                | (at_builtin
                   refine wpList_append_V (W := wr) msgS14 (.tmp 129) (.tmp 130) rfl (by rfl) rfl H0.out rfl (ws := es.flatten) (HOr.out.rd.below HBA0.out) HONE.out (N := j) (by omega) (by omega) (by decide) HBA0.out ?_
                   intro A6 c6 w6 hown6 hB6 hg6)
                | (at_builtin
                   refine wpList_append_V (W := wr) msgS14 (.tmp 131) (.tmp 132) rfl (by rfl) rfl hown6 rfl (ws := e3.flatten) (H3r.out.rd.below hB6) HONE3.out (N := j + len3) rfl (by omega) (by decide) hB6 ?_
                   intro A7 c7 w7 hown7 hB7 hg7)
                | fail)
              have hr7 : RdV w7 w7.heap.size A7 (j + len3) (es ++ e3) := ⟨by rw [List.length_append, HE.out, H3.out.len], by rw [List.flatten_append]; have := Rd.ownS hown7 (by decide); rwa [List.nil_append] at this, fun d hd => by
                rw [List.mem_append] at hd
                rcases hd with hd | hd
                · exact HM.out d hd
                · exact H3.out.ms d hd⟩
              obtain ⟨gt, w8, hg8, hw8, hk8, hb8⟩ : ∃ gt w8, w7.heap.size = gt ∧ w7.alloc (.cells #[.slice a3 len3 cap3, .slice A j c, .slice A7 (j + len3) c7] 31) = w8 ∧ Blk w8 gt 31 #[.slice a3 len3 cap3, .slice A j c, .slice A7 (j + len3) c7] ∧ Below w7.heap.size w7 w8 := ⟨_, _, rfl, rfl, Blk.new _ _ _, (Below.refl _ _).alloc (Nat.le_refl _) _⟩
              rw [hg8, hw8]
              have hb78 : Below wr.heap.size wr w8 := hB7.trans (hb8.mono hB7.size)
              have HT : Hid (TabR w8 gt) := Lib.hid (fun p hp => by
                rcases (show p = 0 ∨ p = 1 ∨ p = 2 by omega) with rfl | rfl | rfl
                · exact ⟨_, _, _, e3, hk8.cell 0, by omega, (H3r.out.below hb78).fit⟩
                · exact ⟨_, _, _, es, hk8.cell 1, by omega, (HOr.out.below hb78).fit⟩
                · exact ⟨_, _, _, es ++ e3, hk8.cell 2, by omega, (hr7.below hb8).fit⟩)
              have HB8 := Lib.hid (HB.out.trans (hb78.mono HB.out.size))
              clear hr7 hg8 hw8 hk8 hb8 hb78 hown6 hown7 hB6 hB7 hg6 hg7 H0 HONE HONE3 H3r HOr HBA0 HB HO HM HE
              have HN := Lib.hid inn
              go_loopw [136] (fun s136 wx => ∃ p : Nat, p ≤ 3 ∧ s136 = .int .i64 (p : Int) ∧ Hid (TabR wx gt) ∧ Hid (Below w.heap.size w wx)) (fun s _ => 3 - (intOf s).toNat)
              case atStart => exact ⟨0, by omega, rfl, HT, HB8⟩
              case round =>
                clear HT HB8
                obtain ⟨p, hp, rfl, HT, HB⟩ := hrel
                by_cases hp3 : p < 3
                · obtain ⟨AX, nX, cX, eX, hcell, hnX, hrX⟩ := HT.out p hp3
                  have HRX := Lib.hid hrX
                  clear hrX
                  go_upto_region 21 with fail
                  obtain ⟨g4, w9, hg9, hw9, hk9, hb9⟩ : ∃ g4 w9, wr.heap.size = g4 ∧ wr.alloc (.cells #[.int .i64 n, .int .i64 3, .int .i64 5, .int .i64 7] 3) = w9 ∧ Blk w9 g4 3 #[.int .i64 n, .int .i64 3, .int .i64 5, .int .i64 7] ∧ Below wr.heap.size wr w9 := ⟨_, _, rfl, rfl, Blk.new _ _ _, (Below.refl _ _).alloc (Nat.le_refl _) _⟩
                  rw [hg9, hw9]
                  have HKK : Hid (TabK w9 g4) := Lib.hid (fun p hp => by
                    rcases (show p = 0 ∨ p = 1 ∨ p = 2 ∨ p = 3 by omega) with rfl | rfl | rfl | rfl
                    · exact ⟨_, hk9.cell 0, HN.out⟩
                    · exact ⟨_, hk9.cell 1, by decide, by decide⟩
                    · exact ⟨_, hk9.cell 2, by decide, by decide⟩
                    · exact ⟨_, hk9.cell 3, by decide, by decide⟩)
                  have HT9 := Lib.hid (HT.out.below hb9)
                  have HB9 := Lib.hid (HB.out.trans (hb9.mono HB.out.size))
                  have HRX9 := Lib.hid (HRX.out.below hb9).fit
                  have HP3 := Lib.hid hp3
                  rename ((p : Int) < 3) => hpp
                  clear hg9 hw9 hk9 hb9 hcell HRX HT HB hp3 hpp
                  go_loopw [143] (fun s143 wx => ∃ q : Nat, q ≤ 4 ∧ s143 = .int .i64 (q : Int) ∧ Hid (TabK wx g4) ∧ Hid (TabR wx gt) ∧ Hid (RdV wx wx.heap.size AX nX eX) ∧ Hid (Below w.heap.size w wx)) (fun s _ => 4 - (intOf s).toNat)
                  case atStart => exact ⟨0, by omega, rfl, HKK, HT9, HRX9, HB9⟩
                  case round =>
                    clear HKK HT9 HRX9 HB9
                    obtain ⟨q, hq, rfl, HKK, HT, HRX, HB⟩ := hrel
                    by_cases hq4 : q < 4
                    · obtain ⟨kk, hck, hki⟩ := HKK.out q hq4
                      have HKI := Lib.hid hki
                      obtain ⟨rr, hrr⟩ : ∃ r, Vw.choose (eX.map svOf) kk = r := ⟨_, rfl⟩
                      have HRR := Lib.hid hrr
                      clear hki hrr
                      rcases rr with ⟨rx, ry, rz, rb⟩
                      go_wp2_with (first
                        | (go_at_call 8; refine (choose14 kk HRR.out HKI.out hnX HRX.out).mono ?_; unfold chV; simp only []; rintro e w10 ⟨rfl, hb⟩
                           have HKK1 := Lib.hid (HKK.out.below hb)
                           have HT1 := Lib.hid (HT.out.below hb)
                           have HRX1 := Lib.hid (HRX.out.below hb).fit
                           have HB1 := Lib.hid (HB.out.trans (hb.mono HB.out.size))
                           clear hb)
                        | (go_at_call 24; refine (refChoose_any kk HRR.out HKI.out hnX HRX1.out).mono ?_; unfold chV; simp only []; rintro e w11 ⟨rfl, hb⟩
                           have HKK2 := Lib.hid (HKK1.out.below hb)
                           have HT2 := Lib.hid (HT1.out.below hb)
                           have HRX2 := Lib.hid (HRX1.out.below hb).fit
                           have HB2 := Lib.hid (HB1.out.trans (hb.mono HB1.out.size))
                           clear hb)
                        | fail)
                      go_roundw
                      case rel => exact ⟨q + 1, by omega, by go_num, HKK2, HT2, HRX2, HB2⟩
                      case measure => simp [intOf]; omega
                    · go_wp2_with fail
                      go_roundw
                      case rel => exact ⟨p + 1, by have := HP3.out; omega, by go_num, HT, HB⟩
                      case measure => have := HP3.out; simp [intOf]; omega
                · go_wp2_with (first
                    | (go_at_call 9; refine (awake14 _).mono ?_; rintro e wd ⟨rfl, hb⟩
                       have HBd := Lib.hid (HB.out.trans (hb.mono HB.out.size))
                       clear hb)
                    | fail)
                  go_ret
                  exact ⟨rfl, HBd.out⟩
end Go.Proofs.Ytjindkeojhihdaa

