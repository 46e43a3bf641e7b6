/- BookWin3 BookKit -/
import Derived.Test.YtaknfmionkkdjaaFM37
import Derived.Test.YtaknfmionkkdjaaFM39
namespace Go.Proofs.Ytaknfmionkkdjaa
open Go.RowKit
set_option linter.unusedVariables false
set_option maxRecDepth 100000 in
set_option maxHeartbeats 2000000 in
theorem winPut_no (w : World) {b fr wh n c : Nat} {A : Option Addr} {ss : List (Option VE)} (h : WinE w b fr wh A n c ss) (hwh : FitB wh) (i : Int) (ca : CA) (e : En) (hi : i ≤ fr ∨ (wh : Int) + 64 < i ∨ Wd.hasB fr ss i = true) :
    Calls Try.prog 20 #[.pointer (some ⟨b, 0, none⟩), .int .i64 i, .agg (entC ca e)] w fun e w' => e = .returned (.bool false) ∧ Below w.heap.size w w' := by
  have hw := hwh.out
  have hww : (wh : Int) ≤ 2000000000000 := by omega
  have HW0 := Lib.hid h
  clear h hw hwh
  go_enter Try.func20, Try.ntmps20
  go_upto_region 1 with fail
  obtain ⟨g5, w1, hgE, hwE, hbE, hkE⟩ := alloced w (entC ca e) 30
  rw [hgE, hwE]
  have HBE := Lib.hid hbE
  have HW := Lib.hid (HW0.out.below hbE)
  clear hgE hwE hbE hkE HW0
  have HC := Lib.hid (winHas w1 HW.out i)
  have hc0 := HW.out.blk.cell 0
  have hc1 := HW.out.blk.cell 1
  simp at hc0 hc1
  by_cases ha : i ≤ fr
  · have hd : decide (i ≤ (fr : Int)) = true := by simpa using ha
    clear hi ha
    go_wp2
    go_ret
    exact ⟨rfl, HBE.out⟩
  · have hd : decide (i ≤ (fr : Int)) = false := by simpa using ha
    by_cases hb : (wh : Int) + 64 < i
    · have hd2 : decide ((wh : Int) + 64 < i) = true := by simpa using hb
      clear hi ha hb
      go_wp2
      go_ret
      exact ⟨rfl, HBE.out⟩
    · have hd2 : decide ((wh : Int) + 64 < i) = false := by simpa using hb
      have hh : Wd.hasB fr ss i = true := by
        rcases hi with hi | hi | hi
        · exact absurd hi ha
        · exact absurd hi hb
        · exact hi
      rw [hh] at HC
      clear hi ha hb hh
      go_wp2_with fail
      refine HC.out.mono ?_
      rintro en w2 ⟨rfl, m, hm⟩
      have hB1 : Below w1.heap.size w1 w2 := by rw [hm]; exact below_drewN (Below.refl _ _) m
      clear hm
      go_wp2
      go_ret
      exact ⟨rfl, HBE.out.trans (hB1.mono HBE.out.size)⟩
set_option maxRecDepth 100000 in
set_option maxHeartbeats 4000000 in
theorem winPut (w : World) {b fr wh n c : Nat} {A : Option Addr} {ss : List (Option VE)} (h : WinE w b fr wh A n c ss) (hwh : wh = fr + Wd.lead ss) (k : Nat) {ca : CA} {e : En} (hrc : RdC9 w ca e.c) (hk : fr + 1 + k ≤ wh + 64) (hno : ss[k]?.join = none) (hfit : FitB (fr + k + 1)) (hk4 : k + 1 ≤ 1000000) (hn4 : n ≤ 1000000) :
    Calls Try.prog 20 #[.pointer (some ⟨b, 0, none⟩), .int .i64 ((fr : Int) + 1 + (k : Int)), .agg (entC ca e)] w fun en w' => ∃ A' n' c', en = .returned (.bool true) ∧ WinE w' b fr (fr + Wd.lead (Wd.laid ss k (ca, e))) A' n' c' (Wd.laid ss k (ca, e)) ∧ Adv (winS b A) w (winS b A') w' := by
  have hh : Wd.hasB fr ss ((fr : Int) + 1 + (k : Int)) = false := by
    have e : ((fr : Int) + 1 + (k : Int)) = ((fr + 1 + k : Nat) : Int) := by omega
    rcases Nat.lt_or_ge k ss.length with hl | hl
    · rw [e, Wd.hasB_at hl]
      rw [List.getElem?_eq_getElem hl] at hno
      simp at hno; simp [hno]
    · exact Wd.hasB_far (by omega)
  have HLE0 := Lib.hid (Wd.lead_le ss)
  have hlen0 := h.len
  have hd2 : decide ((wh : Int) + 64 < (fr : Int) + 1 + (k : Int)) = false := by simp; omega
  have hd : decide ((fr : Int) + 1 + (k : Int) ≤ (fr : Int)) = false := by simp; omega
  have hww : (wh : Int) ≤ 2000000000000 := by have := h.fit.out; have := HLE0.out; omega
  have HN := Lib.hid hwh
  have HF := Lib.hid hfit
  have HK4 := Lib.hid hk4
  have hi1 : (fr : Int) + 1 + (k : Int) ≤ 2000000000000 := by have := hfit.out; omega
  have HW0 := Lib.hid h
  have HRC0 := Lib.hid hrc
  have HL := Lib.hid (show ss.length = n from hlen0)
  have HN4 := Lib.hid hn4
  clear h hwh hno hfit hk hk4 hrc hlen0 hn4
  have HLL := Lib.hid (Wd.lead_laid ss k (ca, e))
  have HLE := Lib.hid (Wd.lead_le (Wd.laid ss k (ca, e)))
  obtain ⟨tt, htt⟩ : ∃ tt, Wd.laid ss k (ca, e) = tt := ⟨_, rfl⟩
  rw [htt] at HLL HLE ⊢
  have HTT := Lib.hid htt
  clear htt
  go_enter Try.func20, Try.ntmps20
  go_upto_region 1 with fail
  obtain ⟨g5, w1, hgE, hwE, hbE, hkE⟩ := alloced w (entC ca e) 30
  have HAE : Hid (Adv (winS b A) w (winS b A) w1) := Lib.hid (Adv.of_below _ hbE)
  have HW1 := Lib.hid (HW0.out.below hbE)
  have HRC1 := Lib.hid (HRC0.out.below hbE)
  have HKE := Lib.hid hkE
  rw [hgE, hwE]
  clear hgE hwE hbE hkE HRC0
  have HC := Lib.hid (winHas w1 HW1.out ((fr : Int) + 1 + (k : Int)))
  rw [hh] at HC
  clear hh
  have hc0 := HW1.out.blk.cell 0
  have hc1 := HW1.out.blk.cell 1
  simp at hc0 hc1
  go_wp2_with fail
  refine HC.out.mono ?_
  rintro en w2 ⟨rfl, m, hm⟩
  have hbm : Below w1.heap.size w1 w2 := by rw [hm]; exact below_drewN (Below.refl _ _) m
  have HW2 := Lib.hid (HW1.out.below hbm)
  have HA2 := Lib.hid (HAE.out.trans (Adv.of_below _ hbm))
  have HRC2 := Lib.hid (HRC1.out.below hbm)
  have HKE2 := Lib.hid (HKE.out.below hbm)
  clear hm hbm hc0 hc1 HC HW1 HAE HRC1 HKE
  go_wp2_with fail
  go_loopw [27] (fun _ wr => ∃ j A1 n1 c1, j ≤ k + 1 - ss.length ∧ Hid (WinE wr b fr wh A1 n1 c1 (ss ++ List.replicate j none)) ∧ Hid (Adv (winS b A) w2 (winS b A1) wr)) (fun _ wr => k + 1 - winLenE wr b)
  case atStart => exact ⟨0, A, n, c, Nat.zero_le _, Lib.hid (by simpa using HW2.out), Lib.hid (Adv.refl _ _)⟩
  case round =>
    obtain ⟨j, A1, n1, c1, hj, HWr, HAr⟩ := hrel
    have hlen : (ss ++ List.replicate j none).length = ss.length + j := by simp
    have HTop := Lib.hid (winTop wr HWr.out)
    rw [hlen] at HTop
    obtain ⟨q, hq⟩ : ∃ q, q = ss.length + j := ⟨_, rfl⟩
    have hqn : n1 = q := by have := HWr.out.len; rw [hlen] at this; omega
    subst hqn
    rw [← hq] at HTop
    have HQ := Lib.hid hq
    have HM := Lib.hid (winLenE_of HWr.out)
    clear hlen
    by_cases hlt : n1 < k + 1
    · have hlt' : (fr : Int) + (n1 : Int) < (fr : Int) + 1 + (k : Int) := by omega
      clear hq
      go_wp2_with fail
      refine HTop.out.mono ?_
      rintro en w3 ⟨rfl, m2, hm2⟩
      have hbm : Below wr.heap.size wr w3 := by rw [hm2]; exact below_drewN (Below.refl _ _) m2
      have HW3 := Lib.hid (HWr.out.below hbm)
      have HA3 := Lib.hid (HAr.out.trans (Adv.of_below _ hbm))
      clear hm2 hbm
      have hg0 := HW3.out.blk.cell 2
      simp at hg0
      have hnn : n1 + 1 ≤ 1000000000 := by have := HK4.out; omega
      have HF3 : Hid (FitB (fr + n1 + 1)) := Lib.hid (by have := HF.out.out; unfold FitB; omega)
      go_wp2_with (at_builtin; refine wpList_append_offB (base := 0) (n := n1) Try.underlying78 slotT rfl (.tmp 35) (.tmp 37) rfl (by rfl) rfl (HW3.out.row.alloc _) (ad := ⟨w3.heap.size, 0, none⟩) (m := 1) (c' := 1) (news := slotL none) rfl (by omega) rfl (fun q u hu => by
          rw [addr_add, Nat.zero_add, World.cell?_alloc_mark]; simpa [slotL] using hu) (slotL_one none) hnn (by omega) (Nat.zero_le _) ?_; intro A4 c4 w4 hown4 hgrow4 hl4; obtain ⟨s1, s2, s3⟩ := HW3.out.more hown4 hgrow4 hl4 HF3.out; have hf2 := s1.frozen 2; have hc2 := s1.cell 2; simp at hc2; have HS2 := Lib.hid s2; have HS3 := Lib.hid (HA3.out.trans s3); clear s1 s2 s3 hown4 hgrow4 hl4 hg0)
      go_roundw
      case rel =>
        refine ⟨j + 1, A4, n1 + 1, c4, by have := HQ.out; omega, Lib.hid ?_, HS3⟩
        have h5 := HS2.out
        rw [List.replicate_succ', ← List.append_assoc]
        exact h5
      case measure =>
        have e1 := winLenE_of HS2.out
        have e2 := HM.out
        rw [e1, e2]; omega
    · have hlt' : ¬ (fr : Int) + (n1 : Int) < (fr : Int) + 1 + (k : Int) := by omega
      have hqk : k < n1 := by omega
      have HJ := Lib.hid hj
      clear hq hlt hj
      go_wp2_with fail
      refine HTop.out.mono ?_
      rintro en w3 ⟨rfl, m2, hm2⟩
      have hbm : Below wr.heap.size wr w3.drew := by rw [hm2]; exact (below_drewN (Below.refl _ _) m2).drew
      clear hm2
      go_upto_region 5 with fail
      obtain ⟨w4, hw4⟩ : ∃ w4, w4 = w3.drew := ⟨_, rfl⟩
      rw [← hw4] at hbm
      have HW4 := Lib.hid (HWr.out.below hbm)
      have HA4 := Lib.hid (HAr.out.trans (Adv.of_below _ hbm))
      have hk5 : Blk w4 g5 30 (entC ca e) := HA4.out.blk HW2.out.of HKE2.out (by decide)
      have HR4 := Lib.hid (HRC2.out.keeps HA4.out.keeps HW2.out.of (by decide))
      clear hbm
      obtain ⟨g, oo, cur, rfl, _, hgb, _, _⟩ := HW4.out.row.addr (by have := HW4.out.row.le; omega)
      have hrg : w4.rangeAt g5 0 (entL ca e) := fun q v hv => by
        rw [Nat.zero_add, hk5.cell]
        have : (entC ca e)[q]? = (entL ca e)[q]? := by simp [entC, entL]
        rw [this, hv]
      have hS : w4.cell? ⟨b, 2, none⟩ = some (.slice (some ⟨g, oo, none⟩) n1 c1) ∧ w4.rangeAt g5 0 (entL ca e) := ⟨HW4.out.blk.cell 2, hrg⟩
      have HS := Lib.hid hS
      refine wp_region_held_drew (S := fun wq => wq.cell? ⟨b, 2, none⟩ = some (.slice (some ⟨g, oo, none⟩) n1 c1) ∧ wq.rangeAt g5 0 (entL ca e)) (by kernel_rfl) (by rw [← hw4]; exact hS) (fun _ => ?_)
      rw [← hw4]
      have HNE5 := Lib.hid (show g5 ≠ g from hk5.apart hgb (by decide))
      have HNEB := Lib.hid (show b ≠ g from HW4.out.blk.apart hgb (by decide))
      clear hw4 hrg hS hgb hk5
      refine wpAnyH_take (i := 0) (v := .pointer (some ⟨b, 0, none⟩)) rfl (by kernel_rfl) (by kernel_rfl) (by kernel_rfl) (fun _ _ _ h => h) (Or.inl ⟨by kernel_rfl, fun w _ => by go_simp⟩) HS.out ?_
      refine wpAnyH_take (i := 1) (v := .pointer (some ⟨b, 0, none⟩)) rfl (by kernel_rfl) (by kernel_rfl) (by kernel_rfl) (fun _ _ _ h => h) (Or.inl ⟨by kernel_rfl, fun w _ => by go_simp⟩) HS.out ?_
      refine wpAnyH_take (i := 2) (v := .pointer (some ⟨b, 2, none⟩)) rfl (by kernel_rfl) (by kernel_rfl) (by kernel_rfl) (fun _ _ _ h => h) (Or.inl ⟨by kernel_rfl, fun w _ => by go_simp⟩) HS.out ?_
      refine wpAnyH_take (i := 3) (v := .slice (some ⟨g, oo, none⟩) n1 c1) rfl (by kernel_rfl) (by kernel_rfl) (by kernel_rfl) (fun _ _ _ h => h) (Or.inl ⟨by kernel_rfl, fun w h => by obtain ⟨h, _⟩ := h; go_simp⟩) HS.out ?_
      refine wpAnyH_take (i := 4) (v := .pointer (some ⟨b, 0, none⟩)) rfl (by kernel_rfl) (by kernel_rfl) (by kernel_rfl) (fun _ _ _ h => h) (Or.inl ⟨by kernel_rfl, fun w _ => by go_simp⟩) HS.out ?_
      refine wpAnyH_take (i := 5) (v := .int .i64 ((fr : Int) + 1 + (k : Int))) rfl (by kernel_rfl) (by kernel_rfl) (by kernel_rfl) (fun _ _ _ h => h) (Or.inl ⟨by kernel_rfl, fun w _ => by go_simp⟩) HS.out ?_
      refine wpAnyH_take (i := 7) (v := .agg #[.int .i64 e.s, .int .i64 e.q, .int .i64 e.c.kind, .int .i64 e.c.who, .slice ca.Ak e.c.key.length ca.ck, .slice ca.Av e.c.val.length ca.cv, .slice ca.Ao e.c.old.length ca.co]) rfl (by kernel_rfl) (by kernel_rfl) (by kernel_rfl) (fun _ _ _ h => h) (yieldsIf_load_mid (by kernel_rfl) 30 (.tmp 5) rfl g5 0 rfl [.int .i64 e.s, .int .i64 e.q, .int .i64 e.c.kind, .int .i64 e.c.who, .slice ca.Ak e.c.key.length ca.ck, .slice ca.Av e.c.val.length ca.cv, .slice ca.Ao e.c.old.length ca.co] _ (fun _ h => h.2) Try.underlying30 rfl (by kernel_rfl)) HS.out ?_
      refine wpAnyH_take (i := 8) (v := .agg #[.int .i64 e.s, .int .i64 e.q, .int .i64 e.c.kind, .int .i64 e.c.who, .slice ca.Ak e.c.key.length ca.ck, .slice ca.Av e.c.val.length ca.cv, .slice ca.Ao e.c.old.length ca.co, .bool true]) rfl (by kernel_rfl) (by kernel_rfl) (by kernel_rfl) (fun _ _ _ h => h) (Or.inl ⟨by kernel_rfl, fun w _ => by go_simp⟩) HS.out ?_
      refine wpAnyH_ready (rs := [6]) (by kernel_rfl) (by simp) ?_
      refine AllReadyH.cons rfl (fun K hK => ?_) AllReadyH.nil
      go_simp
      refine (winPlace _ HW4.out k (by have := HF.out.out; unfold FitB; omega)).mono ?_
      rintro en w5 ⟨rfl, rfl⟩
      go_simp
      refine hK.out _ _ HS.out (fun _ => ?_)
      clear hK K
      refine wpAnyH_take (i := 9) (v := .pointer (some ⟨g, oo + k * 8, none⟩)) rfl (by kernel_rfl) (by kernel_rfl) (by kernel_rfl) (fun _ _ _ h => h) (Or.inl ⟨by kernel_rfl, fun w _ => by go_simp⟩) HS.out ?_
      refine wpAnyH_ready (rs := [10]) (by kernel_rfl) (by simp) ?_
      refine AllReadyH.cons rfl (fun K hK => ?_) AllReadyH.nil
      have hth : w4.there g (oo + k * 8) 8 := fun j hj => by
        have hx := HW4.out.row.cell (i := k * 8 + j) (by omega)
        rw [← Nat.add_assoc] at hx
        refine ⟨?_, HW4.out.row.frozen _⟩
        rw [hx, List.getElem?_eq_getElem (by rw [HW4.out.row.len]; omega)]
        rfl
      refine wp_store_mid 83 (.tmp 50) (.tmp 49) rfl g (oo + k * 8) (slotL (some (ca, e))).toArray rfl rfl hth (by kernel_rfl) (all_oneCell_toArray (slotL_one _)) ?_
      clear hth
      obtain ⟨s1, s2⟩ := HW4.out.slot hqk HR4.out
      have hgs := grown_setCells g (slotL (some (ca, e))) (oo + k * 8) w4
      have hx2 : (w4.setCells g (oo + k * 8) (slotL (some (ca, e)))).rangeAt g5 0 (entL ca e) := World.rangeAt_setCells_apart HS.out.2 _ _ _ (.inl HNE5.out)
      have hx1 := s1.blk.cell 2
      have e0 : (slotL (some (ca, e))).toArray.toList = slotL (some (ca, e)) := rfl
      rw [e0]
      have HW5 := Lib.hid s1
      have HA5 := Lib.hid (HA4.out.trans s2)
      clear s1 s2 hgs e0
      generalize w4.setCells g (oo + k * 8) (slotL (some (ca, e))) = w5 at HW5 HA5 hx1 hx2 ⊢
      refine hK.out _ _ ⟨hx1, hx2⟩ (fun _ => ?_)
      clear hK K hx1 hx2
      refine wpAnyH_done (by kernel_rfl) ?_ _
      go_simp
      have hlaid : (ss ++ List.replicate j none).set k (some (ca, e)) = Wd.laid ss k (ca, e) := by
        have h1 := HJ.out
        have h2 := HQ.out
        have h3 : j = k + 1 - ss.length := by omega
        rw [h3]; rfl
      rw [hlaid] at HW5
      rw [HTT.out] at HW5
      clear hlaid HS HW4 HA4
      go_wp2_with fail
      go_loopw [51] (fun _ wr => ∃ p, Wd.lead ss ≤ p ∧ p ≤ Wd.lead tt ∧ Hid (WinE wr b fr (fr + p) (some ⟨g, oo, none⟩) n1 c1 tt) ∧ Hid (Adv (winS b A) w2 (winS b (some ⟨g, oo, none⟩)) wr)) (fun _ wr => fr + Wd.lead tt - winMarkE wr b)
      case atStart => exact ⟨Wd.lead ss, Nat.le_refl _, HLL.out, Lib.hid (by rw [← HN.out]; exact HW5.out), HA5⟩
      case round =>
        obtain ⟨p, hp1, hp2, HWp, HAp⟩ := hrel
        have HCp := Lib.hid (winHas wr HWp.out ((fr : Int) + (p : Int) + 1))
        have e0 : ((fr : Int) + (p : Int) + 1) = ((fr + p : Nat) : Int) + 1 := by omega
        rw [e0, Wd.hasB_next hp2, ← e0] at HCp
        have HMp := Lib.hid (winMarkE_of HWp.out)
        have hpp : (fr : Int) + (p : Int) ≤ 2000000000000 := by
          have h1 := HLE.out; have h2 := HWp.out.len; have h3 := HWp.out.fit.out
          omega
        have hg1 := HWp.out.blk.cell 1
        simp at hg1
        have hgf := HWp.out.blk.frozen 1
        have HP1 := Lib.hid hp1
        have HP2 := Lib.hid hp2
        clear e0 hp1 hp2
        by_cases hlt : p < Wd.lead tt
        · rw [decide_eq_true hlt] at HCp
          go_wp2_with fail
          refine HCp.out.mono ?_
          rintro en w6 ⟨rfl, m6, hm6⟩
          have hg1' : w6.cell? ⟨b, 1, none⟩ = some (.int .i64 ((fr : Int) + (p : Int))) := by rw [hm6]; exact hg1
          have hgf' : w6.frozen? ⟨b, 1, none⟩ = false := by rw [hm6]; exact hgf
          have hB6 := below_drewN (Below.refl wr.heap.size wr) m6
          rw [← hm6] at hB6
          have hw6 := HWp.out.below hB6
          have e7 : ((fr : Int) + (p : Int) + 1) = ((fr + (p + 1) : Nat) : Int) := by omega
          obtain ⟨s1, s2⟩ := hw6.win (fr' := fr) (wh' := fr + (p + 1)) (grown_set w6 b 1 (.int .i64 ((fr : Int) + (p : Int) + 1))) (by rw [← e7]; exact hw6.blk.set_ 1 _) hw6.fit
          have HS1 := Lib.hid s1
          have HS2 := Lib.hid ((HAp.out.trans (Adv.of_below _ hB6)).trans s2)
          clear hm6 hg1 hgf hB6 s1 s2 hw6 e7
          go_wp2
          go_roundw
          case rel => exact ⟨p + 1, by have := HP1.out; omega, by omega, HS1, HS2⟩
          case measure =>
            rw [winMarkE_of HS1.out, HMp.out]; omega
        · have hpe : p = Wd.lead tt := by have := HP2.out; omega
          rw [decide_eq_false hlt] at HCp
          have HE := Lib.hid hpe
          clear hpe hlt
          go_wp2_with fail
          refine HCp.out.mono ?_
          rintro en w6 ⟨rfl, m6, hm6⟩
          have hB6 := below_drewN (Below.refl wr.heap.size wr) m6
          rw [← hm6] at hB6
          have HW6 := Lib.hid (HWp.out.below hB6)
          have HA6 := Lib.hid (HA2.out.trans (HAp.out.trans (Adv.of_below _ hB6)))
          clear hm6 hB6
          go_wp2
          go_ret
          exact ⟨_, _, _, rfl, by rw [← HE.out]; exact HW6.out, HA6.out⟩
set_option maxRecDepth 100000 in
set_option maxHeartbeats 2000000 in
theorem winCut (w : World) {b fr wh n c : Nat} {A : Option Addr} {ss : List (Option VE)} (h : WinE w b fr wh A n c ss) (hwh : wh = fr + Wd.lead ss) (k : Nat) (hk : k ≤ Wd.lead ss) (hk0 : 0 < k) :
    Calls Try.prog 43 #[.pointer (some ⟨b, 0, none⟩), .int .i64 ((fr : Int) + (k : Int))] w fun en w' => ∃ A' n' c', en = .returned (.tuple #[]) ∧ n' ≤ n ∧ WinE w' b (fr + k) wh A' n' c' (ss.drop k) ∧ Adv (winS b A) w (winS b A') w' := by
  have hll := Wd.lead_le ss
  have hln := h.len
  have hfit := h.fit.out
  have hc0 := h.blk.cell 0
  have hc1 := h.blk.cell 1
  have hc2 := h.blk.cell 2
  simp at hc0 hc1 hc2
  have hd : decide ((fr : Int) + (k : Int) ≤ (fr : Int)) = false := by simp; omega
  have hd2 : decide ((wh : Int) < (fr : Int) + (k : Int)) = false := by simp; omega
  have HP : Hid (Calls Try.prog 39 #[.pointer (some ⟨b, 0, none⟩), .int .i64 ((fr : Int) + (k : Int) + 1)] w fun e w' => e = .returned (.int .i64 (k : Int)) ∧ w = w') := by
    have := winPlace w h k (by unfold FitB; omega)
    rw [show (fr : Int) + 1 + (k : Int) = (fr : Int) + (k : Int) + 1 by omega] at this
    exact Lib.hid this
  have hkn : k ≤ n := by omega
  have hkc : k ≤ c := by have := h.row.le; omega
  have hfk : (fr : Int) + (k : Int) ≤ 2000000000000 := by omega
  have HF := Lib.hid hfit
  obtain ⟨i0, hi1, hi2, hi3, hi4⟩ := info_parts slotT
  have hs1 := run_slice_to (P := Try.prog) (t := 78) Try.underlying78 hi1 A n c k hkc
  have hs2 := run_slice_fromS (P := Try.prog) (t := 78) Try.underlying78 hi1 hi3 A n c k hkn
  obtain ⟨w2, ys, hrun, hown2, hyl, hgrow2⟩ := run_clear_off (P := Try.prog) w 0 78 0 83 i0 _ 8 Try.underlying78 hi1 hi2 rfl (by intro u hu; simp [Value.cells] at hu; rcases hu with rfl | rfl | rfl <;> rfl) A n c _ h.row k hkn
  have k1 : Keeps (winS b A) w w2 := Keeps.of_grown hgrow2 (fun g e => by
    rcases h.row.blk with ⟨rfl, _⟩ | ⟨g', o', cur, rfl, _⟩
    · simp [Value.ownBlock] at e
    · exact .inr ⟨g', o', rfl, by simpa [Value.ownBlock] using e.symm⟩)
  have hb2 : Blk w2 b 80 #[.int .i64 (fr : Int), .int .i64 (wh : Int), .slice A n c] := by
    refine h.blk.grown hgrow2 ?_
    rcases h.row.blk with ⟨rfl, _⟩ | ⟨g', o', cur, rfl, _, hgb, _⟩
    · simp [Value.ownBlock]
    · intro e
      exact h.blk.apart hgb (by decide) (by simpa [Value.ownBlock] using e)
  have hd2' := hb2.cell 2
  have hd0' := hb2.cell 0
  have hf2 := hb2.frozen 2
  have hf0 := hb2.frozen 0
  simp at hd2' hd0'
  have hown3 := hown2.drop hkn
  have hb3 := (hb2.set_ 2 (.slice (cutAtS A c k 8) (n - k) (c - k))).set_ 0 (.int .i64 ((fr : Int) + (k : Int)))
  have g3 := grown_set w2 b 2 (.slice (cutAtS A c k 8) (n - k) (c - k))
  have g4 := grown_set (w2.setCell ⟨b, 2, none⟩ (.slice (cutAtS A c k 8) (n - k) (c - k))) b 0 (.int .i64 ((fr : Int) + (k : Int)))
  have hne : ∀ g o, cutAtS A c k 8 = some ⟨g, o, none⟩ → some g ≠ some b := fun g o e q => by
    injection q with q
    rw [e] at hown3
    obtain ⟨cur, hgb⟩ := hown3.blkAt
    exact hb2.apart hgb (by decide) q.symm
  have HRW := Lib.hid ((hown3.grown g3 hne).grown g4 hne)
  have HB3 := Lib.hid hb3
  have of2 : Of (fun q => q = b) TB w2 := fun q hq _ => by subst hq; exact ⟨_, _, _, hb2, by simp⟩
  have HK := Lib.hid ((k1.trans (Keeps.of_grown (S := fun q => q = b) g3 (fun g e => by injection e with e; exact e.symm)) (fun q hq _ => .inl hq)).trans (Keeps.of_grown (S := fun q => q = b) g4 (fun g e => by injection e with e; exact e.symm)) (fun q hq _ => .inl hq))
  have HY := Lib.hid hyl
  have HE := Lib.hid (fun a e (he : some (a, e) ∈ ss) => (h.ent a e he).keeps HK.out h.of (by decide))
  have HA0 : Hid (∀ g o, cutAtS A c k 8 = some ⟨g, o, none⟩ → ∃ o', A = some ⟨g, o', none⟩) := Lib.hid (fun g o e => by
    unfold cutAtS at e
    split at e
    · exact ⟨o, e⟩
    · rcases h.row.blk with ⟨rfl, _⟩ | ⟨g', o', cur, rfl, _⟩
      · cases e
      · simp [addr_add] at e
        exact ⟨o', by rw [e.1]⟩)
  clear h hln hfit hll hi1 hi2 hi3 hi4 hwh hown2 hown3 hyl hgrow2 k1 hb2 hb3 g3 g4 hne of2
  go_enter Try.func43, Try.ntmps43
  go_wp2_with fail
  refine HP.out.mono ?_
  rintro e w1 ⟨rfl, rfl⟩
  go_wp2
  go_end0
  refine ⟨cutAtS A c k 8, n - k, c - k, rfl, Nat.sub_le _ _, ⟨?_, ?_, ?_, fun a e he => HE.out a e (List.mem_of_mem_drop he)⟩, HK.out, ?_⟩
  · have := HB3.out
    rw [show ((fr : Int) + (k : Int)) = ((fr + k : Nat) : Int) by omega] at this
    simpa using this
  · have h7 := HRW.out
    have e1 : (ys ++ (cellsE ss).drop (k * 8)).drop (k * 8) = cellsE (ss.drop k) := by
      rw [List.drop_append, HY.out, List.drop_of_length_le (by rw [HY.out]; omega), Nat.sub_self, List.drop_zero, List.nil_append]
      exact cellsE_drop ss k
    rw [e1] at h7
    exact h7
  · have := HF.out; unfold FitB; omega
  · rintro q (rfl | ⟨g, o, e, rfl⟩)
    · exact .inl (.inl rfl)
    · obtain ⟨o', h'⟩ := HA0.out q o e
      exact .inl (.inr ⟨q, o', h', rfl⟩)
end Go.Proofs.Ytaknfmionkkdjaa

namespace Go.Proofs.Ytaknfmionkkdjaa
open Go.RowKit
set_option linter.unusedVariables false
/-- what a window knows of what stands in it -/
theorem winAt_mem {fr : Nat} {ss : List (Option VE)} {i : Int} {v : VE} (h : winAt fr ss i = some v) : some v ∈ ss := by
  unfold winAt at h
  split at h
  · exact List.mem_of_getElem? (Wd.join_some.1 h)
  · cases h
theorem winAt_laid (fr : Nat) (ss : List (Option VE)) (k : Nat) (v : VE) (i : Int) : winAt fr (Wd.laid ss k v) i = if i = (fr : Int) + 1 + (k : Int) then some v else winAt fr ss i := by
  unfold winAt
  by_cases hi : (fr : Int) < i
  · rw [if_pos hi, if_pos hi, Wd.laid_get]
    by_cases h : i = (fr : Int) + 1 + (k : Int)
    · rw [if_pos h, if_pos (by omega)]
    · rw [if_neg h, if_neg (by omega)]
  · rw [if_neg hi, if_neg hi, if_neg (by omega)]
theorem winAt_drop (fr : Nat) (ss : List (Option VE)) (k : Nat) (i : Int) : winAt (fr + k) (ss.drop k) i = if i ≤ (fr : Int) + (k : Int) then none else winAt fr ss i := by
  unfold winAt
  by_cases hi : ((fr + k : Nat) : Int) < i
  · rw [if_pos hi, if_neg (by omega), if_pos (by omega), List.getElem?_drop]
    congr 2
    omega
  · rw [if_neg hi, if_pos (by omega)]
theorem winAt_far {fr : Nat} {ss : List (Option VE)} {i : Int} (h : ((fr + ss.length : Nat) : Int) < i) : winAt fr ss i = none := by
  unfold winAt
  split
  · rw [List.getElem?_eq_none (by omega)]; rfl
  · rfl
theorem winAt_low {fr : Nat} {ss : List (Option VE)} {i : Int} (h : i ≤ (fr : Int)) : winAt fr ss i = none := if_neg (by omega)
theorem winAt_k (fr : Nat) (ss : List (Option VE)) (k : Nat) : winAt fr ss ((fr : Int) + 1 + (k : Int)) = ss[k]?.join := by
  unfold winAt
  rw [if_pos (by omega)]
  congr 2
  omega
theorem win_whole (fr : Nat) (ss : List (Option VE)) (f : Int → Option En) (hf : ∀ i, f i = (winAt fr ss i).map (·.2)) : Bk.Whole f (fr : Int) ((fr + Wd.lead ss : Nat) : Int) := by
  refine ⟨by omega, fun i h1 h2 => ?_, ?_⟩
  · obtain ⟨k, rfl⟩ : ∃ k : Nat, i = (fr : Int) + 1 + (k : Int) := ⟨(i - fr - 1).toNat, by omega⟩
    obtain ⟨v, hv⟩ := Wd.lead_at (ss := ss) (k := k) (by omega)
    rw [hf, winAt_k, hv]; rfl
  · rw [hf, show (((fr + Wd.lead ss : Nat) : Int) + 1) = (fr : Int) + 1 + (Wd.lead ss : Int) by omega, winAt_k]
    cases h : ss[Wd.lead ss]?.join with
    | none => rfl
    | some v => exact absurd (Wd.join_some.1 h) Wd.lead_stop
/-- a book in memory -/
structure BkM (w : World) (b : Nat) (aM : MA) (g fr wh : Nat) (A : Option Addr) (n c : Nat) (ss : List (Option VE)) (k : Bk) : Prop where
  blk : Blk w b 59 #[.slice aM.o.A0 k.m.o.reg.length aM.o.c0, .slice aM.o.A1 k.m.o.q.length aM.o.c1, .slice aM.o.A2 k.m.o.lk.length aM.o.c2, .slice aM.o.A3 k.m.o.mp.length aM.o.c3, .slice aM.At k.m.t.length aM.ct, .pointer (some ⟨g, 0, none⟩)]
  mac : ∃ W, OwnM W w aM k.m
  win : WinE w g fr wh A n c ss
  lead : wh = fr + Wd.lead ss
  few : n ≤ Wd.lead ss + 64
  pos : k.pos = (fr : Int)
  whole : k.wh = (wh : Int)
  f : ∀ i, k.f i = (winAt fr ss i).map (·.2)
  mok : k.m.Ok
  fits : ∀ a e, some (a, e) ∈ ss → e.c.Fits
  p1 : fr ≤ 1099511627776
/-- its blocks -/
def bkS (b g : Nat) (A : Option Addr) : Nat → Prop := fun q => q = b ∨ winS g A q
def BkAt (w : World) (S : Nat → Prop) (b : Nat) (k : Bk) : Prop := ∃ aM g fr wh A n c ss, BkM w b aM g fr wh A n c ss k ∧ S = bkS b g A
section
variable {w w' : World} {b g fr wh n c : Nat} {aM : MA} {A : Option Addr} {ss : List (Option VE)} {k : Bk}
theorem BkM.ok (h : BkM w b aM g fr wh A n c ss k) : k.Ok := by
  have hw := win_whole fr ss k.f h.f
  rw [← h.lead, ← h.whole, ← h.pos] at hw
  have hl := h.win.len
  refine ⟨h.mok, by rw [h.pos]; omega, by have := h.p1; rw [h.pos]; omega, hw, fun i hi => ?_, fun i hi => ?_, fun i e he => ?_⟩
  · rw [h.f, winAt_low (by rw [h.pos] at hi; exact hi)]; rfl
  · rw [h.f, winAt_far (by have := h.few; have := h.lead; rw [h.whole] at hi; omega)]; rfl
  · rw [h.f] at he
    cases hv : winAt fr ss i with
    | none => rw [hv] at he; cases he
    | some v =>
      rw [hv] at he
      obtain ⟨a, e'⟩ := v
      injection he with he
      subst he
      exact h.fits a _ (winAt_mem hv)
theorem BkM.of (h : BkM w b aM g fr wh A n c ss k) : Of (bkS b g A) TB w := by
  rintro q (rfl | hq) hlt
  · exact ⟨_, _, _, h.blk, by simp⟩
  · exact h.win.of q hq hlt
theorem BkM.lt (h : BkM w b aM g fr wh A n c ss k) : ∀ q, bkS b g A q → q < w.heap.size := by
  rintro q (rfl | hq)
  · exact h.blk.lt
  · exact h.win.lt q hq
theorem BkM.below (h : BkM w b aM g fr wh A n c ss k) (hb : Below w.heap.size w w') : BkM w' b aM g fr wh A n c ss k := by
  obtain ⟨W, hW⟩ := h.mac
  exact ⟨h.blk.below hb, ⟨W, hW.below hb⟩, h.win.below hb, h.lead, h.few, h.pos, h.whole, h.f, h.mok, h.fits, h.p1⟩
theorem BkM.keeps {S : Nat → Prop} {T : List TypeId} (h : BkM w b aM g fr wh A n c ss k) (hk : Keeps S w w') (ho : Of S T w) (h1 : 5 ∉ T) (h2 : 26 ∉ T) (h3 : 3 ∉ T) (h4 : 109 ∉ T) (h5 : 94 ∉ T) (hn : ∀ q, bkS b g A q → ¬ S q) : BkM w' b aM g fr wh A n c ss k := by
  obtain ⟨W, hW⟩ := h.mac
  exact ⟨h.blk.keeps hk (hn _ (.inl rfl)), ⟨W, hW.keeps hk ho h1 h2 h3 h4 h5⟩, h.win.keeps hk ho h1 (fun q hq => hn q (.inr hq)), h.lead, h.few, h.pos, h.whole, h.f, h.mok, h.fits, h.p1⟩
/-- the window is turned, the book's own block is not -/
theorem BkM.inWin {fr' wh' n' c' : Nat} {A' : Option Addr} {ss' : List (Option VE)} {k' : Bk} (h : BkM w b aM g fr wh A n c ss k) (hw : WinE w' g fr' wh' A' n' c' ss') (ha : Adv (winS g A) w (winS g A') w')
    (hm : k'.m = k.m) (hl : wh' = fr' + Wd.lead ss') (hfew : n' ≤ Wd.lead ss' + 64) (hp : k'.pos = (fr' : Int)) (hwh : k'.wh = (wh' : Int)) (hf : ∀ i, k'.f i = (winAt fr' ss' i).map (·.2)) (hfit : ∀ a e, some (a, e) ∈ ss' → e.c.Fits) (h1 : fr' ≤ 1099511627776) :
    BkM w' b aM g fr' wh' A' n' c' ss' k' ∧ Adv (bkS b g A) w (bkS b g A') w' := by
  have hnb : ¬ winS g A b := by
    rintro (e | ⟨q, o, e, e2⟩)
    · exact h.blk.apart h.win.blk (by decide) e
    · subst e
      obtain ⟨cur, hgb⟩ := h.win.row.blkAt
      exact h.blk.apart hgb (by decide) e2
  obtain ⟨W, hW⟩ := h.mac
  refine ⟨⟨by rw [hm]; exact h.blk.keeps ha.keeps hnb, ⟨W, by rw [hm]; exact hW.keeps ha.keeps h.win.of (by decide) (by decide) (by decide) (by decide) (by decide)⟩, hw, hl, hfew, hp, hwh, hf, by rw [hm]; exact h.mok, hfit, h1⟩, ha.keeps.mono (fun q hq => .inr hq), ?_⟩
  rintro q (rfl | hq)
  · exact .inl (.inl rfl)
  · exact (ha.grow q hq).imp (fun h => .inr h) id
end
section
variable {w w' : World} {S S' : Nat → Prop} {b : Nat} {k : Bk}
theorem BkAt.below (h : BkAt w S b k) (hb : Below w.heap.size w w') : BkAt w' S b k := by
  obtain ⟨aM, g, fr, wh, A, n, c, ss, h1, h2⟩ := h
  exact ⟨aM, g, fr, wh, A, n, c, ss, h1.below hb, h2⟩
theorem BkAt.ok (h : BkAt w S b k) : k.Ok := by
  obtain ⟨aM, g, fr, wh, A, n, c, ss, h1, h2⟩ := h
  exact h1.ok
theorem BkAt.of (h : BkAt w S b k) : Of S TB w := by
  obtain ⟨aM, g, fr, wh, A, n, c, ss, h1, rfl⟩ := h
  exact h1.of
theorem BkAt.lt (h : BkAt w S b k) : ∀ q, S q → q < w.heap.size := by
  obtain ⟨aM, g, fr, wh, A, n, c, ss, h1, rfl⟩ := h
  exact h1.lt
theorem BkAt.keeps {S0 : Nat → Prop} {T : List TypeId} (h : BkAt w S b k) (hk : Keeps S0 w w') (ho : Of S0 T w) (h1 : 5 ∉ T) (h2 : 26 ∉ T) (h3 : 3 ∉ T) (h4 : 109 ∉ T) (h5 : 94 ∉ T) (hn : ∀ q, S q → ¬ S0 q) : BkAt w' S b k := by
  obtain ⟨aM, g, fr, wh, A, n, c, ss, q1, rfl⟩ := h
  exact ⟨aM, g, fr, wh, A, n, c, ss, q1.keeps hk ho h1 h2 h3 h4 h5 hn, rfl⟩
end
/-- a book behind a call: what it is, what was turned -/
def GotBk (S : Nat → Prop) (w : World) (b : Nat) (k : Bk) (w' : World) : Prop := ∃ S', BkAt w' S' b k ∧ Adv S w S' w'
/-- an entry, or none, of the call's own -/
def GotE16 (w : World) (r : Option En) (en : Ending) (w' : World) : Prop := ∃ ca : CA, en = .returned (.tuple #[.agg (entC ca (r.getD En.zero)), .bool r.isSome]) ∧ OwnC w w' ca (r.getD En.zero).c ∧ Below w.heap.size w w'
theorem En.zero_fits : En.zero.c.Fits := ⟨⟨by simp [En.zero], by simp [En.zero]⟩, ⟨by simp [En.zero], by simp [En.zero]⟩, ⟨by simp [En.zero], by simp [En.zero]⟩⟩
theorem RdC.zero9 (w : World) (B : Nat) : RdC w B zeroCA En.zero.c := ⟨Rd.none_ _ _ _, Rd.none_ _ _ _, Rd.none_ _ _ _⟩
end Go.Proofs.Ytaknfmionkkdjaa

