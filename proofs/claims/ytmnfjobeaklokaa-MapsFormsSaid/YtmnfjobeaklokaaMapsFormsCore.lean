/- MapsForms: the walk, over any contracts of the code's. -/
import Derived.Test.YtmnfjobeaklokaaMapsAwake
import Derived.Test.YtmnfjobeaklokaaMapsFormsMath
namespace Go.Proofs.Ytmnfjobeaklokaa
open Go.RowKit
set_option linter.unusedVariables false
/-- the map reads as ps -/
structure RdM (w wr : World) (A : Option Addr) (n c : Nat) (ps : List Pr) : Prop where
  r : RdP wr wr.heap.size A n ps
  le : n ≤ c
  bel : Below w.heap.size w wr
theorem make_run (w : World) (n : Nat) (hn : n ≤ 1000) : (Instr.makeSlice 24 (.int .i64 (n : Int)) (.int .i64 (n : Int))).run Try.prog w = .ok (.slice (some ⟨w.heap.size, 0, none⟩) n n) (w.alloc (.cells (madeCells #[.int .u8 0] (n * 1)) 5)) := by
  obtain ⟨i, hi, hz, hsz, hby⟩ := info_parts byteT.info
  have hr := run_make (P := Try.prog) w 24 5 i (.int .u8 0) Try.underlying24 hi hz .i64 .i64 n n (by omega) (Int.le_refl _) (by rw [hby]; omega) (by omega)
  simp only [Int.toNat_natCast, hsz] at hr
  exact hr
theorem rd_zeros (w : World) (n : Nat) : Rd (w.alloc (.cells (madeCells #[.int .u8 0] n) 5)) (w.heap.size + 1) (some ⟨w.heap.size, 0, none⟩) n (bv (List.replicate n 0)) := by
  have h := Rd.made w (madeCells (Value.int .u8 0).cells (n * 1)) 5 (0, 0) n (by simp [madeCells])
  rw [made_zeros, Nat.mul_one] at h
  exact h
theorem two_zeros (w : World) (k v : Nat) : Rd (((w.alloc (.cells (madeCells #[.int .u8 0] k) 5)).alloc (.cells (madeCells #[.int .u8 0] v) 5)).drew) (((w.alloc (.cells (madeCells #[.int .u8 0] k) 5)).alloc (.cells (madeCells #[.int .u8 0] v) 5)).drew).heap.size (some ⟨w.heap.size, 0, none⟩) k (bv (List.replicate k 0)) ∧
    Rd (((w.alloc (.cells (madeCells #[.int .u8 0] k) 5)).alloc (.cells (madeCells #[.int .u8 0] v) 5)).drew) (((w.alloc (.cells (madeCells #[.int .u8 0] k) 5)).alloc (.cells (madeCells #[.int .u8 0] v) 5)).drew).heap.size (some ⟨w.heap.size + 1, 0, none⟩) v (bv (List.replicate v 0)) ∧
    Below w.heap.size w (((w.alloc (.cells (madeCells #[.int .u8 0] k) 5)).alloc (.cells (madeCells #[.int .u8 0] v) 5)).drew) := by
  refine ⟨((rd_zeros w k).alloc (by simp) _).drew.fit, ?_, (((Below.refl _ _).alloc (Nat.le_refl _) _).alloc (by simp) _).drew⟩
  have h := rd_zeros (w.alloc (.cells (madeCells #[.int .u8 0] k) 5)) v
  rw [World.size_alloc] at h
  exact h.drew.fit
set_option maxHeartbeats 4000000 in
set_option maxRecDepth 100000 in
theorem mapsForms_core (hP : PutC7) (hG : GetC7) (hD : DelC7) (hA : AwakeC7) (a0 a1 a2 : Int) (w : World) :
    Calls Try.prog 3 #[.int .i64 a0, .int .i64 a1, .int .i64 a2] w fun e w' => e = .returned (.bool true) ∧ Below w.heap.size w w' := by
  obtain ⟨n, hn, hn16⟩ : ∃ n : Nat, bits .and .i64 a0 15 = (n : Int) ∧ n < 16 := by
    rw [and_15]; have h1 := Int.emod_nonneg a0 (show (16 : Int) ≠ 0 by omega); exact ⟨(a0 % 16).toNat, by omega, by omega⟩
  obtain ⟨k, hk, hk16⟩ : ∃ n : Nat, bits .and .i64 a1 15 = (n : Int) ∧ n < 16 := by
    rw [and_15]; have h1 := Int.emod_nonneg a1 (show (16 : Int) ≠ 0 by omega); exact ⟨(a1 % 16).toNat, by omega, by omega⟩
  obtain ⟨v, hv, hv32⟩ : ∃ n : Nat, bits .and .i64 a2 31 = (n : Int) ∧ n < 32 := by
    rw [and_31]; have h1 := Int.emod_nonneg a2 (show (32 : Int) ≠ 0 by omega); exact ⟨(a2 % 32).toNat, by omega, by omega⟩
  go_enter Try.func3, Try.ntmps3
  go_wp2_with fail
  go_loopw [7, 8] (fun s7 s8 wr => ∃ (i c : Nat) (A : Option Addr), i ≤ n ∧ s8 = .int .i64 (i : Int) ∧ s7 = .slice A (min i 8) c ∧ Hid (RdM w wr A (min i 8) c (Mp.mk i))) (fun _ s8 _ => n - (intOf s8).toNat)
  case atStart => exact ⟨0, 0, none, Nat.zero_le _, rfl, rfl, Lib.hid ⟨RdP.nil _ _ _, Nat.le_refl _, Below.refl _ _⟩⟩
  case round =>
    obtain ⟨i, c, A, hi, rfl, rfl, HS⟩ := hrel
    obtain ⟨mi, hmi⟩ : ∃ m, min i 8 = m := ⟨_, rfl⟩
    rw [hmi] at HS ⊢
    have HMI := Lib.hid hmi
    have hmi8 : mi ≤ 8 := by omega
    clear hmi
    by_cases hlt : i < n
    · have hk1 : (i : Int) < (n : Int) := by omega
      have hwi : IntKind.i64.wrap ((i : Int) + 1) = (i : Int) + 1 := IntWalk.i64_in _ (by omega)
      have hwh : IntKind.i64.wrap (97 + (i : Int)) = 97 + (i : Int) := IntWalk.i64_in _ (by omega)
      have hu1 : IntKind.u8.wrap (i : Int) = (i : Int) := IntWalk.u8_in _ (by omega)
      have hu2 : IntKind.u8.wrap (97 + (i : Int)) = 97 + (i : Int) := IntWalk.u8_in _ (by omega)
      obtain ⟨m1, m2, m3, m4⟩ := Mp.mk_put i (by omega)
      obtain ⟨E, hE⟩ : ∃ E : Int, (if i < 8 then 0 else 3) = E := ⟨_, rfl⟩
      rw [hE] at m2
      obtain ⟨N, hN⟩ : ∃ N, Mp.putN (Mp.mk i) [97 + i] [i] = N := ⟨_, rfl⟩
      have HE := Lib.hid hE
      have HM1 := Lib.hid m1
      have HM2 := Lib.hid m2
      have HM4 := Lib.hid m4
      have HN := Lib.hid hN
      have r1 : Rd (wr.alloc (.cells #[.int .u8 (97 + (i : Int))] 5)) (wr.heap.size + 1) (some ⟨wr.heap.size, 0, none⟩) 1 (bv [97 + i]) := Rd.oneI wr (by omega) _
      have r2 : Rd ((wr.alloc (.cells #[.int .u8 (97 + (i : Int))] 5)).alloc (.cells #[.int .u8 (i : Int)] 5)) (wr.heap.size + 2) (some ⟨wr.heap.size + 1, 0, none⟩) 1 (bv [i]) := by
        have h := Rd.oneI (wr.alloc (.cells #[.int .u8 (97 + (i : Int))] 5)) (v := (i : Int)) (x := i) rfl 5
        rwa [World.size_alloc] at h
      have HR1 := Lib.hid r1
      have HR2 := Lib.hid r2
      clear hE m1 m2 m3 m4 hN r1 r2
      go_wp2_with fail
      have hb2 : Below wr.heap.size wr ((wr.alloc (.cells #[.int .u8 (97 + (i : Int))] 5)).alloc (.cells #[.int .u8 (i : Int)] 5)) := ((Below.refl _ _).alloc (Nat.le_refl _) _).alloc (by simp) _
      refine (show Calls Try.prog 6 #[.slice A mi c, .slice (some ⟨wr.heap.size, 0, none⟩) 1 1, .slice (some ⟨wr.heap.size + 1, 0, none⟩) 1 1] _ (GotPR w _ (Mp.mk (i + 1)) E [] N) from by
        have h := hP (W := w) (c := c) (c' := 1) (c'' := 1) HS.out.le (Mp.mk_inv i (by omega)) (k := [97 + i]) (v := [i]) (by simp; omega) (by simp; omega) (by omega) (by omega) (HS.out.r.below hb2) (HR1.out.alloc (by simp) _) HR2.out (HS.out.bel.trans (hb2.mono HS.out.bel.size))
        rw [HM1.out, HM2.out, HM4.out, HN.out] at h
        exact h).mono ?_
      rintro e w1 ⟨A1, c1, A2, c2, rfl, hq, hv', hB1, _⟩
      unfold resV
      have hl1 : (Mp.mk (i + 1)).length = min (i + 1) 8 := Mp.mk_len (i + 1)
      rw [hl1] at hq ⊢
      have hel : (([] : List Nat)).length = 0 := rfl
      rw [hel] at hv' ⊢
      have b2 : Below w1.heap.size w1 (w1.alloc (.cells #[.int .i64 E, .slice A2 0 c2, .int .i64 N] 26)) := (Below.refl _ _).alloc (Nat.le_refl _) _
      obtain ⟨x0, x1, x2, _, _, _⟩ := three (Blk.new w1 26 #[.int .i64 E, .slice A2 0 c2, .int .i64 N])
      have HS2 : Hid (RdM w (w1.alloc (.cells #[.int .i64 E, .slice A2 0 c2, .int .i64 N] 26)) A1 (min (i + 1) 8) c1 (Mp.mk (i + 1))) := Lib.hid ⟨(hq.rd.below b2).fit, hq.cap, hB1.alloc hB1.size _⟩
      clear hq hv' hB1 b2 hl1 hel HS
      by_cases h8 : i < 8
      · have hE0 : E = 0 := by rw [← HE.out, if_pos h8]
        subst hE0
        have h8i : (i : Int) < 8 := by omega
        clear HE
        go_wp2_with fail
        go_roundw
        case rel => exact ⟨i + 1, c1, A1, by omega, by go_num, rfl, HS2⟩
        case measure => simp [intOf]; omega
      · have hE0 : E = 3 := by rw [← HE.out, if_neg h8]
        subst hE0
        have h8i : ¬ (i : Int) < 8 := by omega
        clear HE
        go_wp2_with fail
        go_roundw
        case rel => exact ⟨i + 1, c1, A1, by omega, by go_num, rfl, HS2⟩
        case measure => simp [intOf]; omega
    · obtain rfl : i = n := by omega
      clear hlt hi
      rename World => wa
      have q1 := fun w => make_run w k (by omega)
      have q2 := fun w => make_run w v (by omega)
      go_upto_region 10 with fail
      go_cut [11, 12] from 58 to 61 (fun s11 s12 wx => ∃ (B1 B2 : Option Addr), s11 = .slice B1 k k ∧ s12 = .slice B2 v v ∧ Hid (Rd wx wx.heap.size B1 k (bv (List.replicate k 0))) ∧ Hid (Rd wx wx.heap.size B2 v (bv (List.replicate v 0))) ∧ Hid (Below wa.heap.size wa wx))
      case first =>
        go_region
        all_goals go_wp2_with fail
        all_goals go_meet
        · exact ⟨_, _, rfl, rfl, Lib.hid (two_zeros wa k v).1, Lib.hid (two_zeros wa k v).2.1, Lib.hid (two_zeros wa k v).2.2⟩
        · exact ⟨_, _, rfl, rfl, Lib.hid (two_zeros wa v k).2.1, Lib.hid (two_zeros wa v k).1, Lib.hid (two_zeros wa v k).2.2⟩
      case rest =>
        obtain ⟨B1, B2, rfl, rfl, HK, HV, HBW⟩ := hcut
        clear q1 q2
        rename World => wb
        have HBB := Lib.hid (HS.out.bel.trans (HBW.out.mono HS.out.bel.size))
        have HINV := Lib.hid (Mp.mk_inv i (by omega))
        obtain ⟨T, hT⟩ : ∃ T, Mp.putS (Mp.mk i) (List.replicate k 0) (List.replicate v 0) = T := ⟨_, rfl⟩
        obtain ⟨E, hE⟩ : ∃ T, Mp.putE (Mp.mk i) (List.replicate k 0) (List.replicate v 0) = T := ⟨_, rfl⟩
        obtain ⟨V, hV⟩ : ∃ T, Mp.putV (Mp.mk i) (List.replicate k 0) (List.replicate v 0) = T := ⟨_, rfl⟩
        obtain ⟨N, hN⟩ : ∃ T, Mp.putN (Mp.mk i) (List.replicate k 0) (List.replicate v 0) = T := ⟨_, rfl⟩
        have hbz : ∀ n x, x ∈ List.replicate n 0 → x < 256 := fun n x hx => by rw [(List.mem_replicate.1 hx).2]; omega
        have HBZ := Lib.hid hbz
        have HC : Hid (Calls Try.prog 6 #[.slice A mi c, .slice B1 k k, .slice B2 v v] wb (GotPR w wb T E V N)) := Lib.hid (by
          have h := hP (W := w) (c := c) (c' := k) (c'' := v) HS.out.le HINV.out (hbz k) (hbz v) (by omega) (by omega) (HS.out.r.below HBW.out) HK.out HV.out HBB.out
          rw [hT, hE, hV, hN] at h
          exact h)
        have HTI : Hid (Mp.Inv T) := Lib.hid (by rw [← hT]; exact HINV.out.put (hbz k) (hbz v))
        have HMM := Lib.hid (show _ ∧ _ ∧ _ from (by have h := Mp.mk_more (i := i) (k := k) (v := v) (by omega) hk16; rw [hT, hE, hN] at h; exact h))
        clear hT hE hV hN hbz
        go_wp2_with fail
        refine HC.out.mono ?_
        rintro e w1 ⟨A1, c1, A2, c2, rfl, hq, hv1, hB1, hb1⟩
        unfold resV
        have b2 : Below w1.heap.size w1 (w1.alloc (.cells #[.int .i64 E, .slice A2 V.length c2, .int .i64 N] 26)) := (Below.refl _ _).alloc (Nat.le_refl _) _
        obtain ⟨wd, hwd⟩ : ∃ wd, w1.alloc (.cells #[.int .i64 E, .slice A2 V.length c2, .int .i64 N] 26) = wd := ⟨_, rfl⟩
        have HBL := Lib.hid (show Blk wd w1.heap.size 26 #[.int .i64 E, .slice A2 V.length c2, .int .i64 N] by rw [← hwd]; exact Blk.new w1 _ _)
        rw [hwd] at b2
        have HQ := Lib.hid (hq.below b2)
        have HB1 := Lib.hid (hB1.trans (b2.mono hB1.size))
        have HBD := Lib.hid (hb1.trans (b2.mono hb1.size))
        have HWD := Lib.hid hwd
        clear hq hv1 hB1 hb1 b2 HC
        go_upto_if 70 with fail
        obtain ⟨D, hD0⟩ : ∃ D : Int, (if 8 ≤ i then 3 else 0) = D := ⟨_, rfl⟩
        have HD0 := Lib.hid hD0
        clear hD0
        go_cut [15] from 70 to 70 (fun s15 wx => s15 = .int .i64 D ∧ wx = wd)
        case first =>
          by_cases h8 : 8 ≤ i
          · have hD := HD0.out
            rw [if_pos h8] at hD
            subst hD
            have h8i : (8 : Int) ≤ (i : Int) := by omega
            go_wp2_with fail
            go_meet
            exact ⟨rfl, rfl⟩
          · have hD := HD0.out
            rw [if_neg h8] at hD
            subst hD
            have h8i : ¬ (8 : Int) ≤ (i : Int) := by omega
            go_wp2_with fail
            go_meet
            exact ⟨rfl, rfl⟩
        case rest =>
          obtain ⟨rfl, rfl⟩ := hcut
          rename World => wd
          go_upto_region 15 with fail
          obtain ⟨lg, hlg⟩ : ∃ b : Bool, decide (8 < k ∨ 16 < v) = b := ⟨_, rfl⟩
          have HLG := Lib.hid hlg
          clear hlg
          go_cut [76] from 71 to 76 (fun s76 wx => s76 = .bool lg ∧ wx = wd)
          case first =>
            by_cases hk8 : 8 < k
            · have hk8i : (8 : Int) < (k : Int) := by omega
              have hb := HLG.out
              rw [decide_eq_true (.inl hk8)] at hb
              subst hb
              go_wp2_with fail
              go_meet
              exact ⟨rfl, rfl⟩
            · have hk8i : ¬ (8 : Int) < (k : Int) := by omega
              by_cases hv16 : 16 < v
              · have hv16i : (16 : Int) < (v : Int) := by omega
                have hb := HLG.out
                rw [decide_eq_true (.inr hv16)] at hb
                subst hb
                go_wp2_with fail
                go_meet
                exact ⟨rfl, rfl⟩
              · have hv16i : ¬ (16 : Int) < (v : Int) := by omega
                have hb := HLG.out
                rw [decide_eq_false (by omega)] at hb
                subst hb
                go_wp2_with fail
                go_meet
                exact ⟨rfl, rfl⟩
          case rest =>
            obtain ⟨rfl, rfl⟩ := hcut
            rename World => wd
            go_upto_if 76 with fail
            go_cut [15] from 76 to 76 (fun s15 wx => s15 = .int .i64 E ∧ wx = wd)
            case first =>
              cases lg with
              | true =>
                have hE : E = 1 := (HMM.out.1 (by simpa using HLG.out)).2
                subst hE
                go_wp2_with fail
                go_meet
                exact ⟨rfl, rfl⟩
              | false =>
                have hnl : ¬ (8 < k ∨ 16 < v) := by simpa using HLG.out
                have hE : E = D := by
                  rw [← HD0.out]
                  by_cases h8 : 8 ≤ i
                  · rw [if_pos h8]; exact (HMM.out.2.1 hnl h8).2
                  · rw [if_neg h8]; exact (HMM.out.2.2 hnl (by omega)).2.1
                clear hnl
                go_wp2_with fail
                go_meet
                exact ⟨by rw [hE], rfl⟩
            case rest =>
              obtain ⟨rfl, rfl⟩ := hcut
              rename World => wd
              obtain ⟨x0, x1, x2, _, _, _⟩ := three HBL.out
              obtain ⟨m, hm⟩ : ∃ m, T.length = m := ⟨_, rfl⟩
              rw [hm] at HQ ⊢
              have HM0 := Lib.hid hm
              clear hm
              go_upto_region 17 with fail
              go_cut [90] from 77 to 90 (fun s90 wx => s90 = .bool false ∧ Hid (RdM w wx A mi c (Mp.mk i)) ∧ Hid (E = 0 → wd = wx))
              case first =>
                by_cases hE0 : E = 0
                · subst hE0
                  have HRS : Hid (RdM w wd A mi c (Mp.mk i)) := Lib.hid ⟨((HS.out.r.below' HBW.out).below HBD.out).fit, HS.out.le, HB1.out⟩
                  go_wp2_with fail
                  go_meet
                  exact ⟨rfl, HRS, Lib.hid (fun _ => rfl)⟩
                · have HE0 := Lib.hid hE0
                  have hT : T = Mp.mk i := by
                    by_cases hl : 8 < k ∨ 16 < v
                    · exact (HMM.out.1 hl).1
                    · by_cases h8 : 8 ≤ i
                      · exact (HMM.out.2.1 hl h8).1
                      · exact absurd (HMM.out.2.2 hl (by omega)).2.1 hE0
                  have he1 : (E == 0) = false := by simpa using hE0
                  have he2 : (E != 0) = true := by simpa using hE0
                  subst hT
                  clear hE0
                  go_wp2_with fail
                  refine (samePairs_bel _ (ps := Mp.mk i) (by omega) (HINV.out.byt) ((HS.out.r.below' HBW.out).below HBD.out) HQ.out.rd).mono ?_
                  rintro e wt ⟨rfl, hbt⟩
                  have HSt : Hid (RdM w wt A mi c (Mp.mk i)) := Lib.hid ⟨(((HS.out.r.below' HBW.out).below' HBD.out).below' hbt), HS.out.le, HB1.out.trans (hbt.mono HB1.out.size)⟩
                  go_wp2_with fail
                  go_meet
                  exact ⟨rfl, HSt, Lib.hid (fun h => absurd h HE0.out)⟩
              case rest =>
                obtain ⟨rfl, HSx, HWX⟩ := hcut
                rename World => wx
                go_upto_region 19 with fail
                go_cut [124] from 91 to 124 (fun s124 wz => s124 = .bool false ∧ Hid (RdM w wz A mi c (Mp.mk i)))
                case first =>
                  by_cases hE0 : E = 0
                  · have hww := HWX.out hE0
                    subst hww
                    clear HWX
                    subst hE0
                    have hnl : ¬ (8 < k ∨ 16 < v) := fun hl => by have := (HMM.out.1 hl).2; omega
                    have hi8 : i < 8 := by
                      rcases Nat.lt_or_ge i 8 with h | h
                      · exact h
                      · have := (HMM.out.2.1 hnl h).2; omega
                    obtain ⟨hT, _, hN, hgv⟩ := HMM.out.2.2 hnl hi8
                    have hm := HM0.out
                    have hm1 : m = i + 1 := by rw [← hm, hT, List.length_cons, Mp.mk_len]; omega
                    rw [← hT] at hgv
                    have h1 : flat T = List.replicate k 0 :: List.replicate v 0 :: flat (Mp.mk i) := by rw [hT, flat_cons]
                    obtain ⟨vs, hrow, hown⟩ := HQ.out
                    obtain ⟨g, rfl, hg1, hg2⟩ := own_addrS hrow (by omega)
                    obtain ⟨A3, c3, hv3, ho3⟩ := hown.cell 0 (List.replicate k 0) (by rw [h1]; rfl)
                    have hc3 := (hrow.cellAt 0 (by omega)).trans hv3
                    rw [List.length_replicate] at hc3 ho3
                    obtain ⟨sk, hsk⟩ : ∃ s, strB (List.replicate k 0) = s := ⟨_, rfl⟩
                    obtain ⟨sv, hsv⟩ : ∃ s, strB (List.replicate v 0) = s := ⟨_, rfl⟩
                    have HR3 := Lib.hid (Rd.own_ ho3)
                    have HKd := Lib.hid ((HK.out.below HBD.out).fit)
                    have HVd := Lib.hid ((HV.out.below HBD.out).fit)
                    have HC3 := Lib.hid hc3
                    have HCN := Lib.hid x2
                    subst hN
                    have HSK := Lib.hid hsk
                    have HSV := Lib.hid hsv
                    have HGV := Lib.hid hgv
                    have HM1 := Lib.hid hm1
                    have kf := val_field
                    have hself : (sv.toList == sv.toList) = true := by simp
                    have hselfk : (sk.toList == sk.toList) = true := by simp
                    have HX2 : Hid (wd.cell? ⟨w1.heap.size, 2, none⟩ = some (.int .i64 ((i : Int) + 1))) := Lib.hid x2
                    have HRS0 : Hid (RdM w wd A mi c (Mp.mk i)) := Lib.hid ⟨((HS.out.r.below' HBW.out).below HBD.out).fit, HS.out.le, HB1.out⟩
                    have hmz : (m : Int) = (i : Int) + 1 := by omega
                    clear hT hgv h1 hrow hown hv3 ho3 hc3 hsk hsv hm hm1 hnl
                    have hwi2 : IntKind.i64.wrap ((i : Int) + 1) = (i : Int) + 1 := IntWalk.i64_in _ (by omega)
                    refine wp_region_held_drew (S := fun w' => Below wd.heap.size wd w') (by kernel_rfl) (Below.refl _ _).drew (fun _ => ?_)
                    have hS0 : Below wd.heap.size wd wd.drew := (Below.refl _ _).drew
                    clear x0 x1
                    generalize wd.drew = w4 at hS0 ⊢
                    have hS := Lib.hid hS0
                    clear hS0
                    refine wpAnyH_take (i := 0) (v := .int .i64 0) rfl (by kernel_rfl) (by kernel_rfl) (by kernel_rfl) (fun _ _ _ h => h) (Or.inl ⟨by kernel_rfl, fun w _ => by go_simp⟩) hS.out ?_
                    refine wpAnyH_take (i := 1) (v := .bool true) rfl (by kernel_rfl) (by kernel_rfl) (by kernel_rfl) (fun _ _ _ h => h) (Or.inl ⟨by kernel_rfl, fun w _ => by go_simp⟩) hS.out ?_
                    refine wpAnyH_take (i := 2) (v := .bool true) rfl (by kernel_rfl) (by kernel_rfl) (by kernel_rfl) (fun _ _ _ h => h) (Or.inl ⟨by kernel_rfl, fun w _ => by go_simp⟩) hS.out ?_
                    refine wpAnyH_take (i := 3) (v := .pointer (some ⟨w1.heap.size, 2, none⟩)) rfl (by kernel_rfl) (by kernel_rfl) (by kernel_rfl) (fun _ _ _ h => h) (Or.inl ⟨by kernel_rfl, fun w _ => by go_simp⟩) hS.out ?_
                    refine wpAnyH_take (i := 4) (v := .int .i64 ((i : Int) + 1)) rfl (by kernel_rfl) (by kernel_rfl) (by kernel_rfl) (fun _ _ _ h => h) (Or.inl ⟨by kernel_rfl, fun w h => by have q := (Below.cell h (p := ⟨w1.heap.size, 2, none⟩) HBL.out.lt).trans HX2.out; go_simp⟩) hS.out ?_
                    refine wpAnyH_take (i := 5) (v := .int .i64 (i : Int)) rfl (by kernel_rfl) (by kernel_rfl) (by kernel_rfl) (fun _ _ _ h => h) (Or.inl ⟨by kernel_rfl, fun w _ => by go_simp⟩) hS.out ?_
                    refine wpAnyH_take (i := 6) (v := .int .i64 ((i : Int) + 1)) rfl (by kernel_rfl) (by kernel_rfl) (by kernel_rfl) (fun _ _ _ h => h) (Or.inl ⟨by kernel_rfl, fun w _ => by go_simp⟩) hS.out ?_
                    refine wpAnyH_take (i := 7) (v := .bool false) rfl (by kernel_rfl) (by kernel_rfl) (by kernel_rfl) (fun _ _ _ h => h) (Or.inl ⟨by kernel_rfl, fun w _ => by go_simp⟩) hS.out ?_
                    refine wpAnyH_take (i := 8) (v := .bool false) rfl (by kernel_rfl) (by kernel_rfl) (by kernel_rfl) (fun _ _ _ h => h) (Or.inl ⟨by kernel_rfl, fun w _ => by go_simp⟩) hS.out ?_
                    refine wpAnyH_take (i := 9) (v := .slice (some ⟨g, 0, none⟩) m c1) rfl (by kernel_rfl) (by kernel_rfl) (by kernel_rfl) (fun _ _ _ h => h) (Or.inl ⟨by kernel_rfl, fun w _ => by go_simp⟩) hS.out ?_
                    refine wpAnyH_take (i := 10) (v := .slice B1 k k) rfl (by kernel_rfl) (by kernel_rfl) (by kernel_rfl) (fun _ _ _ h => h) (Or.inl ⟨by kernel_rfl, fun w _ => by go_simp⟩) hS.out ?_
                    refine wpAnyH_take (i := 14) (v := .slice B2 v v) rfl (by kernel_rfl) (by kernel_rfl) (by kernel_rfl) (fun _ _ _ h => h) (Or.inl ⟨by kernel_rfl, fun w _ => by go_simp⟩) hS.out ?_
                    refine wpAnyH_take (i := 15) (v := .string sv) rfl (by kernel_rfl) (by kernel_rfl) (by kernel_rfl) (fun _ _ _ h => h) (Or.inl ⟨by kernel_rfl, fun w h => by have q := str_of (c := v) (HVd.out.below h); rw [HSV.out] at q; go_simp⟩) hS.out ?_
                    refine wpAnyH_ready (rs := [11]) (by kernel_rfl) (by simp) ?_
                    refine AllReadyH.cons rfl (fun K hK => ?_) AllReadyH.nil
                    go_simp
                    have hbw := HB1.out.trans (hS.out.mono HB1.out.size)
                    have hcall := hG (W := w) (w := w4) (c := c1) (c' := k) (k := List.replicate k 0) HQ.out.cap HTI.out (HBZ.out k) (by omega) (HQ.out.rd.below hS.out) (HKd.out.below hS.out) hbw
                    rw [HGV.out] at hcall
                    refine hcall.mono ?_
                    clear hcall
                    rintro e w5 ⟨A5, c5, rfl, hv5, hB5, hb5⟩
                    unfold resV
                    rw [List.length_replicate] at hv5
                    rw [List.length_replicate]
                    have hsz4 : wd.heap.size ≤ w4.heap.size := hS.out.size
                    have hS := Lib.hid (hS.out.trans (hb5.mono hsz4))
                    have hstr5 := str_of (c := c5) (Rd.own_ hv5)
                    rw [HSV.out] at hstr5
                    have HB5 := Lib.hid hB5
                    clear hv5 hB5 hb5 hbw
                    go_simp
                    refine hK.out _ _ hS.out (fun _ => ?_)
                    clear hK K
                    refine wpAnyH_take (i := 12) (v := .slice A5 v c5) rfl (by kernel_rfl) (by kernel_rfl) (by kernel_rfl) (fun _ _ _ h => h) (Or.inl ⟨by kernel_rfl, fun w _ => by go_simp⟩) hS.out ?_
                    refine wpAnyH_ready (rs := [13]) (by kernel_rfl) (by simp) ?_
                    refine AllReadyH.cons rfl (fun K hK => ?_) AllReadyH.nil
                    go_simp
                    refine hK.out _ _ hS.out (fun _ => ?_)
                    clear hK K
                    refine wpAnyH_take (i := 16) (v := .bool false) rfl (by kernel_rfl) (by kernel_rfl) (by kernel_rfl) (fun _ _ _ h => h) (Or.inl ⟨by kernel_rfl, fun w _ => by go_simp⟩) hS.out ?_
                    refine wpAnyH_take (i := 17) (v := .bool false) rfl (by kernel_rfl) (by kernel_rfl) (by kernel_rfl) (fun _ _ _ h => h) (Or.inl ⟨by kernel_rfl, fun w _ => by go_simp⟩) hS.out ?_
                    refine wpAnyH_take (i := 18) (v := .bool false) rfl (by kernel_rfl) (by kernel_rfl) (by kernel_rfl) (fun _ _ _ h => h) (Or.inl ⟨by kernel_rfl, fun w _ => by go_simp⟩) hS.out ?_
                    refine wpAnyH_take (i := 19) (v := .slice (some ⟨g, 0, none⟩) m c1) rfl (by kernel_rfl) (by kernel_rfl) (by kernel_rfl) (fun _ _ _ h => h) (Or.inl ⟨by kernel_rfl, fun w _ => by go_simp⟩) hS.out ?_
                    refine wpAnyH_take (i := 20) (v := .int .i64 (m : Int)) rfl (by kernel_rfl) (by kernel_rfl) (by kernel_rfl) (fun _ _ _ h => h) (Or.inl ⟨by kernel_rfl, fun w _ => by go_simp⟩) hS.out ?_
                    refine wpAnyH_take (i := 21) (v := .bool false) rfl (by kernel_rfl) (by kernel_rfl) (by kernel_rfl) (fun _ _ _ h => h) (Or.inl ⟨by kernel_rfl, fun w h => by go_simp; omega⟩) hS.out ?_
                    refine wpAnyH_take (i := 22) (v := .bool false) rfl (by kernel_rfl) (by kernel_rfl) (by kernel_rfl) (fun _ _ _ h => h) (Or.inl ⟨by kernel_rfl, fun w _ => by go_simp⟩) hS.out ?_
                    refine wpAnyH_take (i := 23) (v := .bool false) rfl (by kernel_rfl) (by kernel_rfl) (by kernel_rfl) (fun _ _ _ h => h) (Or.inl ⟨by kernel_rfl, fun w _ => by go_simp⟩) hS.out ?_
                    refine wpAnyH_take (i := 24) (v := .slice (some ⟨g, 0, none⟩) m c1) rfl (by kernel_rfl) (by kernel_rfl) (by kernel_rfl) (fun _ _ _ h => h) (Or.inl ⟨by kernel_rfl, fun w _ => by go_simp⟩) hS.out ?_
                    refine wpAnyH_take (i := 25) (v := .pointer (some ⟨g, 0, none⟩)) rfl (by kernel_rfl) (by kernel_rfl) (by kernel_rfl) (fun _ _ _ h => h) (Or.inl ⟨by kernel_rfl, fun w _ => by go_simp⟩) hS.out ?_
                    refine wpAnyH_take (i := 26) (v := .pointer (some ⟨g, 0, none⟩)) rfl (by kernel_rfl) (by kernel_rfl) (by kernel_rfl) (fun _ _ _ h => h) (Or.inl ⟨by kernel_rfl, fun w _ => by go_simp⟩) hS.out ?_
                    refine wpAnyH_take (i := 27) (v := .slice A3 k c3) rfl (by kernel_rfl) (by kernel_rfl) (by kernel_rfl) (fun _ _ _ h => h) (Or.inl ⟨by kernel_rfl, fun w h => by have q := (Below.cell h (p := ⟨g, 0, none⟩) hg2).trans HC3.out; go_simp⟩) hS.out ?_
                    refine wpAnyH_take (i := 28) (v := .string sk) rfl (by kernel_rfl) (by kernel_rfl) (by kernel_rfl) (fun _ _ _ h => h) (Or.inl ⟨by kernel_rfl, fun w h => by have q := str_of (c := c3) (HR3.out.below h); rw [HSK.out] at q; go_simp⟩) hS.out ?_
                    refine wpAnyH_take (i := 29) (v := .slice B1 k k) rfl (by kernel_rfl) (by kernel_rfl) (by kernel_rfl) (fun _ _ _ h => h) (Or.inl ⟨by kernel_rfl, fun w _ => by go_simp⟩) hS.out ?_
                    refine wpAnyH_take (i := 30) (v := .string sk) rfl (by kernel_rfl) (by kernel_rfl) (by kernel_rfl) (fun _ _ _ h => h) (Or.inl ⟨by kernel_rfl, fun w h => by have q := str_of (c := k) (HKd.out.below h); rw [HSK.out] at q; go_simp⟩) hS.out ?_
                    refine wpAnyH_take (i := 31) (v := .bool false) rfl (by kernel_rfl) (by kernel_rfl) (by kernel_rfl) (fun _ _ _ h => h) (Or.inl ⟨by kernel_rfl, fun w _ => by go_simp⟩) hS.out ?_
                    refine wpAnyH_take (i := 32) (v := .bool false) rfl (by kernel_rfl) (by kernel_rfl) (by kernel_rfl) (fun _ _ _ h => h) (Or.inl ⟨by kernel_rfl, fun w _ => by go_simp⟩) hS.out ?_
                    refine wpAnyH_take (i := 33) (v := .bool false) rfl (by kernel_rfl) (by kernel_rfl) (by kernel_rfl) (fun _ _ _ h => h) (Or.inl ⟨by kernel_rfl, fun w _ => by go_simp⟩) hS.out ?_
                    refine wpAnyH_done (by kernel_rfl) ?_ _
                    go_wp2_with fail
                    go_meet
                    exact ⟨rfl, Lib.hid ⟨HRS0.out.r.below' hS.out, HRS0.out.le, HB5.out⟩⟩
                  · have he1 : (E == 0) = false := by simpa using hE0
                    have he2 : (E != 0) = true := by simpa using hE0
                    clear x0 x1 x2 hE0
                    go_quiet (fail)
                    go_wp2_with fail
                    go_meet
                    exact ⟨rfl, Lib.hid ⟨HSx.out.r.below' (belowN_d nq), HSx.out.le, belowN_ HSx.out.bel nq⟩⟩
                case rest =>
                  obtain ⟨rfl, HSt⟩ := hcut
                  rename World => wt
                  clear x0 x1 x2 HWX HSx
                  have kc := const1
                  have kc2 := const2
                  have HZZ : Hid (∀ wx, Below wt.heap.size wt wx → Calls Try.prog 8 #[.slice A mi c, .slice (some ⟨wx.heap.size, 0, none⟩) 2 2] (wx.alloc (.cells #[.int .u8 122, .int .u8 122] 5 (2, 3))) (GotR w (wx.alloc (.cells #[.int .u8 122, .int .u8 122] 5 (2, 3))) 5 (Mp.getV (Mp.mk i) [122, 122]) 0)) := Lib.hid (fun wx hb => by
                    have b1 : Below wx.heap.size wx (wx.alloc (.cells #[.int .u8 122, .int .u8 122] 5 (2, 3))) := (Below.refl _ _).alloc (Nat.le_refl _) _
                    have bw := HSt.out.bel.trans (hb.mono HSt.out.bel.size)
                    have h := hG (W := w) (c := c) (c' := 2) (k := [122, 122]) HSt.out.le HINV.out (by simp) (by omega) ((HSt.out.r.below' hb).below b1) (Rd.made wx #[.int .u8 122, .int .u8 122] 5 (2, 3) 2 rfl) (bw.trans (b1.mono bw.size))
                    rw [Mp.mk_zz i (by omega)] at h
                    exact h)
                  have kf0 : ∀ (e N : Int) (A : Option Addr) (n c : Nat) (w : World), (Instr.field 26 (.agg #[.int .i64 e, .slice A n c, .int .i64 N]) 0).run Try.prog w = .ok (.int .i64 e) w := fun _ _ _ _ _ _ => rfl
                  by_cases hi0 : 0 < i
                  · have h0i : (0 : Int) < (i : Int) := by omega
                    obtain ⟨a1', a2', a3', a4', a5'⟩ := Mp.mk_a i (by omega) hi0
                    obtain ⟨T2, hT2⟩ : ∃ T, Mp.putS (Mp.mk i) [97] [110, 101, 119] = T := ⟨_, rfl⟩
                    have hTI2 : Mp.Inv T2 := by rw [← hT2]; exact HINV.out.put (by simp) (by simp)
                    rw [hT2] at a4' a5'
                    have HPA : Hid (Calls Try.prog 6 #[.slice A mi c, .slice (some ⟨wt.heap.size, 0, none⟩) 1 1, .slice (some ⟨wt.heap.size + 1, 0, none⟩) 3 3] ((wt.alloc (.cells #[.int .u8 97] 5 (1, 2))).alloc (.cells #[.int .u8 110, .int .u8 101, .int .u8 119] 5 (3, 4))) (GotPR w ((wt.alloc (.cells #[.int .u8 97] 5 (1, 2))).alloc (.cells #[.int .u8 110, .int .u8 101, .int .u8 119] 5 (3, 4))) T2 0 [0] (mi : Int))) := Lib.hid (by
                      have b1 : Below wt.heap.size wt ((wt.alloc (.cells #[.int .u8 97] 5 (1, 2))).alloc (.cells #[.int .u8 110, .int .u8 101, .int .u8 119] 5 (3, 4))) := ((Below.refl _ _).alloc (Nat.le_refl _) _).alloc (by simp) _
                      have h := hP (W := w) (c := c) (c' := 1) (c'' := 3) (k := [97]) (v := [110, 101, 119]) HSt.out.le HINV.out (by simp) (by simp) (by omega) (by omega) (HSt.out.r.below b1) ((Rd.made wt #[.int .u8 97] 5 (1, 2) 1 rfl).alloc (by simp) _) (Rd.made1 wt _ #[.int .u8 110, .int .u8 101, .int .u8 119] 5 (3, 4) 3 rfl) (HSt.out.bel.trans (b1.mono HSt.out.bel.size))
                      rw [hT2, a1', a2', a3', HMI.out] at h
                      exact h)
                    have HI2 := Lib.hid hTI2
                    have HA4 := Lib.hid a4'
                    have HA5 : Hid (T2.length = mi) := Lib.hid (by rw [a5']; exact HMI.out)
                    clear a1' a2' a3' a4' a5' hT2 hTI2
                    go_wp2_with fail
                    refine HPA.out.mono ?_
                    rintro e w5 ⟨A5, c5, A6, c6, rfl, hq5, hv5, hB5, hb5⟩
                    unfold resV
                    have b6 : Below w5.heap.size w5 (w5.alloc (.cells #[.int .i64 0, .slice A6 1 c6, .int .i64 (mi : Int)] 26)) := (Below.refl _ _).alloc (Nat.le_refl _) _
                    obtain ⟨y0, y1, y2, _, _, _⟩ := three (Blk.new w5 26 #[.int .i64 0, .slice A6 1 c6, .int .i64 (mi : Int)])
                    have k6 := str_of (n := 1) (c := c6) ((Rd.own_ hv5).below b6)
                    have p1 : (strB [0] == ⟨#[0]⟩) = true := by decide
                    have p2 : ((strB [0]).toList == [0]) = true := by rw [ByteArray.toList_eq]; decide
                    have p1n : (strB [0] != ⟨#[0]⟩) = false := by decide
                    have p2n : ((strB [0]).toList != [0]) = false := by rw [ByteArray.toList_eq]; decide
                    have p3 : (strB [110, 101, 119] == ⟨#[110, 101, 119]⟩) = true := by decide
                    have p4 : ((strB [110, 101, 119]).toList == [110, 101, 119]) = true := by rw [ByteArray.toList_eq]; decide
                    have p3n : (strB [110, 101, 119] != ⟨#[110, 101, 119]⟩) = false := by decide
                    have p4n : ((strB [110, 101, 119]).toList != [110, 101, 119]) = false := by rw [ByteArray.toList_eq]; decide
                    have kf := val_field
                    have HQ5 := Lib.hid (hq5.below b6)
                    have HB6 := Lib.hid (hB5.alloc hB5.size (.cells #[.int .i64 0, .slice A6 1 c6, .int .i64 (mi : Int)] 26))
                    have hbt5 : Below wt.heap.size wt (w5.alloc (.cells #[.int .i64 0, .slice A6 1 c6, .int .i64 (mi : Int)] 26)) := ((((Below.refl _ _).alloc (Nat.le_refl _) _).alloc (by simp) _).trans (hb5.mono (by simp; omega))).trans (b6.mono (by have := hb5.size; simp at this; omega))
                    have HBT5 := Lib.hid hbt5
                    clear hq5 hv5 hB5 hb5 b6 hbt5 HPA
                    by_cases hi8 : (i : Int) ≤ 8
                    · have hmn : ((mi : Int) != (i : Int)) = false := by have := HMI.out; simp; omega
                      go_wp2_with fail
                      refine (show Calls Try.prog 8 #[.slice A5 T2.length c5, .slice (some ⟨w5.heap.size + 1, 0, none⟩) 1 1] _ (GotR w _ (Mp.getE T2 [97]) [110, 101, 119] 0) from by
                        have b7 : Below (w5.heap.size + 1) (w5.alloc (.cells #[.int .i64 0, .slice A6 1 c6, .int .i64 (mi : Int)] 26)) ((w5.alloc (.cells #[.int .i64 0, .slice A6 1 c6, .int .i64 (mi : Int)] 26)).alloc (.cells #[.int .u8 97] 5 (1, 2))) := (Below.refl _ _).alloc (by simp) _
                        have h := hG (W := w) (c := c5) (c' := 1) (k := [97]) HQ5.out.cap HI2.out (by simp) (by omega) (HQ5.out.rd.below (by rw [World.size_alloc]; exact b7)) (Rd.made1 w5 _ #[.int .u8 97] 5 (1, 2) 1 rfl) (HB6.out.trans (b7.mono (by have := HB6.out.size; simpa using this)))
                        rw [HA4.out] at h
                        exact h).mono ?_
                      rintro e w6 ⟨A8, c8, rfl, hv8, hB8, hb8⟩
                      unfold resV
                      have k8 := str_of (n := 3) (c := c8) (Rd.own_ hv8)
                      have hbt8 : Below wt.heap.size wt w6 := HBT5.out.trans ((((Below.refl _ _).alloc (Nat.le_refl _) _).trans (hb8.mono (by simp))).mono HBT5.out.size)
                      clear hv8 hb8 y0 y1 y2
                      go_wp2_with fail
                      refine (HZZ.out w6 hbt8).mono ?_
                      rintro e w7 ⟨A7, c7, rfl, hv7, hB7, hb7⟩
                      unfold resV
                      clear hv7 hb7
                      go_wp2_with (go_at_call 9; refine (hA _).mono ?_; rintro e w9 ⟨rfl, hb⟩)
                      go_ret
                      exact ⟨rfl, hB7.trans (hb.mono hB7.size)⟩
                    · have hmn : ((mi : Int) != 8) = false := by have := HMI.out; simp; omega
                      go_wp2_with fail
                      refine (show Calls Try.prog 8 #[.slice A5 T2.length c5, .slice (some ⟨w5.heap.size + 1, 0, none⟩) 1 1] _ (GotR w _ (Mp.getE T2 [97]) [110, 101, 119] 0) from by
                        have b7 : Below (w5.heap.size + 1) (w5.alloc (.cells #[.int .i64 0, .slice A6 1 c6, .int .i64 (mi : Int)] 26)) ((w5.alloc (.cells #[.int .i64 0, .slice A6 1 c6, .int .i64 (mi : Int)] 26)).alloc (.cells #[.int .u8 97] 5 (1, 2))) := (Below.refl _ _).alloc (by simp) _
                        have h := hG (W := w) (c := c5) (c' := 1) (k := [97]) HQ5.out.cap HI2.out (by simp) (by omega) (HQ5.out.rd.below (by rw [World.size_alloc]; exact b7)) (Rd.made1 w5 _ #[.int .u8 97] 5 (1, 2) 1 rfl) (HB6.out.trans (b7.mono (by have := HB6.out.size; simpa using this)))
                        rw [HA4.out] at h
                        exact h).mono ?_
                      rintro e w6 ⟨A8, c8, rfl, hv8, hB8, hb8⟩
                      unfold resV
                      have k8 := str_of (n := 3) (c := c8) (Rd.own_ hv8)
                      have hbt8 : Below wt.heap.size wt w6 := HBT5.out.trans ((((Below.refl _ _).alloc (Nat.le_refl _) _).trans (hb8.mono (by simp))).mono HBT5.out.size)
                      clear hv8 hb8 y0 y1 y2
                      go_wp2_with fail
                      refine (HZZ.out w6 hbt8).mono ?_
                      rintro e w7 ⟨A7, c7, rfl, hv7, hB7, hb7⟩
                      unfold resV
                      clear hv7 hb7
                      go_wp2_with (go_at_call 9; refine (hA _).mono ?_; rintro e w9 ⟨rfl, hb⟩)
                      go_ret
                      exact ⟨rfl, hB7.trans (hb.mono hB7.size)⟩
                  · have h0i : ¬ (0 : Int) < (i : Int) := by omega
                    go_wp2_with fail
                    refine (HZZ.out wt (Below.refl _ _)).mono ?_
                    rintro e w7 ⟨A7, c7, rfl, hv7, hB7, hb7⟩
                    unfold resV
                    clear hv7 hb7
                    go_wp2_with (go_at_call 9; refine (hA _).mono ?_; rintro e w9 ⟨rfl, hb⟩)
                    go_ret
                    exact ⟨rfl, hB7.trans (hb.mono hB7.size)⟩
end Go.Proofs.Ytmnfjobeaklokaa
