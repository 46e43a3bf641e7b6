/- GathFormsWalk -/
import Derived.Test.YtneehnoolhadbaaGF44
import Derived.Test.YtneehnoolhadbaaGF45
import Derived.BigQuiet
import Derived.Deep.CutBlock
import Derived.Deep.DeepCutAuto
namespace Go.Proofs.Ytneehnoolhadbaa
open Go.RowKit
set_option linter.unusedVariables false
set_option linter.unusedSimpArgs false
set_option maxHeartbeats 8000000 in
set_option maxRecDepth 100000 in
theorem gathForms_walk (a0 a1 : Int) (a2 : Option Addr) (len2 cap2 : Nat) (z2 : List Int) (w : World) (w0 : (Lit.int .i64 a0).wf = true) (w1 : (Lit.int .i64 a1).wf = true) (w2 : IsRow .i64 w a2 len2 cap2 z2) :
    Calls Try.prog 3 #[.int .i64 a0, .int .i64 a1, .slice a2 len2 cap2] w fun e w' => e = .returned (.bool true) ∧ Below w.heap.size w w' := by
  obtain ⟨hz1, hzl1, hle1, hcap1⟩ := w2.ints
  obtain ⟨zs, hzs⟩ : ∃ x, z2.take len2 = x := ⟨_, rfl⟩
  rw [hzs] at hz1 hzl1
  have HL1 := Lib.hid hz1
  have HZL := Lib.hid hzl1
  have hlm : len2 ≤ maxLen := Nat.le_trans hle1 hcap1
  unfold maxLen at hlm
  have c255 := and_255 a0
  have d255 := and_255 a1
  obtain ⟨p, hp, hp2⟩ : ∃ p : Nat, a0 % 256 = (p : Int) ∧ p < 256 := ⟨(a0 % 256).toNat, by omega, by omega⟩
  obtain ⟨q, hq, hq2⟩ : ∃ p : Nat, a1 % 256 = (p : Int) ∧ p < 256 := ⟨(a1 % 256).toNat, by omega, by omega⟩
  rw [hp] at c255
  rw [hq] at d255
  clear w0 w1 w2 hzs hzl1 hle1 hcap1 hz1 hp hq
  go_enter Try.func3, Try.ntmps3
  go_upto_region 2 with fail
  obtain ⟨N, hN, hN1, hN7⟩ : ∃ N : Nat, (p : Int) % 7 + 1 = (N : Int) ∧ 1 ≤ N ∧ N ≤ 7 := ⟨p % 7 + 1, by omega, by omega, by omega⟩
  rw [hN]
  clear hN
  go_upto_region 3 with fail
  obtain ⟨I, hI, hIN⟩ : ∃ I : Nat, (q : Int) % (N : Int) = (I : Int) ∧ I < N := ⟨q % N, by omega, Nat.mod_lt _ (by omega)⟩
  rw [hI]
  clear hI c255 d255
  go_wp2_with fail
  refine (gnew_any (W := w) (w := w) (a := GA.zero) (m := { Mg.zero with kind := 2, frm := (I : Int), view := 9 }) (N : Int) 9 I N (Below.refl _ _) ⟨by omega, by omega⟩ (Vw.size_of hN1 hN7) hIN (by show Vw.lo ≤ 0; decide)).mono ?_
  rintro e x1 ⟨b, S, rfl, hg, hb, hlo⟩
  have HG := Lib.hid hg
  clear hg hb hlo
  have hwI : IntKind.u64.wrap (I : Int) = (I : Int) := IntWalk.u64_in _ (by omega)
  have hwN : IntKind.u64.wrap (N : Int) = (N : Int) := IntWalk.u64_in _ (by omega)
  have hmI : min I 64 = I := by omega
  have hmN : min N 64 = N := by omega
  obtain ⟨PI, hPI, hwPI, hPI1, hPI2⟩ := pow_in (n := I) (by omega)
  obtain ⟨PN, hPN, hwPN, hPN1, hPN2⟩ := pow_in (n := N) hN7
  have HPN : Hid (Gm.full N = PN - 1) := Lib.hid (by unfold Gm.full; rw [hPN])
  have h0 : Gm.GfInv N (Gm.new N (I : Int) 9 ⟨2, (I : Int), 0, 0, false⟩) PI := ⟨rfl, rfl, rfl, by intro s hs; obtain rfl := List.mem_singleton.1 hs; rfl, by show 0 ||| 2 ^ ((I : Int).toNat) = PI; rw [Nat.zero_or]; exact hPI⟩
  have H0 := Lib.hid h0
  clear hPI hPN h0
  go_upto_region 8 with fail
  go_loopw [8, 9] (fun s8 s9 wr => ∃ (j cm : Nat) (g : Gm) (S : Nat → Prop), j ≤ len2 ∧ j ≤ 30 ∧ s9 = .int .i64 (j : Int) ∧ s8 = .int .i64 (cm : Int) ∧ Hid (GthAt w wr S b g) ∧ Hid (Gm.GfInv N g cm)) (fun _ s9 _ => 30 - (intOf s9).toNat)
  case atStart => exact ⟨0, PI, _, S, by omega, by omega, rfl, by rw [hwPI], HG, H0⟩
  case round =>
    clear HG H0 S x1 hwPI hPI1 hPI2 hwI hmI
    obtain ⟨j, cm, g, S, hjl, hj30, rfl, rfl, HG, HI⟩ := hrel
    go_upto_region 8 with fail
    obtain ⟨D, hD⟩ : ∃ D, decide (j < len2 ∧ j < 30) = D := ⟨_, rfl⟩
    have HD := Lib.hid hD
    go_cut [40] from 33 to 39 (fun s40 wx => s40 = .bool D ∧ wx = wr)
    case first =>
      clear hD
      by_cases q1 : j < len2
      · have q1' : (j : Int) < (len2 : Int) := by omega
        by_cases q2 : j < 30
        · have q2' : (j : Int) < 30 := by omega
          obtain rfl : D = true := by rw [← HD.out]; exact decide_eq_true ⟨q1, q2⟩
          go_wp2_with fail
          go_meet
          exact ⟨rfl, rfl⟩
        · have q2' : ¬ (j : Int) < 30 := by omega
          obtain rfl : D = false := by rw [← HD.out]; exact decide_eq_false (fun h => q2 h.2)
          go_wp2_with fail
          go_meet
          exact ⟨rfl, rfl⟩
      · have q1' : ¬ (j : Int) < (len2 : Int) := by omega
        obtain rfl : D = false := by rw [← HD.out]; exact decide_eq_false (fun h => q1 h.1)
        go_wp2_with fail
        go_meet
        exact ⟨rfl, rfl⟩
    case rest =>
      obtain ⟨rfl, rfl⟩ := hcut
      rename World => wr
      clear hD
      cases D with
      | true =>
        obtain ⟨q1, q2⟩ := of_decide_eq_true HD.out
        have q1' : (j : Int) < (len2 : Int) := by omega
        obtain ⟨z, hz⟩ : ∃ z, zs[j]? = some z := ⟨_, List.getElem?_eq_getElem (by have := HZL.out; omega)⟩
        obtain ⟨zb, zo, rfl, _⟩ := HL1.out.int_at q1
        have hc1 := (HL1.out.below HG.out.bel).int_cell q1 hz
        have e15 := and_15 z
        have e7 := and_7 (z / 16)
        obtain ⟨u, hu, hu2⟩ : ∃ u : Nat, z % 16 = (u : Int) ∧ u < 16 := ⟨(z % 16).toNat, by omega, by omega⟩
        obtain ⟨y, hy, hy2⟩ : ∃ u : Nat, z / 16 % 8 = (u : Int) ∧ u < 8 := ⟨(z / 16 % 8).toNat, by omega, by omega⟩
        rw [hu] at e15
        rw [hy] at e7
        clear hz hu hy
        go_upto_region 10 with fail
        go_quiet (fail)
        obtain ⟨x1, hx1⟩ : ∃ y, wr.drewN nq = y := ⟨_, rfl⟩
        have HG := Lib.hid (HG.out.below (bel_drewN wr nq))
        rw [hx1] at HG ⊢
        obtain ⟨fr, hfr, hf1, hf2⟩ : ∃ fr : Int, (u : Int) - 4 = fr ∧ -4 ≤ fr ∧ fr ≤ 11 := ⟨_, rfl, by omega, by omega⟩
        obtain ⟨vv, hvv, hv1, hv2⟩ : ∃ vv : Int, 9 + (y : Int) / 7 = vv ∧ 9 ≤ vv ∧ vv ≤ 10 := ⟨_, rfl, by omega, by omega⟩
        rw [hfr, hvv]
        clear hfr hvv hx1 hc1 e15 e7 hu2 hy2
        obtain ⟨r, hr⟩ : ∃ r, g.may ⟨2, fr, 0, 0, false⟩ vv = r := ⟨_, rfl⟩
        have HR := Lib.hid hr
        have hcm7 : cm < 128 := by rw [← HI.out.come]; exact HG.out.ok.lt7
        have hmay : r = (decide (vv = 9) && (decide (0 ≤ fr) && (decide (fr.toNat < N) && !cm.testBit fr.toNat))) := by
          rw [← hr]; unfold Gm.may; rw [HG.out.ok.lack_bit, HI.out.com, HI.out.n, HI.out.v, HI.out.come]; rfl
        have HM := Lib.hid hmay
        clear hr hmay
        go_upto_region 11 with fail
        go_cut [12] from 57 to 76 (fun s12 wx => s12 = .bool r ∧ wx = x1)
        case first =>
          by_cases h0 : 0 ≤ fr
          · by_cases hn : fr < (N : Int)
            · by_cases hv : vv = 9
              · obtain ⟨f, rfl⟩ := Int.eq_ofNat_of_zero_le h0
                have hwf : IntKind.u64.wrap (f : Int) = (f : Int) := IntWalk.u64_in _ (by omega)
                have hmf : min f 64 = f := by omega
                have hand := and_1 ((cm : Int) / 2 ^ f)
                have hbit := Vw.bit_nat cm f
                unfold Vw.bit at hbit
                have hm := HM.out
                rw [decide_eq_true hv, decide_eq_true h0, decide_eq_true (show ((f : Int)).toNat < N by omega), show ((f : Int)).toNat = f from rfl] at hm
                have hmax : max (f : Int) 0 = (f : Int) := by omega
                cases hb : cm.testBit f
                · rw [hb] at hbit hm
                  have h0' : (cm : Int) / 2 ^ f % 2 = 0 := by have := of_decide_eq_false hbit; omega
                  rw [h0'] at hand
                  obtain rfl : r = true := by simpa using hm
                  clear hm hbit h0' hb
                  go_wp2_with fail
                  all_goals
                    go_meet
                    exact ⟨rfl, rfl⟩
                · rw [hb] at hbit hm
                  have h0' : (cm : Int) / 2 ^ f % 2 = 1 := of_decide_eq_true hbit
                  rw [h0'] at hand
                  obtain rfl : r = false := by simpa using hm
                  clear hm hbit h0' hb
                  go_wp2_with fail
                  all_goals
                    go_meet
                    exact ⟨rfl, rfl⟩
              · obtain rfl : r = false := by rw [HM.out, decide_eq_false hv]; rfl
                have hd : (vv == 9) = false := by simpa using hv
                have hd2 : decide (vv = 9) = false := decide_eq_false hv
                go_wp2_with fail
                go_meet
                exact ⟨rfl, rfl⟩
            · obtain rfl : r = false := by rw [HM.out, decide_eq_false (show ¬ fr.toNat < N by omega)]; simp
              go_wp2_with fail
              go_meet
              exact ⟨rfl, rfl⟩
          · obtain rfl : r = false := by rw [HM.out, decide_eq_false h0]; simp
            go_wp2_with fail
            go_meet
            exact ⟨rfl, rfl⟩
        case rest =>
        obtain ⟨rfl, rfl⟩ := hcut
        rename World => x1
        obtain ⟨g2, hg2⟩ : ∃ g2, g.take ⟨2, fr, 0, 0, false⟩ vv = g2 := ⟨_, rfl⟩
        have HI2 := HI.out.take HG.out.ok HR.out
        rw [hg2] at HI2
        have CT := Lib.hid (gtake_any (a := GA.zero) (m := { Mg.zero with kind := 2, frm := fr, view := vv }) (r := r) (g2 := g2) HG.out (by show Vw.lo ≤ 0; decide) ⟨by show _ ≤ fr; omega, by show fr ≤ _; omega⟩ HR.out hg2)
        have HI2 := Lib.hid HI2
        clear hg2
        go_wp2_with fail
        refine CT.out.mono ?_
        rintro e x2 ⟨rfl, S2, hg, ha⟩
        clear CT HG
        have HG := Lib.hid hg
        clear hg ha
        obtain ⟨cm2, hcm2⟩ : ∃ c, (if r = true then cm ||| 2 ^ fr.toNat else cm) = c := ⟨_, rfl⟩
        rw [hcm2] at HI2
        have HC2 := Lib.hid hcm2
        clear hcm2
        have hrr : (r != r) = false := by cases r <;> rfl
        go_upto_region 14 with fail
        go_upto_if 84 with fail
        go_cut [8] from 85 to 89 (fun s8 wx => s8 = .int .i64 (cm2 : Int) ∧ wx = x2)
        case first =>
          cases r with
          | false =>
            have hc := HC2.out
            rw [if_neg (by decide)] at hc
            subst hc
            go_wp2_with fail
            go_meet
            exact ⟨rfl, rfl⟩
          | true =>
            have hm := HM.out
            have h0 : 0 ≤ fr ∧ fr < (N : Int) := by
              have hm := hm.symm
              simp only [Bool.and_eq_true, decide_eq_true_eq] at hm
              omega
            obtain ⟨f, rfl⟩ := Int.eq_ofNat_of_zero_le h0.1
            have hwf : IntKind.u64.wrap (f : Int) = (f : Int) := IntWalk.u64_in _ (by omega)
            have hmf : min f 64 = f := by omega
            have hor := Vw.or_nat hcm7 (show f < 7 by omega)
            obtain ⟨P, hP, hwP, hP1, hP2⟩ := pow_in (n := f) (by omega)
            have hc := HC2.out
            rw [if_pos rfl, show ((f : Int)).toNat = f from rfl] at hc
            rw [hc, show ((2 : Int) ^ f) = (P : Int) by rw [← hP]; simp] at hor
            clear hm h0 hc hP
            go_wp2_with fail
            go_meet
            exact ⟨rfl, rfl⟩
        case rest =>
        obtain ⟨rfl, rfl⟩ := hcut
        rename World => x2
        obtain ⟨x, hx⟩ : ∃ x, g2.lacking = x := ⟨_, rfl⟩
        have hx7 : x < 128 := by rw [← hx]; exact HG.out.ok.lack_lt
        have hcm27 : cm2 < 128 := by rw [← HI2.out.come]; exact HG.out.ok.lt7
        have han := Gm.andNot_nat (a := PN - 1) (b := cm2) (by omega) hcm27
        have hxe : Gm.dif (PN - 1) cm2 = x := by rw [← hx, ← HPN.out]; unfold Gm.lacking; rw [HI2.out.n, HI2.out.come]
        rw [hxe, show ((PN - 1 : Nat) : Int) = (PN : Int) - 1 by omega] at han
        obtain ⟨L, hL⟩ : ∃ L, Vw.mem (x : Int) = L := ⟨_, rfl⟩
        have HL := Lib.hid hL
        obtain ⟨al, hal⟩ : ∃ al, g2.all = al := ⟨_, rfl⟩
        have hae : ((cm2 : Int) == (PN : Int) - 1) = al := by
          rw [← hal, HG.out.ok.all_is, HI2.out.come, HI2.out.n, HPN.out, show ((cm2 : Int) == (PN : Int) - 1) = decide ((cm2 : Int) = (PN : Int) - 1) by rfl]
          first | done | exact decide_eq_decide.2 (by omega)
        have CA := Lib.hid (gabsent_any (l := L) HG.out (by rw [hx]; exact hL))
        have HAL := Lib.hid hal
        have haa : (al != al) = false := by cases al <;> rfl
        clear hx hxe hL hal hcm7 hcm27
        go_wp2_with fail
        refine CA.out.mono ?_
        rintro e x3 ⟨A3, c3, rfl, ho3, hB3, hb3⟩
        have HG := Lib.hid (HG.out.below hb3)
        have HO3 := Lib.hid ho3
        have HL7 : Hid (L.length ≤ 7) := Lib.hid (by rw [← HL.out, Vw.mem_len]; exact Vw.members_len _)
        clear ho3 hB3 hb3 CA
        go_wp2_with fail
        refine (refMembers_any (W := x3) (w := x3) (x : Int) ⟨by omega, by omega⟩ (Below.refl _ _)).mono ?_
        rw [HL.out]
        rintro e x4 ⟨A4, c4, rfl, ho4, hB4, hb4⟩
        have HG := Lib.hid (HG.out.below hb4)
        have HO3 := Lib.hid (ownsRow_below HO3.out hb4)
        have HO4 := Lib.hid ho4
        clear ho4 hB4 hb4 HL
        go_wp2_with fail
        refine (same_any _ A3 A4 L.length c3 L.length c4 _ _ L L (Rd.own_ HO3.out) (Rd.own_ HO4.out) (by have := HL7.out; unfold maxLen; omega) (by have := HL7.out; unfold maxLen; omega)).mono ?_
        rw [show decide (L = L) = true by simp]
        rintro e x5 ⟨rfl, k5, hw5⟩
        have HG : Hid (GthAt w x5 S2 b g2) := Lib.hid (by rw [hw5]; exact HG.out.below (bel_drewN _ _))
        clear hw5 HO3 HO4
        go_wp2_with fail
        refine (gall_any HG.out HAL.out).mono ?_
        rintro e x6 ⟨rfl, hb6⟩
        have HG := Lib.hid (HG.out.below hb6)
        clear hb6 HAL
        have hw8 : IntKind.i64.wrap ((j : Int) + 1) = (j : Int) + 1 := IntWalk.i64_in _ (by omega)
        go_wp2_with fail
        go_roundw
        case rel => exact ⟨j + 1, cm2, g2, S2, by omega, by omega, by go_num, rfl, HG, HI2⟩
        case measure => simp [intOf]; omega
      | false =>
        have C1 := gcommit_any (g2 := g) HG.out (Gm.commit_none HI.out.com (Gm.pick_none HI.out.com HI.out.has))
        have hmz : g.msg = Mg.zero := by unfold Gm.msg; rw [HI.out.com]
        rw [hmz, show msgV GA.zero Mg.zero = .agg #[.int .i64 0, .int .i64 0, .int .i64 0, .int .i64 0, .int .i64 0, .int .i64 0, .bool false, .int .i64 0, .int .i64 0, .int .i64 0, .int .i64 0, .slice none 0 0, .int .i64 0, .int .i64 0, .slice none 0 0, .slice none 0 0, .int .i64 0, .int .i64 0, .int .i64 0, .int .i64 0, .int .i64 0, .slice none 0 0, .slice none 0 0, .slice none 0 0] from rfl, show g.com.isSome = false by rw [HI.out.com]; rfl] at C1
        have C1 := Lib.hid C1
        clear hmz
        go_wp2_with fail
        refine C1.out.mono ?_
        rintro e x2 ⟨rfl, S2, hg, ha⟩
        clear C1 HG
        have HG := Lib.hid hg
        clear hg ha
        go_upto_region 19 with (first
          | (refine wpList_store_row rfl 31 (.tmp 13) (.tmp 115) rfl x2.heap.size #[.int .i64 0, .int .i64 0, .int .i64 0, .int .i64 0, .int .i64 0, .int .i64 0, .bool false, .int .i64 0, .int .i64 0, .int .i64 0, .int .i64 0, .slice none 0 0, .int .i64 0, .int .i64 0, .slice none 0 0, .slice none 0 0, .int .i64 0, .int .i64 0, .int .i64 0, .int .i64 0, .int .i64 0, .slice none 0 0, .slice none 0 0, .slice none 0 0] rfl rfl 31 #[.int .i64 0, .int .i64 0, .int .i64 0, .int .i64 0, .int .i64 0, .int .i64 0, .bool false, .int .i64 0, .int .i64 0, .int .i64 0, .int .i64 0, .slice none 0 0, .int .i64 0, .int .i64 0, .slice none 0 0, .slice none 0 0, .int .i64 0, .int .i64 0, .int .i64 0, .int .i64 0, .int .i64 0, .slice none 0 0, .slice none 0 0, .slice none 0 0] (Blk.new x2 31 #[.int .i64 0, .int .i64 0, .int .i64 0, .int .i64 0, .int .i64 0, .int .i64 0, .bool false, .int .i64 0, .int .i64 0, .int .i64 0, .int .i64 0, .slice none 0 0, .int .i64 0, .int .i64 0, .slice none 0 0, .slice none 0 0, .int .i64 0, .int .i64 0, .int .i64 0, .int .i64 0, .int .i64 0, .slice none 0 0, .slice none 0 0, .slice none 0 0]) (by kernel_rfl) rfl (by kernel_rfl) ?_)
          | fail)
        obtain ⟨q13, x3, hgE, hwE, hbE, hkE⟩ := boxed x2 #[.int .i64 0, .int .i64 0, .int .i64 0, .int .i64 0, .int .i64 0, .int .i64 0, .bool false, .int .i64 0, .int .i64 0, .int .i64 0, .int .i64 0, .slice none 0 0, .int .i64 0, .int .i64 0, .slice none 0 0, .slice none 0 0, .int .i64 0, .int .i64 0, .int .i64 0, .int .i64 0, .int .i64 0, .slice none 0 0, .slice none 0 0, .slice none 0 0] #[.int .i64 0, .int .i64 0, .int .i64 0, .int .i64 0, .int .i64 0, .int .i64 0, .bool false, .int .i64 0, .int .i64 0, .int .i64 0, .int .i64 0, .slice none 0 0, .int .i64 0, .int .i64 0, .slice none 0 0, .slice none 0 0, .int .i64 0, .int .i64 0, .int .i64 0, .int .i64 0, .int .i64 0, .slice none 0 0, .slice none 0 0, .slice none 0 0] 31
        rw [hgE, hwE]
        have HG := Lib.hid (HG.out.below hbE)
        clear hgE hwE hbE hkE
        go_wp2_with fail
        refine (gdone_any (r := false) HG.out (Gm.done_none HI.out.com)).mono ?_
        rintro e x4 ⟨rfl, hb⟩
        have HG := Lib.hid (HG.out.below hb)
        clear hb
        go_wp2_with fail
        refine (gready_any (r := false) (g2 := g.doR (I : Int)) HG.out (z := (I : Int)) ⟨by omega, by omega⟩ (Gm.mayR_none HI.out.com _) rfl).mono ?_
        rintro e x5 ⟨rfl, S5, hg, ha⟩
        clear HG
        have hg2 : GthAt w x5 S5 b g := by
          have e1 : g.doR (I : Int) = g := by unfold Gm.doR; rw [if_neg (by rw [Gm.mayR_none HI.out.com]; decide)]
          rwa [e1] at hg
        have HG := Lib.hid hg2
        clear hg ha hg2
        go_wp2_with fail
        refine (gunr_any (l := []) HG.out (by rw [Gm.unready_none HI.out.com]; rfl)).mono ?_
        rintro e x6 ⟨A6, c6, rfl, ho6, hB6, hb6⟩
        have HG := Lib.hid (HG.out.below hb6)
        clear ho6 hB6 hb6
        go_wp2_with fail
        refine (awake18 x6).mono ?_
        rintro e x7 ⟨rfl, hb7⟩
        have HG := Lib.hid (HG.out.below hb7)
        clear hb7
        go_wp2_with fail
        go_ret
        exact ⟨rfl, HG.out.bel⟩
end Go.Proofs.Ytneehnoolhadbaa

