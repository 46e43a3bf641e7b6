/- GathReadyWalk -/
import Derived.Test.YtneehnoolhadbaaGF44
import Derived.Test.YtneehnoolhadbaaGF47
import Derived.BigQuiet
import Derived.Deep.CutBlock
import Derived.Deep.DeepCutAuto
namespace Go.Proofs.Ytneehnoolhadbaa
open Go.RowKit
set_option linter.unusedVariables false
set_option linter.unusedSimpArgs false
set_option maxHeartbeats 8000000 in
set_option maxRecDepth 100000 in
theorem gathReady_walk (a0 : Int) (a1 : Option Addr) (len1 cap1 : Nat) (z1 : List Int) (w : World) (w0 : (Lit.int .i64 a0).wf = true) (w1 : IsRow .i64 w a1 len1 cap1 z1) :
    Calls Try.prog 4 #[.int .i64 a0, .slice a1 len1 cap1] w fun e w' => e = .returned (.bool true) ∧ Below w.heap.size w w' := by
  obtain ⟨hz1, hzl1, hle1, hcap1⟩ := w1.ints
  obtain ⟨zs, hzs⟩ : ∃ x, z1.take len1 = x := ⟨_, rfl⟩
  rw [hzs] at hz1 hzl1
  have HL1 := Lib.hid hz1
  have HZL := Lib.hid hzl1
  have hlm : len1 ≤ maxLen := Nat.le_trans hle1 hcap1
  unfold maxLen at hlm
  have c255 := and_255 a0
  obtain ⟨p, hp, hp2⟩ : ∃ p : Nat, a0 % 256 = (p : Int) ∧ p < 256 := ⟨(a0 % 256).toNat, by omega, by omega⟩
  rw [hp] at c255
  clear w0 w1 hzs hzl1 hle1 hcap1 hz1 hp
  go_enter Try.func4, Try.ntmps4
  go_upto_region 2 with fail
  obtain ⟨N, hN, hN1, hN7⟩ : ∃ N : Nat, (p : Int) % 7 + 1 = (N : Int) ∧ 1 ≤ N ∧ N ≤ 7 := ⟨p % 7 + 1, by omega, by omega, by omega⟩
  rw [hN]
  clear hN c255
  go_wp2_with fail
  refine (gnew_any (W := w) (w := w) (a := GA.zero) (m := { Mg.zero with kind := 2, view := 8, has := true }) (N : Int) 8 0 N (Below.refl _ _) ⟨by omega, by omega⟩ (Vw.size_of hN1 hN7) hN1 (by show Vw.lo ≤ 0; decide)).mono ?_
  rintro e x1 ⟨b, S, rfl, hg, hb, hlo⟩
  have HG : Hid (GthAt w x1 S b (Gm.rdG N 1)) := Lib.hid hg
  clear hg hb hlo
  have hwN : IntKind.u64.wrap (N : Int) = (N : Int) := IntWalk.u64_in _ (by omega)
  have hmN : min N 64 = N := by omega
  obtain ⟨PN, hPN, hwPN, hPN1, hPN2⟩ := pow_in (n := N) hN7
  have hfull : ((Gm.full N : Nat) : Int) = (PN : Int) - 1 := by unfold Gm.full; rw [hPN]; omega
  have HPN := Lib.hid hfull
  clear hPN hfull
  go_upto_region 6 with fail
  go_loopw [6] (fun s6 wr => ∃ (i : Nat) (S : Nat → Prop), 1 ≤ i ∧ i ≤ N ∧ s6 = .int .i64 (i : Int) ∧ Hid (GthAt w wr S b (Gm.rdG N i))) (fun s6 _ => N - (intOf s6).toNat)
  case atStart => exact ⟨1, S, by omega, hN1, rfl, HG⟩
  case round =>
    clear HG S x1
    obtain ⟨i, S, hi1, hiN, rfl, HG⟩ := hrel
    by_cases hlt : i < N
    · have hlt' : (i : Int) < (N : Int) := by omega
      have hw8 : IntKind.i64.wrap ((i : Int) + 1) = (i : Int) + 1 := IntWalk.i64_in _ (by omega)
      go_wp2_with fail
      refine (gready_any (r := false) (g2 := Gm.rdG N i) HG.out (z := (i : Int)) ⟨by omega, by omega⟩ (Gm.mayR_none rfl _) (by unfold Gm.doR; rw [if_neg (by rw [Gm.mayR_none rfl]; decide)])).mono ?_
      rintro e x2 ⟨rfl, S2, hg, ha⟩
      clear HG
      have HG := Lib.hid hg
      clear hg ha
      go_wp2_with fail
      refine (gtake_any (a := GA.zero) (m := { Mg.zero with kind := 2, frm := (i : Int), view := 8 }) (r := true) (g2 := Gm.rdG N (i + 1)) HG.out (by show Vw.lo ≤ 0; decide) ⟨by show _ ≤ (i : Int); omega, by show (i : Int) ≤ _; omega⟩ (Gm.rdG_may N (by omega) i hlt hi1) (Gm.rdG_take hi1 hlt hN7)).mono ?_
      rintro e x3 ⟨rfl, S3, hg, ha⟩
      clear HG
      have HG := Lib.hid hg
      clear hg ha
      go_wp2_with fail
      go_roundw
      case rel => exact ⟨i + 1, S3, by omega, by omega, by go_num, HG⟩
      case measure => simp [intOf]; omega
    · obtain rfl : i = N := by omega
      have C1 := gcommit_any (g2 := Gm.rdH i 0) HG.out (Gm.rdG_commit hN1 hN7)
      rw [show msgV GA.zero (Gm.rdH i 0).msg = .agg #[.int .i64 3, .int .i64 0, .int .i64 0, .int .i64 8, .int .i64 0, .int .i64 0, .bool false, .int .i64 ((Gm.full i : Nat) : Int), .int .i64 0, .int .i64 0, .int .i64 0, .slice none 0 0, .int .i64 0, .int .i64 0, .slice none 0 0, .slice none 0 0, .int .i64 0, .int .i64 0, .int .i64 0, .int .i64 0, .int .i64 0, .slice none 0 0, .slice none 0 0, .slice none 0 0] from rfl, show (Gm.rdH i 0).com.isSome = true from rfl] at C1
      have C1 := Lib.hid C1
      go_wp2_with fail
      refine C1.out.mono ?_
      rintro e x2 ⟨rfl, S2, hg, ha⟩
      clear C1 HG
      have HG := Lib.hid hg
      clear hg ha
      go_upto_region 11 with (first
        | (refine wpList_store_row rfl 31 (.tmp 7) (.tmp 40) rfl x2.heap.size #[.int .i64 3, .int .i64 0, .int .i64 0, .int .i64 8, .int .i64 0, .int .i64 0, .bool false, .int .i64 ((Gm.full i : Nat) : Int), .int .i64 0, .int .i64 0, .int .i64 0, .slice none 0 0, .int .i64 0, .int .i64 0, .slice none 0 0, .slice none 0 0, .int .i64 0, .int .i64 0, .int .i64 0, .int .i64 0, .int .i64 0, .slice none 0 0, .slice none 0 0, .slice none 0 0] rfl rfl 31 #[.int .i64 0, .int .i64 0, .int .i64 0, .int .i64 0, .int .i64 0, .int .i64 0, .bool false, .int .i64 0, .int .i64 0, .int .i64 0, .int .i64 0, .slice none 0 0, .int .i64 0, .int .i64 0, .slice none 0 0, .slice none 0 0, .int .i64 0, .int .i64 0, .int .i64 0, .int .i64 0, .int .i64 0, .slice none 0 0, .slice none 0 0, .slice none 0 0] (Blk.new x2 31 #[.int .i64 0, .int .i64 0, .int .i64 0, .int .i64 0, .int .i64 0, .int .i64 0, .bool false, .int .i64 0, .int .i64 0, .int .i64 0, .int .i64 0, .slice none 0 0, .int .i64 0, .int .i64 0, .slice none 0 0, .slice none 0 0, .int .i64 0, .int .i64 0, .int .i64 0, .int .i64 0, .int .i64 0, .slice none 0 0, .slice none 0 0, .slice none 0 0]) (by kernel_rfl) rfl (by kernel_rfl) ?_)
        | fail)
      obtain ⟨q7, x3, hgE, hwE, hbE, hkE⟩ := boxed x2 #[.int .i64 0, .int .i64 0, .int .i64 0, .int .i64 0, .int .i64 0, .int .i64 0, .bool false, .int .i64 0, .int .i64 0, .int .i64 0, .int .i64 0, .slice none 0 0, .int .i64 0, .int .i64 0, .slice none 0 0, .slice none 0 0, .int .i64 0, .int .i64 0, .int .i64 0, .int .i64 0, .int .i64 0, .slice none 0 0, .slice none 0 0, .slice none 0 0] #[.int .i64 3, .int .i64 0, .int .i64 0, .int .i64 8, .int .i64 0, .int .i64 0, .bool false, .int .i64 ((Gm.full i : Nat) : Int), .int .i64 0, .int .i64 0, .int .i64 0, .slice none 0 0, .int .i64 0, .int .i64 0, .slice none 0 0, .slice none 0 0, .int .i64 0, .int .i64 0, .int .i64 0, .int .i64 0, .int .i64 0, .slice none 0 0, .slice none 0 0, .slice none 0 0] 31
      rw [hgE, hwE]
      have HV : Hid (VarA x3 S2 q7 #[.int .i64 3, .int .i64 0, .int .i64 0, .int .i64 8, .int .i64 0, .int .i64 0, .bool false, .int .i64 ((Gm.full i : Nat) : Int), .int .i64 0, .int .i64 0, .int .i64 0, .slice none 0 0, .int .i64 0, .int .i64 0, .slice none 0 0, .slice none 0 0, .int .i64 0, .int .i64 0, .int .i64 0, .int .i64 0, .int .i64 0, .slice none 0 0, .slice none 0 0, .slice none 0 0]) := Lib.hid (VarA.new HG.out hgE hkE)
      have HG := Lib.hid (HG.out.below hbE)
      clear hgE hwE hbE hkE
      obtain ⟨F, hF⟩ : ∃ F, Gm.full i = F := ⟨_, rfl⟩
      have hF7 : F < 128 := by rw [← hF]; exact Gm.full_lt hN7
      have hFP : (F : Int) = (PN : Int) - 1 := by rw [← hF]; exact HPN.out
      rw [hF] at HV
      have HF := Lib.hid hF
      clear hF
      have v7 := HV.out.blk.cell 7
      have v8 := HV.out.blk.cell 8
      simp at v7 v8
      rw [hFP] at v7
      go_upto_region 15 with fail
      clear hwPN hwN hmN
      go_loopw [9, 10] (fun s9 s10 wr => ∃ (j rd : Nat) (S : Nat → Prop), j ≤ len1 ∧ j ≤ 30 ∧ rd < 128 ∧ s10 = .int .i64 (j : Int) ∧ s9 = .int .i64 (rd : Int) ∧ Hid (GthAt w wr S b (Gm.rdH i rd)) ∧ Hid (VarA wr S q7 #[.int .i64 3, .int .i64 0, .int .i64 0, .int .i64 8, .int .i64 0, .int .i64 0, .bool false, .int .i64 (F : Int), .int .i64 0, .int .i64 0, .int .i64 0, .slice none 0 0, .int .i64 0, .int .i64 0, .slice none 0 0, .slice none 0 0, .int .i64 0, .int .i64 0, .int .i64 0, .int .i64 0, .int .i64 0, .slice none 0 0, .slice none 0 0, .slice none 0 0])) (fun _ s10 _ => 30 - (intOf s10).toNat)
      case atStart => exact ⟨0, 0, S2, by omega, by omega, by omega, rfl, rfl, HG, HV⟩
      case round =>
        clear HG HV v7 v8
        obtain ⟨j, rd, S, hjl, hj30, hrd7, rfl, rfl, HG, HV⟩ := hrel
        go_upto_region 15 with fail
        obtain ⟨D, hD⟩ : ∃ D, decide (j < len1 ∧ j < 30) = D := ⟨_, rfl⟩
        have HD := Lib.hid hD
        go_cut [65] from 58 to 64 (fun s65 wx => s65 = .bool D ∧ wx = wr)
        case first =>
          clear hD
          by_cases q1 : j < len1
          · have q1' : (j : Int) < (len1 : Int) := by omega
            by_cases q2 : j < 30
            · have q2' : (j : Int) < 30 := by omega
              obtain rfl : D = true := by rw [← HD.out]; exact decide_eq_true ⟨q1, q2⟩
              go_wp2_with fail
              go_meet
              exact ⟨rfl, rfl⟩
            · have q2' : ¬ (j : Int) < 30 := by omega
              obtain rfl : D = false := by rw [← HD.out]; exact decide_eq_false (fun h => q2 h.2)
              go_wp2_with fail
              go_meet
              exact ⟨rfl, rfl⟩
          · have q1' : ¬ (j : Int) < (len1 : Int) := by omega
            obtain rfl : D = false := by rw [← HD.out]; exact decide_eq_false (fun h => q1 h.1)
            go_wp2_with fail
            go_meet
            exact ⟨rfl, rfl⟩
        case rest =>
          obtain ⟨rfl, rfl⟩ := hcut
          rename World => wr
          clear hD
          cases D with
          | true =>
            obtain ⟨q1, q2⟩ := of_decide_eq_true HD.out
            have q1' : (j : Int) < (len1 : Int) := by omega
            obtain ⟨z, hz⟩ : ∃ z, zs[j]? = some z := ⟨_, List.getElem?_eq_getElem (by have := HZL.out; omega)⟩
            obtain ⟨zb, zo, rfl, _⟩ := HL1.out.int_at q1
            have hc1 := (HL1.out.below HG.out.bel).int_cell q1 hz
            have e15 := and_15 z
            obtain ⟨u, hu, hu2⟩ : ∃ u : Nat, z % 16 = (u : Int) ∧ u < 16 := ⟨(z % 16).toNat, by omega, by omega⟩
            rw [hu] at e15
            clear hz hu
            go_upto_region 18 with fail
            obtain ⟨fr, hfr, hf1, hf2⟩ : ∃ fr : Int, (u : Int) - 4 = fr ∧ -4 ≤ fr ∧ fr ≤ 11 := ⟨_, rfl, by omega, by omega⟩
            rw [hfr]
            clear hfr hc1 e15 hu2
            obtain ⟨r, hr⟩ : ∃ r, (Gm.rdH i rd).mayR fr = r := ⟨_, rfl⟩
            have HR := Lib.hid hr
            have hmay := Gm.rdH_mayR hN7 hrd7 fr
            rw [hr] at hmay
            have HM := Lib.hid hmay
            clear hr hmay
            go_cut [12] from 74 to 89 (fun s12 wx => s12 = .bool r ∧ wx = wr)
            case first =>
              by_cases h0 : 0 ≤ fr
              · by_cases hn : fr < (i : Int)
                · obtain ⟨f, rfl⟩ := Int.eq_ofNat_of_zero_le h0
                  have hwf : IntKind.u64.wrap (f : Int) = (f : Int) := IntWalk.u64_in _ (by omega)
                  have hmf : min f 64 = f := by omega
                  have hand := and_1 ((rd : Int) / 2 ^ f)
                  have hbit := Vw.bit_nat rd f
                  unfold Vw.bit at hbit
                  have hm := HM.out
                  rw [decide_eq_true h0, decide_eq_true (show ((f : Int)).toNat < i by omega), show ((f : Int)).toNat = f from rfl] at hm
                  have hmax : max (f : Int) 0 = (f : Int) := by omega
                  cases hb : rd.testBit f
                  · rw [hb] at hbit hm
                    have h0' : (rd : Int) / 2 ^ f % 2 = 0 := by have := of_decide_eq_false hbit; omega
                    rw [h0'] at hand
                    obtain rfl : r = true := by simpa using hm
                    clear hm hbit h0' hb
                    go_wp2_with fail
                    all_goals
                      go_meet
                      exact ⟨rfl, rfl⟩
                  · rw [hb] at hbit hm
                    have h0' : (rd : Int) / 2 ^ f % 2 = 1 := of_decide_eq_true hbit
                    rw [h0'] at hand
                    obtain rfl : r = false := by simpa using hm
                    clear hm hbit h0' hb
                    go_wp2_with fail
                    all_goals
                      go_meet
                      exact ⟨rfl, rfl⟩
                · obtain rfl : r = false := by rw [HM.out, decide_eq_false (show ¬ fr.toNat < i by omega)]; simp
                  go_wp2_with fail
                  go_meet
                  exact ⟨rfl, rfl⟩
              · obtain rfl : r = false := by rw [HM.out, decide_eq_false h0]; simp
                go_wp2_with fail
                go_meet
                exact ⟨rfl, rfl⟩
            case rest =>
            obtain ⟨rfl, rfl⟩ := hcut
            rename World => wr
            obtain ⟨rd2, hrd2⟩ : ∃ c, (if r = true then rd ||| 2 ^ fr.toNat else rd) = c := ⟨_, rfl⟩
            have CT := gready_any HG.out (z := fr) ⟨by omega, by omega⟩ HR.out (Gm.rdH_doR HR.out)
            rw [hrd2] at CT
            have CT := Lib.hid CT
            have HC2 := Lib.hid hrd2
            have hrr : (r != r) = false := by cases r <;> rfl
            clear hrd2
            go_wp2_with fail
            refine CT.out.mono ?_
            rintro e x2 ⟨rfl, S2, hg, ha⟩
            have HV := Lib.hid (HV.out.adv ha)
            clear CT HG
            have HG := Lib.hid hg
            clear hg ha
            have hrd27 : rd2 < 128 := HG.out.ok.rd
            go_upto_region 21 with fail
            go_upto_if 95 with fail
            go_cut [9] from 96 to 100 (fun s9 wx => s9 = .int .i64 (rd2 : Int) ∧ wx = x2)
            case first =>
              cases r with
              | false =>
                have hc := HC2.out
                rw [if_neg (by decide)] at hc
                subst hc
                go_wp2_with fail
                go_meet
                exact ⟨rfl, rfl⟩
              | true =>
                have hm := HM.out
                have h0 : 0 ≤ fr ∧ fr < (i : Int) := by
                  have hm := hm.symm
                  simp only [Bool.and_eq_true, decide_eq_true_eq] at hm
                  omega
                obtain ⟨f, rfl⟩ := Int.eq_ofNat_of_zero_le h0.1
                have hwf : IntKind.u64.wrap (f : Int) = (f : Int) := IntWalk.u64_in _ (by omega)
                have hmf : min f 64 = f := by omega
                have hor := Vw.or_nat hrd7 (show f < 7 by omega)
                obtain ⟨P, hP, hwP, hP1, hP2⟩ := pow_in (n := f) (by omega)
                have hc := HC2.out
                rw [if_pos rfl, show ((f : Int)).toNat = f from rfl] at hc
                rw [hc, show ((2 : Int) ^ f) = (P : Int) by rw [← hP]; simp] at hor
                clear hm h0 hc hP
                go_wp2_with fail
                go_meet
                exact ⟨rfl, rfl⟩
            case rest =>
            obtain ⟨rfl, rfl⟩ := hcut
            rename World => x2
            obtain ⟨x, hx⟩ : ∃ x, (Gm.rdH i rd2).unready = x := ⟨_, rfl⟩
            have hx7 : x < 128 := by rw [← hx]; exact HG.out.ok.un_lt
            have han := Gm.andNot_nat hF7 hrd27
            have hxe : Gm.dif F rd2 = x := by rw [← hx, ← HF.out]; rfl
            rw [hxe] at han
            obtain ⟨L, hL⟩ : ∃ L, Vw.mem (x : Int) = L := ⟨_, rfl⟩
            have HL := Lib.hid hL
            obtain ⟨al, hal⟩ : ∃ al, (Gm.rdH i rd2).done = al := ⟨_, rfl⟩
            have hae : ((rd2 : Int) == (F : Int)) = al := by
              rw [← hal, Gm.rdH_done HG.out.ok, HF.out, show ((rd2 : Int) == (F : Int)) = decide ((rd2 : Int) = (F : Int)) by rfl]
              first | done | exact decide_eq_decide.2 (by omega)
            have haa : (al != al) = false := by cases al <;> rfl
            have HG := HG
            have v7 := HV.out.blk.cell 7
            simp at v7
            have HLT := Lib.hid HV.out.blk.lt
            have CD : Hid (∀ wx, Below x2.heap.size x2 wx → Calls Try.prog 15 #[.pointer (some ⟨b, 0, none⟩)] wx fun e w' => e = .returned (.bool al) ∧ Below wx.heap.size wx w') := Lib.hid (fun wx hb => gdone_any (HG.out.below hb) hal)
            have CU : Hid (∀ wx, Below x2.heap.size x2 wx → Calls Try.prog 17 #[.pointer (some ⟨b, 0, none⟩)] wx (MadeI wx wx L)) := Lib.hid (fun wx hb => gunr_any (l := L) (HG.out.below hb) (by rw [hx]; exact hL))
            have HL7 : Hid (L.length ≤ 7) := Lib.hid (by rw [← hL, Vw.mem_len]; exact Vw.members_len _)
            have hw8 : IntKind.i64.wrap ((j : Int) + 1) = (j : Int) + 1 := IntWalk.i64_in _ (by omega)
            clear hx hxe hL hal hrd7 hFP
            go_upto_region 23 with fail
            have hS0 : Below x2.heap.size x2 x2.drew := bel_drewN x2 1
            refine wp_region_held_drew (S := fun w' => Below x2.heap.size x2 w') (by kernel_rfl) hS0 (fun _ => ?_)
            have hS := Lib.hid hS0
            clear hS0
            generalize x2.drew = x3 at hS ⊢
            refine wpAnyH_take (i := 0) (v := .pointer (some ⟨b, 0, none⟩)) rfl (by kernel_rfl) (by kernel_rfl) (by kernel_rfl) (fun _ _ _ h => h) (Or.inl ⟨by kernel_rfl, fun w _ => by go_simp⟩) hS.out ?_
            refine wpAnyH_take (i := 2) (v := .int .i64 (rd2 : Int)) rfl (by kernel_rfl) (by kernel_rfl) (by kernel_rfl) (fun _ _ _ h => h) (Or.inl ⟨by kernel_rfl, fun w _ => by go_simp⟩) hS.out ?_
            refine wpAnyH_take (i := 3) (v := .pointer (some ⟨q7, 7, none⟩)) rfl (by kernel_rfl) (by kernel_rfl) (by kernel_rfl) (fun _ _ _ h => h) (Or.inl ⟨by kernel_rfl, fun w _ => by go_simp⟩) hS.out ?_
            refine wpAnyH_take (i := 4) (v := .int .i64 (F : Int)) rfl (by kernel_rfl) (by kernel_rfl) (by kernel_rfl) (fun _ _ _ h => h) (Or.inl ⟨by kernel_rfl, fun wq hq => by have q := (hq.cell (p := ⟨q7, 7, none⟩) HLT.out).trans v7; go_simp⟩) hS.out ?_
            refine wpAnyH_take (i := 5) (v := .bool al) rfl (by kernel_rfl) (by kernel_rfl) (by kernel_rfl) (fun _ _ _ h => h) (Or.inl ⟨by kernel_rfl, fun w _ => by go_simp⟩) hS.out ?_
            refine wpAnyH_ready (rs := [1]) (by kernel_rfl) (by simp) ?_
            refine AllReadyH.cons rfl (fun K hK => ?_) AllReadyH.nil
            go_simp
            refine (CD.out x3 hS.out).mono ?_
            rintro e x4 ⟨rfl, hb⟩
            have hS := Lib.hid (hS.out.trans (hb.mono hS.out.size))
            clear hb
            go_simp
            refine hK.out _ _ hS.out (fun _ => ?_)
            clear hK K
            refine wpAnyH_take (i := 6) (v := .bool false) rfl (by kernel_rfl) (by kernel_rfl) (by kernel_rfl) (fun _ _ _ h => h) (Or.inl ⟨by kernel_rfl, fun w _ => by go_simp⟩) hS.out ?_
            refine wpAnyH_take (i := 7) (v := .bool false) rfl (by kernel_rfl) (by kernel_rfl) (by kernel_rfl) (fun _ _ _ h => h) (Or.inl ⟨by kernel_rfl, fun w _ => by go_simp⟩) hS.out ?_
            refine wpAnyH_take (i := 8) (v := .pointer (some ⟨b, 0, none⟩)) rfl (by kernel_rfl) (by kernel_rfl) (by kernel_rfl) (fun _ _ _ h => h) (Or.inl ⟨by kernel_rfl, fun w _ => by go_simp⟩) hS.out ?_
            refine wpAnyH_take (i := 10) (v := .pointer (some ⟨q7, 7, none⟩)) rfl (by kernel_rfl) (by kernel_rfl) (by kernel_rfl) (fun _ _ _ h => h) (Or.inl ⟨by kernel_rfl, fun w _ => by go_simp⟩) hS.out ?_
            refine wpAnyH_take (i := 11) (v := .int .i64 (F : Int)) rfl (by kernel_rfl) (by kernel_rfl) (by kernel_rfl) (fun _ _ _ h => h) (Or.inl ⟨by kernel_rfl, fun wq hq => by have q := (hq.cell (p := ⟨q7, 7, none⟩) HLT.out).trans v7; go_simp⟩) hS.out ?_
            refine wpAnyH_take (i := 12) (v := .int .i64 (rd2 : Int)) rfl (by kernel_rfl) (by kernel_rfl) (by kernel_rfl) (fun _ _ _ h => h) (Or.inl ⟨by kernel_rfl, fun w _ => by go_simp⟩) hS.out ?_
            refine wpAnyH_take (i := 13) (v := .int .i64 (x : Int)) rfl (by kernel_rfl) (by kernel_rfl) (by kernel_rfl) (fun _ _ _ h => h) (Or.inl ⟨by kernel_rfl, fun w _ => by go_simp⟩) hS.out ?_
            refine wpAnyH_ready (rs := [9]) (by kernel_rfl) (by simp) ?_
            refine AllReadyH.cons rfl (fun K hK => ?_) AllReadyH.nil
            go_simp
            refine (CU.out x4 hS.out).mono ?_
            rintro e x5 ⟨A4, c4, rfl, ho4, hB4, hb4⟩
            have hS := Lib.hid (hS.out.trans (hb4.mono hS.out.size))
            have HO4 := Lib.hid ho4
            clear ho4 hB4 hb4
            go_simp
            refine hK.out _ _ hS.out (fun _ => ?_)
            clear hK K
            refine wpAnyH_ready (rs := [14]) (by kernel_rfl) (by simp) ?_
            refine AllReadyH.cons rfl (fun K hK => ?_) AllReadyH.nil
            go_simp
            refine (refMembers_any (W := x5) (w := x5) (x : Int) ⟨by omega, by omega⟩ (Below.refl _ _)).mono ?_
            rw [HL.out]
            rintro e x6 ⟨A5, c5, rfl, ho5, hB5, hb5⟩
            have hS := Lib.hid (hS.out.trans (hb5.mono hS.out.size))
            have HO4 := Lib.hid (ownsRow_below HO4.out hb5)
            have HO5 := Lib.hid ho5
            clear ho5 hB5 hb5
            go_simp
            refine hK.out _ _ hS.out (fun _ => ?_)
            clear hK K
            refine wpAnyH_ready (rs := [15]) (by kernel_rfl) (by simp) ?_
            refine AllReadyH.cons rfl (fun K hK => ?_) AllReadyH.nil
            go_simp
            refine (same_any _ A4 A5 L.length c4 L.length c5 _ _ L L (Rd.own_ HO4.out) (Rd.own_ HO5.out) (by have := HL7.out; unfold maxLen; omega) (by have := HL7.out; unfold maxLen; omega)).mono ?_
            rw [show decide (L = L) = true by simp]
            rintro e x8 ⟨rfl, k8, hw8'⟩
            have hS : Hid (Below x2.heap.size x2 x8) := Lib.hid (by rw [hw8']; exact hS.out.trans ((bel_drewN _ _).mono hS.out.size))
            clear hw8'
            go_simp
            refine hK.out _ _ hS.out (fun _ => ?_)
            clear hK K
            refine wpAnyH_take (i := 16) (v := .bool false) rfl (by kernel_rfl) (by kernel_rfl) (by kernel_rfl) (fun _ _ _ h => h) (Or.inl ⟨by kernel_rfl, fun w _ => by go_simp⟩) hS.out ?_
            refine wpAnyH_take (i := 17) (v := .bool false) rfl (by kernel_rfl) (by kernel_rfl) (by kernel_rfl) (fun _ _ _ h => h) (Or.inl ⟨by kernel_rfl, fun w _ => by go_simp⟩) hS.out ?_
            refine wpAnyH_done (by kernel_rfl) ?_ _
            go_simp
            have HG := Lib.hid (HG.out.below hS.out)
            have HV := Lib.hid (HV.out.below hS.out)
            clear v7 HL HO4 HO5 HLT CD CU
            go_wp2_with fail
            go_roundw
            case rel => exact ⟨j + 1, rd2, S2, by omega, by omega, hrd27, by go_num, rfl, HG, HV⟩
            case measure => simp [intOf]; omega
          | false =>
            go_wp2_with fail
            refine (awake18 wr).mono ?_
            rintro e x7 ⟨rfl, hb7⟩
            have HG := Lib.hid (HG.out.below hb7)
            clear hb7
            go_wp2_with fail
            go_ret
            exact ⟨rfl, HG.out.bel⟩
end Go.Proofs.Ytneehnoolhadbaa

