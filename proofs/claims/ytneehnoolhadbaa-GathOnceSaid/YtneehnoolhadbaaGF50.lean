/- GathBlocksWalk -/
import Derived.Test.YtneehnoolhadbaaGF44
import Derived.Test.YtneehnoolhadbaaGF49
import Derived.BigQuiet
import Derived.Deep.CutBlock
import Derived.Deep.DeepCutAuto
namespace Go.Proofs.Ytneehnoolhadbaa
open Go.RowKit
set_option linter.unusedVariables false
set_option linter.unusedSimpArgs false
theorem Gm.msg_com {g : Gm} {m : Nat} {s ln id v : Int} (h : g.com = some (m, s, ln)) (hi : g.id = id) (hv : g.v = v) : g.msg = { Mg.zero with kind := 3, frm := id, view := v, len := ln, mem := (m : Int), src := s } := by
  unfold Gm.msg
  rw [h, hi, hv]
set_option maxHeartbeats 8000000 in
set_option maxRecDepth 100000 in
theorem gathBlocks_walk (a0 : Option Addr) (len0 cap0 : Nat) (z0 : List Int) (a1 : Int) (w : World) (w0 : IsRow .i64 w a0 len0 cap0 z0) (w1 : (Lit.int .i64 a1).wf = true) :
    Calls Try.prog 5 #[.slice a0 len0 cap0, .int .i64 a1] w fun e w' => e = .returned (.bool true) ∧ Below w.heap.size w w' := by
  obtain ⟨hz1, hzl1, hle1, hcap1⟩ := w0.ints
  obtain ⟨zs, hzs⟩ : ∃ x, z0.take len0 = x := ⟨_, rfl⟩
  rw [hzs] at hz1 hzl1
  have HL1 := Lib.hid hz1
  have HZL := Lib.hid hzl1
  have hlm : len0 ≤ maxLen := Nat.le_trans hle1 hcap1
  unfold maxLen at hlm
  have c255 := and_255 a1
  obtain ⟨p, hp, hp2⟩ : ∃ p : Nat, a1 % 256 = (p : Int) ∧ p < 256 := ⟨(a1 % 256).toNat, by omega, by omega⟩
  rw [hp] at c255
  clear w0 w1 hzs hzl1 hle1 hcap1 hz1 hp
  go_enter Try.func5, Try.ntmps5
  go_wp2_with fail
  refine (gnew_any (W := w) (w := w) (a := GA.zero) (m := { Mg.zero with kind := 2, view := 800, inst := 8, len := 3, has := true }) 5 800 0 5 (Below.refl _ _) ⟨by decide, by decide⟩ (by decide) (by decide) (by decide)).mono ?_
  rintro e x1 ⟨b, S, rfl, hg, hb, hlo⟩
  have HG : Hid (GthAt w x1 S b (Gm.new 5 0 800 Gm.bkO)) := Lib.hid hg
  clear hg hb hlo
  go_upto_region 6 with fail
  obtain ⟨who, hwho, hw1, hw4⟩ : ∃ N : Nat, (p : Int) % 4 + 1 = (N : Int) ∧ 1 ≤ N ∧ N ≤ 4 := ⟨p % 4 + 1, by omega, by omega, by omega⟩
  rw [hwho]
  clear hwho c255
  have HI0 := Lib.hid (Gm.BkI.new who)
  go_loopw [6] (fun s6 wr => ∃ (i : Nat) (g : Gm) (S : Nat → Prop), 1 ≤ i ∧ i ≤ 5 ∧ s6 = .int .i64 (i : Int) ∧ Hid (GthAt w wr S b g) ∧ Hid (Gm.BkI who i g)) (fun s6 _ => 5 - (intOf s6).toNat)
  case atStart => exact ⟨1, _, S, by omega, by omega, rfl, HG, HI0⟩
  case round =>
    clear HG HI0
    obtain ⟨i, g, S, hi1, hi5, rfl, HG, HI⟩ := hrel
    by_cases hlt : i < 5
    · have hlt' : (i : Int) < 5 := by omega
      have hw8 : IntKind.i64.wrap ((i : Int) + 1) = (i : Int) + 1 := IntWalk.i64_in _ (by omega)
      by_cases hw : i = who
      · subst hw
        go_wp2_with fail
        go_roundw
        case rel => exact ⟨i + 1, g, S, by omega, by omega, by go_num, HG, Lib.hid (HI.out.skip rfl)⟩
        case measure => simp [intOf]; omega
      · have hwi : ((i : Int) == (who : Int)) = false := by simpa using (show ¬ (i : Int) = (who : Int) by omega)
        have hwd : decide ((i : Int) = (who : Int)) = false := decide_eq_false (by omega)
        have hwn : ¬ (i : Int) = (who : Int) := by omega
        go_upto_region 9 with fail
        go_upto_region 10 with fail
        obtain ⟨kz, hkz⟩ : ∃ z : Int, z = if i < len0 then zs.getD i 0 else 0 := ⟨_, rfl⟩
        have HKZ := Lib.hid hkz
        clear hkz
        obtain ⟨D, hD⟩ : ∃ D, decide ((i : Int) < (len0 : Int)) = D := ⟨_, rfl⟩
        have HD := Lib.hid hD
        go_cut [30] from 27 to 29 (fun s30 wx => s30 = .bool D ∧ wx = wr)
        case first =>
          go_wp2_with fail
          go_meet
          exact ⟨by congr 1; rw [← HD.out]; exact decide_eq_decide.2 (by omega), rfl⟩
        case rest =>
        obtain ⟨rfl, rfl⟩ := hcut
        rename World => wr
        clear hD
        go_upto_if 30 with fail
        go_cut [7] from 31 to 34 (fun s7 wx => s7 = .int .i64 kz ∧ wx = wr)
        case first =>
          by_cases hil : i < len0
          · have hil' : (i : Int) < (len0 : Int) := by omega
            obtain ⟨z, hz⟩ : ∃ z, zs[i]? = some z := ⟨_, List.getElem?_eq_getElem (by have := HZL.out; omega)⟩
            obtain ⟨zb, zo, rfl, _⟩ := HL1.out.int_at hil
            have hc1 := (HL1.out.below HG.out.bel).int_cell hil hz
            have hk := HKZ.out
            rw [if_pos hil, List.getD_eq_getElem?_getD, hz] at hk
            have hk : kz = z := hk
            obtain rfl : D = true := by rw [← HD.out]; exact decide_eq_true hil'
            have HK := Lib.hid hk
            clear hk hz HKZ HD hi1 hi5 hlt hw8 hwi hwd hwn hw hil
            go_wp2_with fail
            go_meet
            exact ⟨by rw [HK.out], rfl⟩
          · have hil' : ¬ (i : Int) < (len0 : Int) := by omega
            have hk := HKZ.out
            rw [if_neg hil] at hk
            obtain rfl : D = false := by rw [← HD.out]; exact decide_eq_false hil'
            have HK := Lib.hid hk
            clear hk
            go_wp2_with fail
            go_meet
            exact ⟨by rw [HK.out], rfl⟩
        case rest =>
        obtain ⟨rfl, rfl⟩ := hcut
        rename World => wr
        have e15 := and_15 kz
        obtain ⟨ln, hln⟩ : ∃ z : Int, kz % 16 = z := ⟨_, rfl⟩
        rw [hln] at e15
        clear hln HKZ
        have hm := HI.out.may HG.out.ok hlt (.inl rfl) hi1 (inst := 16) (len := ln) (has := false)
        have HI2 := Lib.hid (HI.out.step HG.out.ok hi1 hlt hw ln)
        go_wp2_with fail
        refine (gtake_any (a := GA.zero) (m := { Mg.zero with kind := 2, frm := (i : Int), view := 800, inst := 16, len := ln }) (r := true) HG.out (by show Vw.lo ≤ 16; decide) ⟨by show _ ≤ (i : Int); omega, by show (i : Int) ≤ _; omega⟩ hm rfl).mono ?_
        rintro e x3 ⟨rfl, S3, hg, ha⟩
        have HG3 : Hid (GthAt w x3 S3 b (g.take ⟨2, (i : Int), 16, ln, false⟩ 800)) := Lib.hid hg
        clear hg ha HG hm
        obtain ⟨g3, hg3⟩ : ∃ g3, g.take ⟨2, (i : Int), 16, ln, false⟩ 800 = g3 := ⟨_, rfl⟩
        rw [hg3] at HG3 HI2
        clear hg3
        have C1 := gcommit_any (g2 := g3) HG3.out (Gm.commit_none HI2.out.com HI2.out.no)
        have hmz : g3.msg = Mg.zero := by unfold Gm.msg; rw [HI2.out.com]
        rw [hmz, show msgV GA.zero Mg.zero = .agg #[.int .i64 0, .int .i64 0, .int .i64 0, .int .i64 0, .int .i64 0, .int .i64 0, .bool false, .int .i64 0, .int .i64 0, .int .i64 0, .int .i64 0, .slice none 0 0, .int .i64 0, .int .i64 0, .slice none 0 0, .slice none 0 0, .int .i64 0, .int .i64 0, .int .i64 0, .int .i64 0, .int .i64 0, .slice none 0 0, .slice none 0 0, .slice none 0 0] from rfl, show g3.com.isSome = false by rw [HI2.out.com]; rfl] at C1
        have C1 := Lib.hid C1
        clear hmz
        go_wp2_with fail
        refine C1.out.mono ?_
        rintro e x4 ⟨rfl, S4, hg, ha⟩
        clear C1
        have HG := Lib.hid hg
        clear hg ha HG3
        go_upto_region 15 with (first
          | (refine wpList_store_row rfl 31 (.tmp 8) (.tmp 45) rfl x4.heap.size #[.int .i64 0, .int .i64 0, .int .i64 0, .int .i64 0, .int .i64 0, .int .i64 0, .bool false, .int .i64 0, .int .i64 0, .int .i64 0, .int .i64 0, .slice none 0 0, .int .i64 0, .int .i64 0, .slice none 0 0, .slice none 0 0, .int .i64 0, .int .i64 0, .int .i64 0, .int .i64 0, .int .i64 0, .slice none 0 0, .slice none 0 0, .slice none 0 0] rfl rfl 31 #[.int .i64 0, .int .i64 0, .int .i64 0, .int .i64 0, .int .i64 0, .int .i64 0, .bool false, .int .i64 0, .int .i64 0, .int .i64 0, .int .i64 0, .slice none 0 0, .int .i64 0, .int .i64 0, .slice none 0 0, .slice none 0 0, .int .i64 0, .int .i64 0, .int .i64 0, .int .i64 0, .int .i64 0, .slice none 0 0, .slice none 0 0, .slice none 0 0] (Blk.new x4 31 #[.int .i64 0, .int .i64 0, .int .i64 0, .int .i64 0, .int .i64 0, .int .i64 0, .bool false, .int .i64 0, .int .i64 0, .int .i64 0, .int .i64 0, .slice none 0 0, .int .i64 0, .int .i64 0, .slice none 0 0, .slice none 0 0, .int .i64 0, .int .i64 0, .int .i64 0, .int .i64 0, .int .i64 0, .slice none 0 0, .slice none 0 0, .slice none 0 0]) (by kernel_rfl) rfl (by kernel_rfl) ?_)
          | fail)
        obtain ⟨q8, x5, hgE, hwE, hbE, hkE⟩ := boxed x4 #[.int .i64 0, .int .i64 0, .int .i64 0, .int .i64 0, .int .i64 0, .int .i64 0, .bool false, .int .i64 0, .int .i64 0, .int .i64 0, .int .i64 0, .slice none 0 0, .int .i64 0, .int .i64 0, .slice none 0 0, .slice none 0 0, .int .i64 0, .int .i64 0, .int .i64 0, .int .i64 0, .int .i64 0, .slice none 0 0, .slice none 0 0, .slice none 0 0] #[.int .i64 0, .int .i64 0, .int .i64 0, .int .i64 0, .int .i64 0, .int .i64 0, .bool false, .int .i64 0, .int .i64 0, .int .i64 0, .int .i64 0, .slice none 0 0, .int .i64 0, .int .i64 0, .slice none 0 0, .slice none 0 0, .int .i64 0, .int .i64 0, .int .i64 0, .int .i64 0, .int .i64 0, .slice none 0 0, .slice none 0 0, .slice none 0 0] 31
        rw [hgE, hwE]
        have HG := Lib.hid (HG.out.below hbE)
        clear hgE hwE hbE hkE
        go_wp2_with fail
        go_roundw
        case rel => exact ⟨i + 1, g3, S4, by omega, by omega, by go_num, HG, HI2⟩
        case measure => simp [intOf]; omega
    · obtain rfl : i = 5 := by omega
      have hm := HI.out.may HG.out.ok (show who < 5 by omega) (.inr rfl) hw1 (inst := 16) (len := 2) (has := true)
      have hpk := HI.out.last HG.out.ok hw1 (by omega)
      have HPK := Lib.hid hpk
      have hpn : (g.take ⟨2, (who : Int), 16, 2, true⟩ 800).id = 0 ∧ (g.take ⟨2, (who : Int), 16, 2, true⟩ 800).v = 800 := by
        unfold Gm.take
        rw [if_pos hm]
        exact ⟨HI.out.id, HI.out.v⟩
      have HPN := Lib.hid hpn
      clear hpk hpn
      go_wp2_with fail
      refine (gtake_any (a := GA.zero) (m := { Mg.zero with kind := 2, frm := (who : Int), view := 800, inst := 16, len := 2, has := true }) (r := true) HG.out (by show Vw.lo ≤ 16; decide) ⟨by show _ ≤ (who : Int); omega, by show (who : Int) ≤ _; omega⟩ hm rfl).mono ?_
      rintro e x3 ⟨rfl, S3, hg, ha⟩
      have HG3 : Hid (GthAt w x3 S3 b (g.take ⟨2, (who : Int), 16, 2, true⟩ 800)) := Lib.hid hg
      clear hg ha HG hm
      obtain ⟨g3, hg3⟩ : ∃ g3, g.take ⟨2, (who : Int), 16, 2, true⟩ 800 = g3 := ⟨_, rfl⟩
      rw [hg3] at HG3 HPK HPN
      clear hg3
      have C1 := gcommit_any HG3.out rfl
      have hmz := Gm.msg_com (g := g3.commit) (show g3.commit.com = some (31, (who : Int), 2) from HPK.out) (show g3.commit.id = 0 from HPN.out.1) (show g3.commit.v = 800 from HPN.out.2)
      rw [hmz, show msgV GA.zero { Mg.zero with kind := 3, frm := 0, view := 800, len := 2, mem := ((31 : Nat) : Int), src := (who : Int) } = .agg #[.int .i64 3, .int .i64 0, .int .i64 0, .int .i64 800, .int .i64 0, .int .i64 2, .bool false, .int .i64 31, .int .i64 (who : Int), .int .i64 0, .int .i64 0, .slice none 0 0, .int .i64 0, .int .i64 0, .slice none 0 0, .slice none 0 0, .int .i64 0, .int .i64 0, .int .i64 0, .int .i64 0, .int .i64 0, .slice none 0 0, .slice none 0 0, .slice none 0 0] from rfl, show g3.commit.com.isSome = true by rw [show g3.commit.com = some (31, (who : Int), 2) from HPK.out]; rfl] at C1
      have C1 := Lib.hid C1
      clear hmz
      go_wp2_with fail
      refine C1.out.mono ?_
      rintro e x4 ⟨rfl, S4, hg, ha⟩
      clear C1
      have HG := Lib.hid hg
      clear hg ha HG3
      go_upto_region 20 with (first
        | (refine wpList_store_row rfl 31 (.tmp 10) (.tmp 56) rfl x4.heap.size #[.int .i64 3, .int .i64 0, .int .i64 0, .int .i64 800, .int .i64 0, .int .i64 2, .bool false, .int .i64 31, .int .i64 (who : Int), .int .i64 0, .int .i64 0, .slice none 0 0, .int .i64 0, .int .i64 0, .slice none 0 0, .slice none 0 0, .int .i64 0, .int .i64 0, .int .i64 0, .int .i64 0, .int .i64 0, .slice none 0 0, .slice none 0 0, .slice none 0 0] rfl rfl 31 #[.int .i64 0, .int .i64 0, .int .i64 0, .int .i64 0, .int .i64 0, .int .i64 0, .bool false, .int .i64 0, .int .i64 0, .int .i64 0, .int .i64 0, .slice none 0 0, .int .i64 0, .int .i64 0, .slice none 0 0, .slice none 0 0, .int .i64 0, .int .i64 0, .int .i64 0, .int .i64 0, .int .i64 0, .slice none 0 0, .slice none 0 0, .slice none 0 0] (Blk.new x4 31 #[.int .i64 0, .int .i64 0, .int .i64 0, .int .i64 0, .int .i64 0, .int .i64 0, .bool false, .int .i64 0, .int .i64 0, .int .i64 0, .int .i64 0, .slice none 0 0, .int .i64 0, .int .i64 0, .slice none 0 0, .slice none 0 0, .int .i64 0, .int .i64 0, .int .i64 0, .int .i64 0, .int .i64 0, .slice none 0 0, .slice none 0 0, .slice none 0 0]) (by kernel_rfl) rfl (by kernel_rfl) ?_)
        | fail)
      obtain ⟨q10, x5, hgE, hwE, hbE, hkE⟩ := boxed x4 #[.int .i64 0, .int .i64 0, .int .i64 0, .int .i64 0, .int .i64 0, .int .i64 0, .bool false, .int .i64 0, .int .i64 0, .int .i64 0, .int .i64 0, .slice none 0 0, .int .i64 0, .int .i64 0, .slice none 0 0, .slice none 0 0, .int .i64 0, .int .i64 0, .int .i64 0, .int .i64 0, .int .i64 0, .slice none 0 0, .slice none 0 0, .slice none 0 0] #[.int .i64 3, .int .i64 0, .int .i64 0, .int .i64 800, .int .i64 0, .int .i64 2, .bool false, .int .i64 31, .int .i64 (who : Int), .int .i64 0, .int .i64 0, .slice none 0 0, .int .i64 0, .int .i64 0, .slice none 0 0, .slice none 0 0, .int .i64 0, .int .i64 0, .int .i64 0, .int .i64 0, .int .i64 0, .slice none 0 0, .slice none 0 0, .slice none 0 0] 31
      rw [hgE, hwE]
      have HG := Lib.hid (HG.out.below hbE)
      have v3 := hkE.cell 3
      have v5 := hkE.cell 5
      have v7 := hkE.cell 7
      have v8 := hkE.cell 8
      simp at v3 v5 v7 v8
      clear hgE hwE hbE hkE
      go_wp2_with fail
      refine (awake18 x5).mono ?_
      rintro e x7 ⟨rfl, hb7⟩
      have HG := Lib.hid (HG.out.below hb7)
      clear hb7
      go_wp2_with fail
      go_ret
      exact ⟨rfl, HG.out.bel⟩
end Go.Proofs.Ytneehnoolhadbaa

