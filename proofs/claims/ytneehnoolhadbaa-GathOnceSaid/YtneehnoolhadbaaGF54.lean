/- GathOnceWalk -/
import Derived.Test.YtneehnoolhadbaaGF44
import Derived.Test.YtneehnoolhadbaaGF50
import Derived.Test.YtneehnoolhadbaaGF53
import Derived.BigQuiet
import Derived.BigRegion
import Derived.Deep.CutBlock
import Derived.Deep.DeepCutAuto
namespace Go.Proofs.Ytneehnoolhadbaa
open Go.RowKit
set_option linter.unusedVariables false
set_option linter.unusedSimpArgs false
theorem Gm.msg_rd (w : World) (B : Nat) (g : Gm) : RdG w B GA.zero g.msg := by
  have h := RdG.zero w B
  unfold Gm.msg
  cases g.com with
  | none => exact h
  | some c => exact ⟨h.d, h.h, h.n, h.c, h.hl, h.nl⟩
theorem Gm.msg_wide (g : Gm) : g.msg.Wide := by
  have h := Mg.Wide.zero
  unfold Gm.msg
  cases g.com with
  | none => exact h
  | some c => exact ⟨h.1, h.2, h.3, h.4⟩
set_option maxHeartbeats 8000000 in
set_option maxRecDepth 100000 in
theorem gathOnce_walk (a0 : Int) (a1 : Option Addr) (len1 cap1 : Nat) (z1 : List Int) (a2 : Option Addr) (len2 cap2 : Nat) (z2 : List Int) (w : World) (w0 : (Lit.int .i64 a0).wf = true) (w1 : IsRow .i64 w a1 len1 cap1 z1) (w2 : IsRow .i64 w a2 len2 cap2 z2) :
    Calls Try.prog 7 #[.int .i64 a0, .slice a1 len1 cap1, .slice a2 len2 cap2] w fun e w' => e = .returned (.bool true) ∧ Below w.heap.size w w' := by
  obtain ⟨hz1, hzl1, hle1, hcap1⟩ := w1.ints
  obtain ⟨zs, hzs⟩ : ∃ x, z1.take len1 = x := ⟨_, rfl⟩
  rw [hzs] at hz1 hzl1
  have HL1 := Lib.hid hz1
  have HZL := Lib.hid hzl1
  have hlm : len1 ≤ maxLen := Nat.le_trans hle1 hcap1
  unfold maxLen at hlm
  obtain ⟨hz2, hzl2, hle2, hcap2⟩ := w2.ints
  obtain ⟨ys, hys⟩ : ∃ x, z2.take len2 = x := ⟨_, rfl⟩
  rw [hys] at hz2 hzl2
  have HL2 := Lib.hid hz2
  have HYL := Lib.hid hzl2
  have hlm2 : len2 ≤ maxLen := Nat.le_trans hle2 hcap2
  unfold maxLen at hlm2
  have c255 := and_255 a0
  obtain ⟨p, hp, hp2⟩ : ∃ p : Nat, a0 % 256 = (p : Int) ∧ p < 256 := ⟨(a0 % 256).toNat, by omega, by omega⟩
  rw [hp] at c255
  clear w0 w1 w2 hzs hzl1 hle1 hcap1 hz1 hp hys hzl2 hle2 hcap2 hz2
  go_enter Try.func7, Try.ntmps7
  go_upto_region 2 with fail
  obtain ⟨N, hN, hN1, hN7⟩ : ∃ N : Nat, (p : Int) % 7 + 1 = (N : Int) ∧ 1 ≤ N ∧ N ≤ 7 := ⟨p % 7 + 1, by omega, by omega, by omega⟩
  rw [hN]
  clear hN c255
  go_wp2_with fail
  refine (gnew_any (W := w) (w := w) (a := GA.zero) (m := { Mg.zero with kind := 2, view := 8, has := true }) (N : Int) 8 0 N (Below.refl _ _) ⟨by omega, by omega⟩ (Vw.size_of hN1 hN7) hN1 (by show Vw.lo ≤ 0; decide)).mono ?_
  rintro e x1 ⟨b, S, rfl, hg, hb, hlo⟩
  have HG := Lib.hid hg
  clear hg hb hlo
  have H0 : Hid (Gm.OnI N (Gm.new N 0 8 ⟨2, 0, 0, 0, true⟩) 1) := Lib.hid ⟨rfl, rfl, rfl, rfl, rfl⟩
  go_upto_region 7 with fail
  go_loopw [8, 9] (fun s8 s9 wr => ∃ (j cm : Nat) (g : Gm) (S : Nat → Prop), j ≤ len1 ∧ j ≤ 10 ∧ s9 = .int .i64 (j : Int) ∧ s8 = .int .i64 (cm : Int) ∧ Hid (GthAt w wr S b g) ∧ Hid (Gm.OnI N g cm)) (fun _ s9 _ => 10 - (intOf s9).toNat)
  case atStart => exact ⟨0, 1, _, S, by omega, by omega, rfl, rfl, HG, H0⟩
  case round =>
    clear HG H0
    obtain ⟨j, cm, g, S, hjl, hj30, rfl, rfl, HG, HI⟩ := hrel
    go_upto_region 7 with fail
    obtain ⟨D, hD⟩ : ∃ D, decide (j < len1 ∧ j < 10) = D := ⟨_, rfl⟩
    have HD := Lib.hid hD
    go_cut [34] from 27 to 33 (fun s34 wx => s34 = .bool D ∧ wx = wr)
    case first =>
      clear hD
      by_cases q1 : j < len1
      · have q1' : (j : Int) < (len1 : Int) := by omega
        by_cases q2 : j < 10
        · have q2' : (j : Int) < 10 := by omega
          obtain rfl : D = true := by rw [← HD.out]; exact decide_eq_true ⟨q1, q2⟩
          go_wp2_with fail
          go_meet
          exact ⟨rfl, rfl⟩
        · have q2' : ¬ (j : Int) < 10 := by omega
          obtain rfl : D = false := by rw [← HD.out]; exact decide_eq_false (fun h => q2 h.2)
          go_wp2_with fail
          go_meet
          exact ⟨rfl, rfl⟩
      · have q1' : ¬ (j : Int) < (len1 : Int) := by omega
        obtain rfl : D = false := by rw [← HD.out]; exact decide_eq_false (fun h => q1 h.1)
        go_wp2_with fail
        go_meet
        exact ⟨rfl, rfl⟩
    case rest =>
      obtain ⟨rfl, rfl⟩ := hcut
      rename World => wr
      clear hD
      cases D with
      | true =>
        obtain ⟨q1, q2⟩ := of_decide_eq_true HD.out
        have q1' : (j : Int) < (len1 : Int) := by omega
        obtain ⟨z, hz⟩ : ∃ z, zs[j]? = some z := ⟨_, List.getElem?_eq_getElem (by have := HZL.out; omega)⟩
        obtain ⟨zb, zo, rfl, hzb⟩ := HL1.out.int_at q1
        have hc1 := (HL1.out.below HG.out.bel).int_cell q1 hz
        have e7 := and_7 z
        have e3 := and_3 (z / 8)
        have e31 := and_31 (z / 32)
        have e1 := and_1 (z / 1024)
        obtain ⟨f, hf, hf8⟩ : ∃ u : Nat, z % 8 = (u : Int) ∧ u < 8 := ⟨(z % 8).toNat, by omega, by omega⟩
        obtain ⟨y, hy, hy2⟩ : ∃ u : Nat, z / 8 % 4 = (u : Int) ∧ u < 4 := ⟨(z / 8 % 4).toNat, by omega, by omega⟩
        obtain ⟨ln, hln⟩ : ∃ u : Int, z / 32 % 32 = u := ⟨_, rfl⟩
        obtain ⟨hb, hhb⟩ : ∃ u : Int, z / 1024 % 2 = u := ⟨_, rfl⟩
        rw [hf] at e7
        rw [hy] at e3
        rw [hln] at e31
        rw [hhb] at e1
        clear hz hf hy hln hhb
        go_upto_region 9 with fail
        have hwy : IntKind.i64.wrap ((y : Int) * 8) = (y : Int) * 8 := IntWalk.i64_in _ (by omega)
        have HZB : Hid (zb < wr.heap.size) := Lib.hid (World.block_lt_of_cell? _ _ hc1)
        have HC1 := Lib.hid hc1
        clear hc1
        refine region_T (n := 27) (S := fun w' => Below wr.heap.size wr w') (by kernel_rfl) ?_
        have hS := Lib.hid (bel_drewN wr 1)
        have hS : Hid (Below wr.heap.size wr wr.drew) := hS
        obtain ⟨x0, hx0⟩ : ∃ y, wr.drew = y := ⟨_, rfl⟩
        rw [hx0] at hS ⊢
        clear hx0
        refine AnyT.takeC [25, 4, 3, 2, 0] [] (i := 0) (v := .slice (some ⟨zb, zo, none⟩) len1 cap1) rfl (by kernel_rfl) (by kernel_rfl) (by kernel_rfl) (by kernel_rfl) (by kernel_rfl) (by kernel_rfl) (fun _ _ _ h => h) (Or.inl ⟨by kernel_rfl, fun w _ => by go_simp⟩) hS.out ?_
        refine AnyT.takeC [25, 4, 3, 2, 1] [] (i := 1) (v := .int .i64 (j : Int)) rfl (by kernel_rfl) (by kernel_rfl) (by kernel_rfl) (by kernel_rfl) (by kernel_rfl) (by kernel_rfl) (fun _ _ _ h => h) (Or.inl ⟨by kernel_rfl, fun w _ => by go_simp⟩) hS.out ?_
        refine AnyT.takeC [25, 4, 3, 2] [] (i := 2) (v := .pointer (some ⟨zb, zo + j, none⟩)) rfl (by kernel_rfl) (by kernel_rfl) (by kernel_rfl) (by kernel_rfl) (by kernel_rfl) (by kernel_rfl) (fun _ _ _ h => h) (Or.inl ⟨by kernel_rfl, fun w _ => by go_simp⟩) hS.out ?_
        refine AnyT.takeC [25, 4, 3] [(27, [25, 4, 3])] (i := 3) (v := .int .i64 z) rfl (by kernel_rfl) (by kernel_rfl) (by kernel_rfl) (by kernel_rfl) (by kernel_rfl) (by kernel_rfl) (fun _ _ _ h => h) (Or.inl ⟨by kernel_rfl, fun wq hq => by have q := (hq.cell (p := ⟨zb, zo + j, none⟩) HZB.out).trans HC1.out; go_simp⟩) hS.out ?_
        refine AnyT.takeC [25, 4] [] (i := 4) (v := .int .i64 (f : Int)) rfl (by kernel_rfl) (by kernel_rfl) (by kernel_rfl) (by kernel_rfl) (by kernel_rfl) (by kernel_rfl) (fun _ _ _ h => h) (Or.inl ⟨by kernel_rfl, fun w _ => by go_simp⟩) hS.out ?_
        refine AnyT.takeC [25, 11, 10, 9, 8, 7, 5] [] (i := 5) (v := .slice (some ⟨zb, zo, none⟩) len1 cap1) rfl (by kernel_rfl) (by kernel_rfl) (by kernel_rfl) (by kernel_rfl) (by kernel_rfl) (by kernel_rfl) (fun _ _ _ h => h) (Or.inl ⟨by kernel_rfl, fun w _ => by go_simp⟩) hS.out ?_
        refine AnyT.takeC [25, 11, 10, 9, 8, 7, 6] [] (i := 6) (v := .int .i64 (j : Int)) rfl (by kernel_rfl) (by kernel_rfl) (by kernel_rfl) (by kernel_rfl) (by kernel_rfl) (by kernel_rfl) (fun _ _ _ h => h) (Or.inl ⟨by kernel_rfl, fun w _ => by go_simp⟩) hS.out ?_
        refine AnyT.takeC [25, 11, 10, 9, 8, 7] [] (i := 7) (v := .pointer (some ⟨zb, zo + j, none⟩)) rfl (by kernel_rfl) (by kernel_rfl) (by kernel_rfl) (by kernel_rfl) (by kernel_rfl) (by kernel_rfl) (fun _ _ _ h => h) (Or.inl ⟨by kernel_rfl, fun w _ => by go_simp⟩) hS.out ?_
        refine AnyT.takeC [25, 11, 10, 9, 8] [(27, [25, 11, 10, 9, 8])] (i := 8) (v := .int .i64 z) rfl (by kernel_rfl) (by kernel_rfl) (by kernel_rfl) (by kernel_rfl) (by kernel_rfl) (by kernel_rfl) (fun _ _ _ h => h) (Or.inl ⟨by kernel_rfl, fun wq hq => by have q := (hq.cell (p := ⟨zb, zo + j, none⟩) HZB.out).trans HC1.out; go_simp⟩) hS.out ?_
        refine AnyT.takeC [25, 11, 10, 9] [] (i := 9) (v := .int .i64 (z / 8)) rfl (by kernel_rfl) (by kernel_rfl) (by kernel_rfl) (by kernel_rfl) (by kernel_rfl) (by kernel_rfl) (fun _ _ _ h => h) (Or.inl ⟨by kernel_rfl, fun w _ => by go_simp⟩) hS.out ?_
        refine AnyT.takeC [25, 11, 10] [] (i := 10) (v := .int .i64 (y : Int)) rfl (by kernel_rfl) (by kernel_rfl) (by kernel_rfl) (by kernel_rfl) (by kernel_rfl) (by kernel_rfl) (fun _ _ _ h => h) (Or.inl ⟨by kernel_rfl, fun w _ => by go_simp⟩) hS.out ?_
        refine AnyT.takeC [25, 11] [] (i := 11) (v := .int .i64 ((y : Int) * 8)) rfl (by kernel_rfl) (by kernel_rfl) (by kernel_rfl) (by kernel_rfl) (by kernel_rfl) (by kernel_rfl) (fun _ _ _ h => h) (Or.inl ⟨by kernel_rfl, fun w _ => by go_simp; first | done | exact hwy⟩) hS.out ?_
        refine AnyT.takeC [25, 17, 16, 15, 14, 12] [] (i := 12) (v := .slice (some ⟨zb, zo, none⟩) len1 cap1) rfl (by kernel_rfl) (by kernel_rfl) (by kernel_rfl) (by kernel_rfl) (by kernel_rfl) (by kernel_rfl) (fun _ _ _ h => h) (Or.inl ⟨by kernel_rfl, fun w _ => by go_simp⟩) hS.out ?_
        refine AnyT.takeC [25, 17, 16, 15, 14, 13] [] (i := 13) (v := .int .i64 (j : Int)) rfl (by kernel_rfl) (by kernel_rfl) (by kernel_rfl) (by kernel_rfl) (by kernel_rfl) (by kernel_rfl) (fun _ _ _ h => h) (Or.inl ⟨by kernel_rfl, fun w _ => by go_simp⟩) hS.out ?_
        refine AnyT.takeC [25, 17, 16, 15, 14] [] (i := 14) (v := .pointer (some ⟨zb, zo + j, none⟩)) rfl (by kernel_rfl) (by kernel_rfl) (by kernel_rfl) (by kernel_rfl) (by kernel_rfl) (by kernel_rfl) (fun _ _ _ h => h) (Or.inl ⟨by kernel_rfl, fun w _ => by go_simp⟩) hS.out ?_
        refine AnyT.takeC [25, 17, 16, 15] [(27, [25, 17, 16, 15])] (i := 15) (v := .int .i64 z) rfl (by kernel_rfl) (by kernel_rfl) (by kernel_rfl) (by kernel_rfl) (by kernel_rfl) (by kernel_rfl) (fun _ _ _ h => h) (Or.inl ⟨by kernel_rfl, fun wq hq => by have q := (hq.cell (p := ⟨zb, zo + j, none⟩) HZB.out).trans HC1.out; go_simp⟩) hS.out ?_
        refine AnyT.takeC [25, 17, 16] [] (i := 16) (v := .int .i64 (z / 32)) rfl (by kernel_rfl) (by kernel_rfl) (by kernel_rfl) (by kernel_rfl) (by kernel_rfl) (by kernel_rfl) (fun _ _ _ h => h) (Or.inl ⟨by kernel_rfl, fun w _ => by go_simp⟩) hS.out ?_
        refine AnyT.takeC [25, 17] [] (i := 17) (v := .int .i64 ln) rfl (by kernel_rfl) (by kernel_rfl) (by kernel_rfl) (by kernel_rfl) (by kernel_rfl) (by kernel_rfl) (fun _ _ _ h => h) (Or.inl ⟨by kernel_rfl, fun w _ => by go_simp⟩) hS.out ?_
        refine AnyT.takeC [25, 24, 23, 22, 21, 20, 18] [] (i := 18) (v := .slice (some ⟨zb, zo, none⟩) len1 cap1) rfl (by kernel_rfl) (by kernel_rfl) (by kernel_rfl) (by kernel_rfl) (by kernel_rfl) (by kernel_rfl) (fun _ _ _ h => h) (Or.inl ⟨by kernel_rfl, fun w _ => by go_simp⟩) hS.out ?_
        refine AnyT.takeC [25, 24, 23, 22, 21, 20, 19] [] (i := 19) (v := .int .i64 (j : Int)) rfl (by kernel_rfl) (by kernel_rfl) (by kernel_rfl) (by kernel_rfl) (by kernel_rfl) (by kernel_rfl) (fun _ _ _ h => h) (Or.inl ⟨by kernel_rfl, fun w _ => by go_simp⟩) hS.out ?_
        refine AnyT.takeC [25, 24, 23, 22, 21, 20] [] (i := 20) (v := .pointer (some ⟨zb, zo + j, none⟩)) rfl (by kernel_rfl) (by kernel_rfl) (by kernel_rfl) (by kernel_rfl) (by kernel_rfl) (by kernel_rfl) (fun _ _ _ h => h) (Or.inl ⟨by kernel_rfl, fun w _ => by go_simp⟩) hS.out ?_
        refine AnyT.takeC [25, 24, 23, 22, 21] [(27, [25, 24, 23, 22, 21])] (i := 21) (v := .int .i64 z) rfl (by kernel_rfl) (by kernel_rfl) (by kernel_rfl) (by kernel_rfl) (by kernel_rfl) (by kernel_rfl) (fun _ _ _ h => h) (Or.inl ⟨by kernel_rfl, fun wq hq => by have q := (hq.cell (p := ⟨zb, zo + j, none⟩) HZB.out).trans HC1.out; go_simp⟩) hS.out ?_
        refine AnyT.takeC [25, 24, 23, 22] [] (i := 22) (v := .int .i64 (z / 1024)) rfl (by kernel_rfl) (by kernel_rfl) (by kernel_rfl) (by kernel_rfl) (by kernel_rfl) (by kernel_rfl) (fun _ _ _ h => h) (Or.inl ⟨by kernel_rfl, fun w _ => by go_simp⟩) hS.out ?_
        refine AnyT.takeC [25, 24, 23] [] (i := 23) (v := .int .i64 hb) rfl (by kernel_rfl) (by kernel_rfl) (by kernel_rfl) (by kernel_rfl) (by kernel_rfl) (by kernel_rfl) (fun _ _ _ h => h) (Or.inl ⟨by kernel_rfl, fun w _ => by go_simp⟩) hS.out ?_
        refine AnyT.takeC [25, 24] [] (i := 24) (v := .bool (hb == 1)) rfl (by kernel_rfl) (by kernel_rfl) (by kernel_rfl) (by kernel_rfl) (by kernel_rfl) (by kernel_rfl) (fun _ _ _ h => h) (Or.inl ⟨by kernel_rfl, fun w _ => by go_simp⟩) hS.out ?_
        refine AnyT.takeC [25] [] (i := 25) (v := .agg #[.int .i64 2, .int .i64 (f : Int), .int .i64 0, .int .i64 8, .int .i64 ((y : Int) * 8), .int .i64 ln, .bool (hb == 1), .int .i64 0, .int .i64 0, .int .i64 0, .int .i64 0, .slice none 0 0, .int .i64 0, .int .i64 0, .slice none 0 0, .slice none 0 0, .int .i64 0, .int .i64 0, .int .i64 0, .int .i64 0, .int .i64 0, .slice none 0 0, .slice none 0 0, .slice none 0 0]) rfl (by kernel_rfl) (by kernel_rfl) (by kernel_rfl) (by kernel_rfl) (by kernel_rfl) (by kernel_rfl) (fun _ _ _ h => h) (Or.inl ⟨by kernel_rfl, fun w _ => by go_simp⟩) hS.out ?_
        refine AnyT.ready (rs := [26]) (by kernel_rfl) (by simp) ?_
        refine AllT.cons rfl (fun K hK => ?_) AllT.nil
        go_simp
        obtain ⟨q10, x1, hgE, hwE, hbE, hkE⟩ := alloced x0 #[.int .i64 0, .int .i64 0, .int .i64 0, .int .i64 0, .int .i64 0, .int .i64 0, .bool false, .int .i64 0, .int .i64 0, .int .i64 0, .int .i64 0, .slice none 0 0, .int .i64 0, .int .i64 0, .slice none 0 0, .slice none 0 0, .int .i64 0, .int .i64 0, .int .i64 0, .int .i64 0, .int .i64 0, .slice none 0 0, .slice none 0 0, .slice none 0 0] 31
        rw [hgE, hwE]
        have HQ := Lib.hid hkE
        have HQS : Hid (wr.heap.size ≤ q10) := Lib.hid (by rw [← hgE]; exact hS.out.size)
        have hS := Lib.hid (hS.out.trans (hbE.mono hS.out.size))
        clear hgE hwE hbE hkE
        go_simp
        refine hK.out _ _ (Or.inr (hS.out)) (fun _ => ?_)
        clear hK K
        refine AnyT.ready (rs := [27]) (by kernel_rfl) (by simp) ?_
        refine AllT.cons rfl (fun K hK => ?_) AllT.nil
        rw [if_pos (by kernel_rfl)]
        refine wp_store_row 31 (.tmp 10) (.tmp 62) rfl q10 #[.int .i64 2, .int .i64 (f : Int), .int .i64 0, .int .i64 8, .int .i64 ((y : Int) * 8), .int .i64 ln, .bool (hb == 1), .int .i64 0, .int .i64 0, .int .i64 0, .int .i64 0, .slice none 0 0, .int .i64 0, .int .i64 0, .slice none 0 0, .slice none 0 0, .int .i64 0, .int .i64 0, .int .i64 0, .int .i64 0, .int .i64 0, .slice none 0 0, .slice none 0 0, .slice none 0 0] (by kernel_rfl) (by kernel_rfl) 31 #[.int .i64 0, .int .i64 0, .int .i64 0, .int .i64 0, .int .i64 0, .int .i64 0, .bool false, .int .i64 0, .int .i64 0, .int .i64 0, .int .i64 0, .slice none 0 0, .int .i64 0, .int .i64 0, .slice none 0 0, .slice none 0 0, .int .i64 0, .int .i64 0, .int .i64 0, .int .i64 0, .int .i64 0, .slice none 0 0, .slice none 0 0, .slice none 0 0] HQ.out (by kernel_rfl) rfl (by kernel_rfl) ?_
        refine hK.out _ _ (Or.inl rfl) (fun _ => ?_)
        clear hK K
        refine AnyT.done (by kernel_rfl) ?_ _
        go_simp
        obtain ⟨ins, hins⟩ : ∃ u : Int, (y : Int) * 8 = u := ⟨_, rfl⟩
        have hins0 : 0 ≤ ins := by omega
        obtain ⟨hs, hhs⟩ : ∃ u : Bool, (hb == 1) = u := ⟨_, rfl⟩
        rw [hins, hhs]
        clear hwy hins hhs e7 e3 e31 e1
        obtain ⟨x2, hx2⟩ : ∃ y, x1.setRow q10 #[.int .i64 2, .int .i64 (f : Int), .int .i64 0, .int .i64 8, .int .i64 ins, .int .i64 ln, .bool hs, .int .i64 0, .int .i64 0, .int .i64 0, .int .i64 0, .slice none 0 0, .int .i64 0, .int .i64 0, .slice none 0 0, .slice none 0 0, .int .i64 0, .int .i64 0, .int .i64 0, .int .i64 0, .int .i64 0, .slice none 0 0, .slice none 0 0, .slice none 0 0] = y := ⟨_, rfl⟩
        rw [hx2]
        have HQ2 : Hid (Blk x2 q10 31 #[.int .i64 2, .int .i64 (f : Int), .int .i64 0, .int .i64 8, .int .i64 ins, .int .i64 ln, .bool hs, .int .i64 0, .int .i64 0, .int .i64 0, .int .i64 0, .slice none 0 0, .int .i64 0, .int .i64 0, .slice none 0 0, .slice none 0 0, .int .i64 0, .int .i64 0, .int .i64 0, .int .i64 0, .int .i64 0, .slice none 0 0, .slice none 0 0, .slice none 0 0]) := Lib.hid (by rw [← hx2]; exact HQ.out.row _)
        have hb2 : Below wr.heap.size wr x2 := by rw [← hx2]; exact below_setRow hS.out HQS.out _
        have HV : Hid (VarA x2 S q10 #[.int .i64 2, .int .i64 (f : Int), .int .i64 0, .int .i64 8, .int .i64 ins, .int .i64 ln, .bool hs, .int .i64 0, .int .i64 0, .int .i64 0, .int .i64 0, .slice none 0 0, .int .i64 0, .int .i64 0, .slice none 0 0, .slice none 0 0, .int .i64 0, .int .i64 0, .int .i64 0, .int .i64 0, .int .i64 0, .slice none 0 0, .slice none 0 0, .slice none 0 0]) := Lib.hid ⟨HQ2.out, fun hs => by have := (HG.out.lt q10 hs).2; have := HQS.out; omega⟩
        have HG := Lib.hid (HG.out.below hb2)
        clear hx2 hb2 hS HQ HZB HC1
        obtain ⟨r, hr⟩ : ∃ r, g.may ⟨2, (f : Int), ins, ln, hs⟩ 8 = r := ⟨_, rfl⟩
        have hcm7 : cm < 128 := by rw [← HI.out.come]; exact HG.out.ok.lt7
        have hrN : r = true → f < N := fun e => by
          have h5 := (HG.out.ok.may_is.1 (hr.trans e)).2.2.2.2.1
          have h5 : (f : Int) < (g.n : Int) := h5
          rw [HI.out.n] at h5
          omega
        have HRN := Lib.hid hrN
        obtain ⟨g2, hg2⟩ : ∃ g2, g.take ⟨2, (f : Int), ins, ln, hs⟩ 8 = g2 := ⟨_, rfl⟩
        have hI2 := HI.out.take hr
        rw [hg2] at hI2
        obtain ⟨cm2, hcm2⟩ : ∃ c, (if r = true then cm ||| 2 ^ ((f : Int)).toNat else cm) = c := ⟨_, rfl⟩
        rw [show (⟨2, (f : Int), ins, ln, hs⟩ : Sv).frm = (f : Int) from rfl, hcm2] at hI2
        have HI2 := Lib.hid hI2
        have HC2 := Lib.hid hcm2
        have CT := Lib.hid (gtake_any (a := GA.zero) (m := { Mg.zero with kind := 2, frm := (f : Int), view := 8, inst := ins, len := ln, has := hs }) (r := r) (g2 := g2) HG.out (by show Vw.lo ≤ ins; unfold Vw.lo; omega) ⟨by show _ ≤ (f : Int); omega, by show (f : Int) ≤ _; omega⟩ hr hg2)
        clear hr hg2 hI2 hcm2 hrN
        have HQ2' : Hid (x2.heap[q10]? = some (.cells #[.int .i64 2, .int .i64 (f : Int), .int .i64 0, .int .i64 8, .int .i64 ins, .int .i64 ln, .bool hs, .int .i64 0, .int .i64 0, .int .i64 0, .int .i64 0, .slice none 0 0, .int .i64 0, .int .i64 0, .slice none 0 0, .slice none 0 0, .int .i64 0, .int .i64 0, .int .i64 0, .int .i64 0, .int .i64 0, .slice none 0 0, .slice none 0 0, .slice none 0 0] 31 (0, 0))) := HQ2
        go_wp2_with (first
          | (refine wpList_load_row rfl 31 (.tmp 10) rfl q10 rfl 31 #[.int .i64 2, .int .i64 (f : Int), .int .i64 0, .int .i64 8, .int .i64 ins, .int .i64 ln, .bool hs, .int .i64 0, .int .i64 0, .int .i64 0, .int .i64 0, .slice none 0 0, .int .i64 0, .int .i64 0, .slice none 0 0, .slice none 0 0, .int .i64 0, .int .i64 0, .int .i64 0, .int .i64 0, .int .i64 0, .slice none 0 0, .slice none 0 0, .slice none 0 0] (0, 0) _ HQ2'.out Try.underlying31 rfl (by kernel_rfl) ?_)
          | fail)
        refine CT.out.mono ?_
        rintro e x3 ⟨rfl, S2, hg, ha⟩
        have HV := Lib.hid (HV.out.adv ha)
        clear CT HG HQ2 HQ2'
        have HG := Lib.hid hg
        clear hg ha
        have v1 := HV.out.blk.cell 1
        simp at v1
        have hw8 : IntKind.i64.wrap ((j : Int) + 1) = (j : Int) + 1 := IntWalk.i64_in _ (by omega)
        cases r with
        | false =>
          have hc := HC2.out
          rw [if_neg (by decide)] at hc
          subst hc
          clear HV
          go_wp2_with fail
          go_roundw
          case rel => exact ⟨j + 1, cm, g2, S2, by omega, by omega, by go_num, rfl, HG, HI2⟩
          case measure => simp [intOf]; omega
        | true =>
          have hfN := HRN.out (by trivial)
          have hwf : IntKind.u64.wrap (f : Int) = (f : Int) := IntWalk.u64_in _ (by omega)
          have hmf : min f 64 = f := by omega
          have hor := Vw.or_nat hcm7 (show f < 7 by omega)
          obtain ⟨P, hP, hwP, hP1, hP2⟩ := pow_in (n := f) (by omega)
          have hc := HC2.out
          rw [if_pos rfl, show ((f : Int)).toNat = f from rfl] at hc
          rw [hc, show ((2 : Int) ^ f) = (P : Int) by rw [← hP]; simp] at hor
          clear hc hP HV
          go_wp2_with fail
          go_roundw
          case rel => exact ⟨j + 1, cm2, g2, S2, by omega, by omega, by go_num, rfl, HG, HI2⟩
          case measure => simp [intOf]; omega
      | false =>
        obtain ⟨g1, hg1⟩ : ∃ g1, g.commit = g1 := ⟨_, rfl⟩
        have C1 := gcommit_any HG.out hg1
        obtain ⟨M, hM⟩ : ∃ M, g1.msg = M := ⟨_, rfl⟩
        obtain ⟨a, ha0⟩ : ∃ a, GA.zero = a := ⟨_, rfl⟩
        obtain ⟨ok, hok⟩ : ∃ x, g1.com.isSome = x := ⟨_, rfl⟩
        have HJ : Hid (Gm.OnJ g1 g1) := Lib.hid ⟨by rw [← hg1]; exact HI.out.id, by rw [← hg1]; exact HI.out.v, fun _ => rfl⟩
        have HYES : Hid (ok = true → M.mem = (cm : Int) ∧ Vw.most (cm : Int) (N : Int) = true ∧ ∃ jj : Nat, M.src = (jj : Int) ∧ jj < 7 ∧ cm.testBit jj = true ∧ M.view = 8) := Lib.hid (fun e => by
          obtain ⟨⟨mm, s, ln⟩, hc⟩ := Option.isSome_iff_exists.1 (hok.trans e)
          have hp : g.pick = some (mm, s, ln) := by rw [← hg1] at hc; exact hc
          obtain ⟨y1, y2, jj, y3, y4, y5⟩ := Gm.pick_yes HG.out.ok HI.out.com hp
          rw [HI.out.come] at y1
          rw [HI.out.n, y1] at y2
          rw [y1] at y5
          have hmz := Gm.msg_com (g := g1) hc HJ.out.id HJ.out.v
          rw [hM] at hmz
          exact ⟨by rw [hmz, y1], y2, jj, by rw [hmz]; exact y3, y4, y5, by rw [hmz]⟩)
        have H1ID : Hid (g1.id = 0 ∧ g1.v = 8) := Lib.hid ⟨HJ.out.id, HJ.out.v⟩
        have HMR : Hid (∀ (wx : World) (B : Nat), RdG wx B a M) := Lib.hid (fun wx B => by rw [← hM, ← ha0]; exact Gm.msg_rd wx B g1)
        have HMW : Hid M.Wide := Lib.hid (by rw [← hM]; exact Gm.msg_wide g1)
        have HMS := Lib.hid (And.intro hM (And.intro hok ha0))
        rw [hM, hok, ha0] at C1
        have hcm7 : cm < 128 := by rw [← HI.out.come]; exact HG.out.ok.lt7
        unfold msgV msgC at C1
        have C1 := Lib.hid C1
        clear hM hok ha0 hg1 HI
        go_wp2_with fail
        refine C1.out.mono ?_
        rintro e x2 ⟨rfl, S2, hg, ha⟩
        clear C1 HG
        have HG := Lib.hid hg
        clear hg ha
        go_upto_region 13 with (first
          | (refine wpList_store_row rfl 31 (.tmp 11) (.tmp 75) rfl x2.heap.size #[.int .i64 M.kind, .int .i64 M.frm, .int .i64 M.dst, .int .i64 M.view, .int .i64 M.inst, .int .i64 M.len, .bool M.has, .int .i64 M.mem, .int .i64 M.src, .int .i64 M.pos, .int .i64 M.tot, .slice a.Ad M.data.length a.cd, .int .i64 M.hop, .int .i64 M.seq, .slice a.Ah M.hav.length a.ch, .slice a.An M.nee.length a.cn, .int .i64 M.idx, .int .i64 M.ent.s, .int .i64 M.ent.q, .int .i64 M.ent.c.kind, .int .i64 M.ent.c.who, .slice a.c.Ak M.ent.c.key.length a.c.ck, .slice a.c.Av M.ent.c.val.length a.c.cv, .slice a.c.Ao M.ent.c.old.length a.c.co] rfl rfl 31 #[.int .i64 0, .int .i64 0, .int .i64 0, .int .i64 0, .int .i64 0, .int .i64 0, .bool false, .int .i64 0, .int .i64 0, .int .i64 0, .int .i64 0, .slice none 0 0, .int .i64 0, .int .i64 0, .slice none 0 0, .slice none 0 0, .int .i64 0, .int .i64 0, .int .i64 0, .int .i64 0, .int .i64 0, .slice none 0 0, .slice none 0 0, .slice none 0 0] (Blk.new x2 31 #[.int .i64 0, .int .i64 0, .int .i64 0, .int .i64 0, .int .i64 0, .int .i64 0, .bool false, .int .i64 0, .int .i64 0, .int .i64 0, .int .i64 0, .slice none 0 0, .int .i64 0, .int .i64 0, .slice none 0 0, .slice none 0 0, .int .i64 0, .int .i64 0, .int .i64 0, .int .i64 0, .int .i64 0, .slice none 0 0, .slice none 0 0, .slice none 0 0]) (by kernel_rfl) rfl (by kernel_rfl) ?_)
          | fail)
        obtain ⟨q11, x3, hgE, hwE, hbE, hkE⟩ := boxed x2 #[.int .i64 0, .int .i64 0, .int .i64 0, .int .i64 0, .int .i64 0, .int .i64 0, .bool false, .int .i64 0, .int .i64 0, .int .i64 0, .int .i64 0, .slice none 0 0, .int .i64 0, .int .i64 0, .slice none 0 0, .slice none 0 0, .int .i64 0, .int .i64 0, .int .i64 0, .int .i64 0, .int .i64 0, .slice none 0 0, .slice none 0 0, .slice none 0 0] #[.int .i64 M.kind, .int .i64 M.frm, .int .i64 M.dst, .int .i64 M.view, .int .i64 M.inst, .int .i64 M.len, .bool M.has, .int .i64 M.mem, .int .i64 M.src, .int .i64 M.pos, .int .i64 M.tot, .slice a.Ad M.data.length a.cd, .int .i64 M.hop, .int .i64 M.seq, .slice a.Ah M.hav.length a.ch, .slice a.An M.nee.length a.cn, .int .i64 M.idx, .int .i64 M.ent.s, .int .i64 M.ent.q, .int .i64 M.ent.c.kind, .int .i64 M.ent.c.who, .slice a.c.Ak M.ent.c.key.length a.c.ck, .slice a.c.Av M.ent.c.val.length a.c.cv, .slice a.c.Ao M.ent.c.old.length a.c.co] 31
        rw [hgE, hwE]
        have HV : Hid (VarA x3 S2 q11 #[.int .i64 M.kind, .int .i64 M.frm, .int .i64 M.dst, .int .i64 M.view, .int .i64 M.inst, .int .i64 M.len, .bool M.has, .int .i64 M.mem, .int .i64 M.src, .int .i64 M.pos, .int .i64 M.tot, .slice a.Ad M.data.length a.cd, .int .i64 M.hop, .int .i64 M.seq, .slice a.Ah M.hav.length a.ch, .slice a.An M.nee.length a.cn, .int .i64 M.idx, .int .i64 M.ent.s, .int .i64 M.ent.q, .int .i64 M.ent.c.kind, .int .i64 M.ent.c.who, .slice a.c.Ak M.ent.c.key.length a.c.ck, .slice a.c.Av M.ent.c.val.length a.c.cv, .slice a.c.Ao M.ent.c.old.length a.c.co]) := Lib.hid (VarA.new HG.out hgE hkE)
        have HG := Lib.hid (HG.out.below hbE)
        clear hgE hwE hbE hkE
        go_upto_region 14 with fail
        go_loopw [13] (fun s13 wr => ∃ (j : Nat) (g : Gm) (S : Nat → Prop), j ≤ len2 ∧ j ≤ 10 ∧ s13 = .int .i64 (j : Int) ∧ Hid (GthAt w wr S b g) ∧ Hid (Gm.OnJ g1 g) ∧ Hid (VarA wr S q11 #[.int .i64 M.kind, .int .i64 M.frm, .int .i64 M.dst, .int .i64 M.view, .int .i64 M.inst, .int .i64 M.len, .bool M.has, .int .i64 M.mem, .int .i64 M.src, .int .i64 M.pos, .int .i64 M.tot, .slice a.Ad M.data.length a.cd, .int .i64 M.hop, .int .i64 M.seq, .slice a.Ah M.hav.length a.ch, .slice a.An M.nee.length a.cn, .int .i64 M.idx, .int .i64 M.ent.s, .int .i64 M.ent.q, .int .i64 M.ent.c.kind, .int .i64 M.ent.c.who, .slice a.c.Ak M.ent.c.key.length a.c.ck, .slice a.c.Av M.ent.c.val.length a.c.cv, .slice a.c.Ao M.ent.c.old.length a.c.co])) (fun s13 _ => 10 - (intOf s13).toNat)
        case atStart => exact ⟨0, g1, S2, by omega, by omega, rfl, HG, HJ, HV⟩
        case round =>
          clear HG HJ HV
          obtain ⟨j, g, S, hjl, hj10, rfl, HG, HJ, HV⟩ := hrel
          go_upto_region 14 with fail
          obtain ⟨D, hD⟩ : ∃ D, decide (j < len2 ∧ j < 10) = D := ⟨_, rfl⟩
          have HD := Lib.hid hD
          go_cut [84] from 77 to 83 (fun s84 wx => s84 = .bool D ∧ wx = wr)
          case first =>
            clear hD
            by_cases q1 : j < len2
            · have q1' : (j : Int) < (len2 : Int) := by omega
              by_cases q2 : j < 10
              · have q2' : (j : Int) < 10 := by omega
                obtain rfl : D = true := by rw [← HD.out]; exact decide_eq_true ⟨q1, q2⟩
                go_wp2_with fail
                go_meet
                exact ⟨rfl, rfl⟩
              · have q2' : ¬ (j : Int) < 10 := by omega
                obtain rfl : D = false := by rw [← HD.out]; exact decide_eq_false (fun h => q2 h.2)
                go_wp2_with fail
                go_meet
                exact ⟨rfl, rfl⟩
            · have q1' : ¬ (j : Int) < (len2 : Int) := by omega
              obtain rfl : D = false := by rw [← HD.out]; exact decide_eq_false (fun h => q1 h.1)
              go_wp2_with fail
              go_meet
              exact ⟨rfl, rfl⟩
          case rest =>
            obtain ⟨rfl, rfl⟩ := hcut
            rename World => wr
            clear hD
            cases D with
            | true =>
              obtain ⟨q1, q2⟩ := of_decide_eq_true HD.out
              have q1' : (j : Int) < (len2 : Int) := by omega
              obtain ⟨z, hz⟩ : ∃ z, ys[j]? = some z := ⟨_, List.getElem?_eq_getElem (by have := HYL.out; omega)⟩
              obtain ⟨zb, zo, rfl, hzb⟩ := HL2.out.int_at q1
              have hc1 := (HL2.out.below HG.out.bel).int_cell q1 hz
              have e7 := and_7 z
              have e78 := and_7 (z / 8)
              obtain ⟨f, hf, hf8⟩ : ∃ u : Nat, z % 8 = (u : Int) ∧ u < 8 := ⟨(z % 8).toNat, by omega, by omega⟩
              obtain ⟨kk, hkk, hk8⟩ : ∃ u : Nat, z / 8 % 8 = (u : Int) ∧ u < 8 := ⟨(z / 8 % 8).toNat, by omega, by omega⟩
              rw [hf] at e7
              rw [hkk] at e78
              clear hf hkk
              have HZ := Lib.hid hz
              clear hz
              go_upto_region 17 with (first
                | (refine wpList_store_row rfl 31 (.tmp 14) (.tmp 92) rfl wr.heap.size #[.int .i64 2, .int .i64 (f : Int), .int .i64 0, .int .i64 8, .int .i64 800, .int .i64 99, .bool true, .int .i64 0, .int .i64 0, .int .i64 0, .int .i64 0, .slice none 0 0, .int .i64 0, .int .i64 0, .slice none 0 0, .slice none 0 0, .int .i64 0, .int .i64 0, .int .i64 0, .int .i64 0, .int .i64 0, .slice none 0 0, .slice none 0 0, .slice none 0 0] rfl rfl 31 #[.int .i64 0, .int .i64 0, .int .i64 0, .int .i64 0, .int .i64 0, .int .i64 0, .bool false, .int .i64 0, .int .i64 0, .int .i64 0, .int .i64 0, .slice none 0 0, .int .i64 0, .int .i64 0, .slice none 0 0, .slice none 0 0, .int .i64 0, .int .i64 0, .int .i64 0, .int .i64 0, .int .i64 0, .slice none 0 0, .slice none 0 0, .slice none 0 0] (Blk.new wr 31 #[.int .i64 0, .int .i64 0, .int .i64 0, .int .i64 0, .int .i64 0, .int .i64 0, .bool false, .int .i64 0, .int .i64 0, .int .i64 0, .int .i64 0, .slice none 0 0, .int .i64 0, .int .i64 0, .slice none 0 0, .slice none 0 0, .int .i64 0, .int .i64 0, .int .i64 0, .int .i64 0, .int .i64 0, .slice none 0 0, .slice none 0 0, .slice none 0 0]) (by kernel_rfl) rfl (by kernel_rfl) ?_)
                | fail)
              obtain ⟨q14, x4, hgE, hwE, hbE, hkE⟩ := boxed wr #[.int .i64 0, .int .i64 0, .int .i64 0, .int .i64 0, .int .i64 0, .int .i64 0, .bool false, .int .i64 0, .int .i64 0, .int .i64 0, .int .i64 0, .slice none 0 0, .int .i64 0, .int .i64 0, .slice none 0 0, .slice none 0 0, .int .i64 0, .int .i64 0, .int .i64 0, .int .i64 0, .int .i64 0, .slice none 0 0, .slice none 0 0, .slice none 0 0] #[.int .i64 2, .int .i64 (f : Int), .int .i64 0, .int .i64 8, .int .i64 800, .int .i64 99, .bool true, .int .i64 0, .int .i64 0, .int .i64 0, .int .i64 0, .slice none 0 0, .int .i64 0, .int .i64 0, .slice none 0 0, .slice none 0 0, .int .i64 0, .int .i64 0, .int .i64 0, .int .i64 0, .int .i64 0, .slice none 0 0, .slice none 0 0, .slice none 0 0] 31
              rw [hgE, hwE]
              have HV := Lib.hid (HV.out.below hbE)
              have HG := Lib.hid (HG.out.below hbE)
              have HK14 : Hid (x4.heap[q14]? = some (.cells #[.int .i64 2, .int .i64 (f : Int), .int .i64 0, .int .i64 8, .int .i64 800, .int .i64 99, .bool true, .int .i64 0, .int .i64 0, .int .i64 0, .int .i64 0, .slice none 0 0, .int .i64 0, .int .i64 0, .slice none 0 0, .slice none 0 0, .int .i64 0, .int .i64 0, .int .i64 0, .int .i64 0, .int .i64 0, .slice none 0 0, .slice none 0 0, .slice none 0 0] 31 (0, 0))) := Lib.hid hkE
              clear hgE hwE hbE hkE hc1 e7
              obtain ⟨r, hr⟩ : ∃ r, g.may ⟨2, (f : Int), 800, 99, true⟩ 8 = r := ⟨_, rfl⟩
              have hro : ok = true → r = false := fun e => by rw [← hr]; exact HJ.out.no (HMS.out.2.1.trans e) _ _
              have HRO := Lib.hid hro
              have CT := Lib.hid (gtake_any (a := GA.zero) (m := { Mg.zero with kind := 2, frm := (f : Int), view := 8, inst := 800, len := 99, has := true }) (r := r) HG.out (by show Vw.lo ≤ 800; decide) ⟨by show _ ≤ (f : Int); omega, by show (f : Int) ≤ _; omega⟩ hr rfl)
              have HJ := Lib.hid (HJ.out.take (svM { Mg.zero with kind := 2, frm := (f : Int), view := 8, inst := 800, len := 99, has := true }) ({ Mg.zero with kind := 2, frm := (f : Int), view := 8, inst := 800, len := 99, has := true } : Mg).view)
              obtain ⟨g2, hg2⟩ : ∃ g2, g.take (svM { Mg.zero with kind := 2, frm := (f : Int), view := 8, inst := 800, len := 99, has := true }) ({ Mg.zero with kind := 2, frm := (f : Int), view := 8, inst := 800, len := 99, has := true } : Mg).view = g2 := ⟨_, rfl⟩
              rw [hg2] at CT HJ
              clear hr hg2 hro
              go_wp2_with (first
                | (refine wpList_load_row rfl 31 (.tmp 14) rfl q14 rfl 31 #[.int .i64 2, .int .i64 (f : Int), .int .i64 0, .int .i64 8, .int .i64 800, .int .i64 99, .bool true, .int .i64 0, .int .i64 0, .int .i64 0, .int .i64 0, .slice none 0 0, .int .i64 0, .int .i64 0, .slice none 0 0, .slice none 0 0, .int .i64 0, .int .i64 0, .int .i64 0, .int .i64 0, .int .i64 0, .slice none 0 0, .slice none 0 0, .slice none 0 0] (0, 0) _ HK14.out Try.underlying31 rfl (by kernel_rfl) ?_)
                | fail)
              refine CT.out.mono ?_
              rintro e x5 ⟨rfl, S5, hg, ha⟩
              have HV := Lib.hid (HV.out.adv ha)
              clear CT HG HK14
              have HG := Lib.hid hg
              clear hg ha
              have hno : (r && ok) = false := by cases ok with
                | false => simp
                | true => rw [HRO.out (by trivial)]; rfl
              have HNO := Lib.hid hno
              clear hno
              go_upto_region 18 with fail
              go_cut [99] from 96 to 98 (fun s99 wx => s99 = .bool false ∧ wx = x5)
              case first =>
                cases ok with
                | false =>
                  cases r with
                  | false =>
                    go_wp2_with fail
                    go_meet
                    exact ⟨rfl, rfl⟩
                  | true =>
                    go_wp2_with fail
                    go_meet
                    exact ⟨rfl, rfl⟩
                | true =>
                  obtain rfl : r = false := HRO.out (by trivial)
                  go_wp2_with fail
                  go_meet
                  exact ⟨rfl, rfl⟩
              case rest =>
              obtain ⟨rfl, rfl⟩ := hcut
              rename World => x5
              have hc1 := (HL2.out.below HG.out.bel).int_cell q1 HZ.out
              go_wp2_with fail
              refine (gready_any HG.out (z := (kk : Int)) ⟨by omega, by omega⟩ rfl rfl).mono ?_
              rintro e x6 ⟨rfl, S6, hg, ha⟩
              have HV := Lib.hid (HV.out.adv ha)
              have HJ := Lib.hid (HJ.out.doR (kk : Int))
              clear HG hc1
              have HG := Lib.hid hg
              clear hg ha
              obtain ⟨rz, hrz⟩ : ∃ x, g2.mayR (kk : Int) = x := ⟨_, rfl⟩
              obtain ⟨g3, hg3⟩ : ∃ x, g2.doR (kk : Int) = x := ⟨_, rfl⟩
              rw [hg3] at HG HJ
              rw [hrz]
              clear hg3 hrz e78
              have HJ := Lib.hid (HJ.out.commit)
              have C3 := gcommit_any HG.out rfl
              obtain ⟨g4, hg4⟩ : ∃ x, g3.commit = x := ⟨_, rfl⟩
              rw [hg4] at C3 HJ
              obtain ⟨M3, hM3⟩ : ∃ M, g4.msg = M := ⟨_, rfl⟩
              obtain ⟨is, his⟩ : ∃ x, g4.com.isSome = x := ⟨_, rfl⟩
              have HEQ : Hid (ok = true → is = true ∧ M3 = M) := Lib.hid (fun e => by
                have h1 := HJ.out.same (HMS.out.2.1.trans e)
                refine ⟨by rw [← his, h1]; exact HMS.out.2.1.trans e, ?_⟩
                obtain ⟨⟨mm, s, ln⟩, hc⟩ := Option.isSome_iff_exists.1 (HMS.out.2.1.trans e)
                rw [← hM3, ← HMS.out.1, Gm.msg_com (g := g4) (h1.trans hc) HJ.out.id HJ.out.v, Gm.msg_com (g := g1) hc H1ID.out.1 H1ID.out.2])
              rw [hM3, his, HMS.out.2.2] at C3
              unfold msgV msgC at C3
              have C3 := Lib.hid C3
              clear hg4 hM3 his
              go_wp2_with fail
              refine C3.out.mono ?_
              rintro e x7 ⟨rfl, S7, hg, ha⟩
              have HV := Lib.hid (HV.out.adv ha)
              clear C3 HG
              have HG := Lib.hid hg
              clear hg ha
              go_upto_region 22 with (first
                | (refine wpList_store_row rfl 31 (.tmp 16) (.tmp 111) rfl x7.heap.size #[.int .i64 M3.kind, .int .i64 M3.frm, .int .i64 M3.dst, .int .i64 M3.view, .int .i64 M3.inst, .int .i64 M3.len, .bool M3.has, .int .i64 M3.mem, .int .i64 M3.src, .int .i64 M3.pos, .int .i64 M3.tot, .slice a.Ad M3.data.length a.cd, .int .i64 M3.hop, .int .i64 M3.seq, .slice a.Ah M3.hav.length a.ch, .slice a.An M3.nee.length a.cn, .int .i64 M3.idx, .int .i64 M3.ent.s, .int .i64 M3.ent.q, .int .i64 M3.ent.c.kind, .int .i64 M3.ent.c.who, .slice a.c.Ak M3.ent.c.key.length a.c.ck, .slice a.c.Av M3.ent.c.val.length a.c.cv, .slice a.c.Ao M3.ent.c.old.length a.c.co] rfl rfl 31 #[.int .i64 0, .int .i64 0, .int .i64 0, .int .i64 0, .int .i64 0, .int .i64 0, .bool false, .int .i64 0, .int .i64 0, .int .i64 0, .int .i64 0, .slice none 0 0, .int .i64 0, .int .i64 0, .slice none 0 0, .slice none 0 0, .int .i64 0, .int .i64 0, .int .i64 0, .int .i64 0, .int .i64 0, .slice none 0 0, .slice none 0 0, .slice none 0 0] (Blk.new x7 31 #[.int .i64 0, .int .i64 0, .int .i64 0, .int .i64 0, .int .i64 0, .int .i64 0, .bool false, .int .i64 0, .int .i64 0, .int .i64 0, .int .i64 0, .slice none 0 0, .int .i64 0, .int .i64 0, .slice none 0 0, .slice none 0 0, .int .i64 0, .int .i64 0, .int .i64 0, .int .i64 0, .int .i64 0, .slice none 0 0, .slice none 0 0, .slice none 0 0]) (by kernel_rfl) rfl (by kernel_rfl) ?_)
                | fail)
              obtain ⟨q16, x8, hgE, hwE, hbE, hkE⟩ := boxed x7 #[.int .i64 0, .int .i64 0, .int .i64 0, .int .i64 0, .int .i64 0, .int .i64 0, .bool false, .int .i64 0, .int .i64 0, .int .i64 0, .int .i64 0, .slice none 0 0, .int .i64 0, .int .i64 0, .slice none 0 0, .slice none 0 0, .int .i64 0, .int .i64 0, .int .i64 0, .int .i64 0, .int .i64 0, .slice none 0 0, .slice none 0 0, .slice none 0 0] #[.int .i64 M3.kind, .int .i64 M3.frm, .int .i64 M3.dst, .int .i64 M3.view, .int .i64 M3.inst, .int .i64 M3.len, .bool M3.has, .int .i64 M3.mem, .int .i64 M3.src, .int .i64 M3.pos, .int .i64 M3.tot, .slice a.Ad M3.data.length a.cd, .int .i64 M3.hop, .int .i64 M3.seq, .slice a.Ah M3.hav.length a.ch, .slice a.An M3.nee.length a.cn, .int .i64 M3.idx, .int .i64 M3.ent.s, .int .i64 M3.ent.q, .int .i64 M3.ent.c.kind, .int .i64 M3.ent.c.who, .slice a.c.Ak M3.ent.c.key.length a.c.ck, .slice a.c.Av M3.ent.c.val.length a.c.cv, .slice a.c.Ao M3.ent.c.old.length a.c.co] 31
              rw [hgE, hwE]
              have HV := Lib.hid (HV.out.below hbE)
              have HG := Lib.hid (HG.out.below hbE)
              have HK16 : Hid (x8.heap[q16]? = some (.cells #[.int .i64 M3.kind, .int .i64 M3.frm, .int .i64 M3.dst, .int .i64 M3.view, .int .i64 M3.inst, .int .i64 M3.len, .bool M3.has, .int .i64 M3.mem, .int .i64 M3.src, .int .i64 M3.pos, .int .i64 M3.tot, .slice a.Ad M3.data.length a.cd, .int .i64 M3.hop, .int .i64 M3.seq, .slice a.Ah M3.hav.length a.ch, .slice a.An M3.nee.length a.cn, .int .i64 M3.idx, .int .i64 M3.ent.s, .int .i64 M3.ent.q, .int .i64 M3.ent.c.kind, .int .i64 M3.ent.c.who, .slice a.c.Ak M3.ent.c.key.length a.c.ck, .slice a.c.Av M3.ent.c.val.length a.c.cv, .slice a.c.Ao M3.ent.c.old.length a.c.co] 31 (0, 0))) := Lib.hid hkE
              clear hgE hwE hbE hkE
              have hw8 : IntKind.i64.wrap ((j : Int) + 1) = (j : Int) + 1 := IntWalk.i64_in _ (by omega)
              cases ok with
              | false =>
                go_wp2_with fail
                go_roundw
                case rel => exact ⟨j + 1, g4, S7, by omega, by omega, by go_num, HG, HJ, HV⟩
                case measure => simp [intOf]; omega
              | true =>
                obtain ⟨hi1, hm1⟩ := HEQ.out (by trivial)
                subst hi1 hm1
                have HK11 : Hid (x8.heap[q11]? = some (.cells #[.int .i64 M3.kind, .int .i64 M3.frm, .int .i64 M3.dst, .int .i64 M3.view, .int .i64 M3.inst, .int .i64 M3.len, .bool M3.has, .int .i64 M3.mem, .int .i64 M3.src, .int .i64 M3.pos, .int .i64 M3.tot, .slice a.Ad M3.data.length a.cd, .int .i64 M3.hop, .int .i64 M3.seq, .slice a.Ah M3.hav.length a.ch, .slice a.An M3.nee.length a.cn, .int .i64 M3.idx, .int .i64 M3.ent.s, .int .i64 M3.ent.q, .int .i64 M3.ent.c.kind, .int .i64 M3.ent.c.who, .slice a.c.Ak M3.ent.c.key.length a.c.ck, .slice a.c.Av M3.ent.c.val.length a.c.cv, .slice a.c.Ao M3.ent.c.old.length a.c.co] 31 (0, 0))) := Lib.hid HV.out.blk
                have CS := refSame11_eq x8 (a := a) (a' := a) (m := M3) (m' := M3) (B := 0) (B' := 0) rfl HMW.out HMW.out (HMR.out x8 0) (HMR.out x8 0)
                unfold msgV msgC at CS
                rw [show decide (M3 = M3) = true by simp] at CS
                have CS := Lib.hid CS
                go_wp2_with (first
                  | (refine wpList_load_rowU (by rfl) 31 (.tmp 11) rfl q11 rfl 31 #[.int .i64 M3.kind, .int .i64 M3.frm, .int .i64 M3.dst, .int .i64 M3.view, .int .i64 M3.inst, .int .i64 M3.len, .bool M3.has, .int .i64 M3.mem, .int .i64 M3.src, .int .i64 M3.pos, .int .i64 M3.tot, .slice a.Ad M3.data.length a.cd, .int .i64 M3.hop, .int .i64 M3.seq, .slice a.Ah M3.hav.length a.ch, .slice a.An M3.nee.length a.cn, .int .i64 M3.idx, .int .i64 M3.ent.s, .int .i64 M3.ent.q, .int .i64 M3.ent.c.kind, .int .i64 M3.ent.c.who, .slice a.c.Ak M3.ent.c.key.length a.c.ck, .slice a.c.Av M3.ent.c.val.length a.c.cv, .slice a.c.Ao M3.ent.c.old.length a.c.co] (0, 0) _ HK11.out Try.underlying31 rfl (by kernel_rfl) ?_)
                  | (refine wpList_load_rowU (by rfl) 31 (.tmp 16) rfl q16 rfl 31 #[.int .i64 M3.kind, .int .i64 M3.frm, .int .i64 M3.dst, .int .i64 M3.view, .int .i64 M3.inst, .int .i64 M3.len, .bool M3.has, .int .i64 M3.mem, .int .i64 M3.src, .int .i64 M3.pos, .int .i64 M3.tot, .slice a.Ad M3.data.length a.cd, .int .i64 M3.hop, .int .i64 M3.seq, .slice a.Ah M3.hav.length a.ch, .slice a.An M3.nee.length a.cn, .int .i64 M3.idx, .int .i64 M3.ent.s, .int .i64 M3.ent.q, .int .i64 M3.ent.c.kind, .int .i64 M3.ent.c.who, .slice a.c.Ak M3.ent.c.key.length a.c.ck, .slice a.c.Av M3.ent.c.val.length a.c.cv, .slice a.c.Ao M3.ent.c.old.length a.c.co] (0, 0) _ HK16.out Try.underlying31 rfl (by kernel_rfl) ?_)
                  | fail)
                refine CS.out.mono ?_
                rintro e x9 ⟨rfl, hb9⟩
                have HV := Lib.hid (HV.out.below hb9)
                have HG := Lib.hid (HG.out.below hb9)
                clear hb9 CS HK11 HK16
                go_wp2_with fail
                go_roundw
                case rel => exact ⟨j + 1, g4, S7, by omega, by omega, by go_num, HG, HJ, HV⟩
                case measure => simp [intOf]; omega
            | false =>
              have v7 := HV.out.blk.cell 7
              have v8 := HV.out.blk.cell 8
              have v3 := HV.out.blk.cell 3
              simp at v7 v8 v3
              cases ok with
              | false =>
                go_wp2_with fail
                refine (awake18 wr).mono ?_
                rintro e x9 ⟨rfl, hb9⟩
                have HG := Lib.hid (HG.out.below hb9)
                clear hb9
                go_wp2_with fail
                go_ret
                exact ⟨rfl, HG.out.bel⟩
              | true =>
                obtain ⟨y1, y2, jj, y3, y4, y5, y6⟩ := HYES.out (by trivial)
                rw [y1] at v7
                rw [y3] at v8
                rw [y6] at v3
                have hwj : IntKind.u64.wrap (jj : Int) = (jj : Int) := IntWalk.u64_in _ (by omega)
                have hmj : min jj 64 = jj := by omega
                have hbit := Vw.bit_nat cm jj
                unfold Vw.bit at hbit
                rw [y5] at hbit
                have hand := and_1 ((cm : Int) / 2 ^ jj)
                rw [of_decide_eq_true hbit] at hand
                have CM := refMost_any wr (cm : Int) (N : Int) ⟨by omega, by omega⟩ ⟨by omega, by omega⟩
                rw [y2] at CM
                have CM := Lib.hid CM
                have HY := Lib.hid (And.intro y1 (And.intro y3 y6))
                clear y1 y2 y3 y5 y6 hbit
                go_wp2_with fail
                refine CM.out.mono ?_
                rintro e x8 ⟨rfl, hb8⟩
                have HV := Lib.hid (HV.out.below hb8)
                have HG := Lib.hid (HG.out.below hb8)
                clear hb8 v7 v8 v3 CM
                have v7 := HV.out.blk.cell 7
                have v8 := HV.out.blk.cell 8
                have v3 := HV.out.blk.cell 3
                simp at v7 v8 v3
                rw [HY.out.1] at v7
                rw [HY.out.2.1] at v8
                rw [HY.out.2.2] at v3
                go_wp2_with fail
                refine (awake18 x8).mono ?_
                rintro e x9 ⟨rfl, hb9⟩
                have HG := Lib.hid (HG.out.below hb9)
                clear hb9
                go_wp2_with fail
                go_ret
                exact ⟨rfl, HG.out.bel⟩
end Go.Proofs.Ytneehnoolhadbaa

