/- BookFarWalk -/
import Derived.Test.YtaknfmionkkdjaaFM09
import Derived.Test.YtaknfmionkkdjaaFM50
namespace Go.Proofs.Ytaknfmionkkdjaa
open Go.RowKit
set_option linter.unusedVariables false
namespace Bk
def fe (n : Int) : En := ⟨1, n, ⟨1, 0, [], [], []⟩⟩
theorem fe_fits (n : Int) : (fe n).c.Fits := ⟨⟨by simp [fe], by simp [fe]⟩, ⟨by simp [fe], by simp [fe]⟩, ⟨by simp [fe], by simp [fe]⟩⟩
def fes (n : Nat) : List En := (List.range n).map (fun (q : Nat) => fe ((q : Int) + 1))
theorem fes_length (n : Nat) : (fes n).length = n := by simp [fes]
theorem fes_succ (n : Nat) : fes (n + 1) = fes n ++ [fe ((n : Int) + 1)] := by simp [fes, List.range_succ]
theorem new_loadL : Bk.new = Bk.loadL Mc.zero 0 [] := Bk.load_zero.symm
def fk (N : Nat) : Bk := Bk.loadL Mc.zero 0 (fes (N + 2))
def fa (N : Nat) : Bk := (fk N).apply N
theorem fk_wh (N : Nat) : (fk N).wh = (N : Int) + 2 := by show (0 : Int) + (fes (N + 2)).length = _; rw [fes_length]; omega
theorem fk_cnt (N : Nat) : (fk N).cnt N = N := by unfold Bk.cnt Bk.top; rw [fk_wh]; show (min (N : Int) ((N : Int) + 2) - 0).toNat = N; omega
theorem fa_pos (N : Nat) : (fa N).pos = N := by unfold fa; rw [Bk.apply_at, fk_cnt]; show (0 : Int) + N = N; omega
theorem fa_wh (N : Nat) : (fa N).wh = (N : Int) + 2 := fk_wh N
theorem fa_dones (N : Nat) : ((fk N).dones N).length = N := by unfold Bk.dones; rw [Bk.play_len, fk_cnt]
theorem fa_f (N : Nat) (i : Int) : ((fa N).f i).isSome = (decide ((N : Int) < i) && decide (i ≤ (N : Int) + 2)) := by
  unfold fa
  rw [Bk.apply_at, fk_cnt]
  show (Bk.cut (fk N).f ((0 : Int) + N) i).isSome = _
  unfold Bk.cut
  by_cases h1 : i ≤ (0 : Int) + N
  · rw [if_pos h1, decide_eq_false (by omega : ¬ (N : Int) < i)]; rfl
  · rw [if_neg h1, decide_eq_true (by omega : (N : Int) < i)]
    unfold fk
    rw [Bk.loadL_f, if_pos (by omega)]
    by_cases h2 : i ≤ (N : Int) + 2
    · rw [decide_eq_true h2, List.getElem?_eq_getElem (by rw [fes_length]; omega)]; rfl
    · rw [decide_eq_false h2, List.getElem?_eq_none (by rw [fes_length]; omega)]; rfl
theorem fa_may (N : Nat) (i : Int) : (fa N).may i = (decide ((N : Int) + 2 < i) && decide (i ≤ (N : Int) + 66)) := by
  unfold Bk.may
  rw [fa_f, fa_pos, fa_wh]
  by_cases h1 : (N : Int) < i
  · by_cases h2 : i ≤ (N : Int) + 2
    · rw [decide_eq_true h1, decide_eq_true h2, decide_eq_false (by omega : ¬ (N : Int) + 2 < i)]; rfl
    · rw [decide_eq_true h1, decide_eq_false h2, decide_eq_true (by omega : (N : Int) + 2 < i)]
      by_cases h3 : i ≤ (N : Int) + 66
      · rw [decide_eq_true h3, decide_eq_true (by omega : i ≤ (N : Int) + 2 + 64)]; rfl
      · rw [decide_eq_false h3, decide_eq_false (by omega : ¬ i ≤ (N : Int) + 2 + 64)]; rfl
  · rw [decide_eq_false h1, decide_eq_false (by omega : ¬ (N : Int) + 2 < i)]
    simp
theorem up_ge (f : Int → Option En) : ∀ (k : Nat) (n : Int), n ≤ up f k n ∧ up f k n ≤ n + k
  | 0, n => by unfold up; omega
  | k + 1, n => by
    have := up_ge f k (n + 1)
    unfold up
    split <;> omega
theorem add_pos (k : Bk) (i : Int) (e : En) : (k.add i e).pos = k.pos := by unfold Bk.add; split <;> rfl
theorem add_wh (k : Bk) (i : Int) (e : En) : k.wh ≤ (k.add i e).wh ∧ (k.add i e).wh ≤ k.wh + 130 := by
  unfold Bk.add
  split
  · exact up_ge _ 130 k.wh
  · omega
theorem cnt_zero {k : Bk} {t : Int} (h : min t k.wh ≤ k.pos) : k.cnt t = 0 := by unfold Bk.cnt Bk.top; omega
theorem dones_nil {k : Bk} {t : Int} (h : k.cnt t = 0) : k.dones t = [] := by unfold Bk.dones; rw [h]; rfl
theorem apply_nil {k : Bk} {t : Int} (hk : k.Ok) (h : k.cnt t = 0) : k.apply t = k := by rw [Bk.apply_at, h, k.at_zero hk]
end Bk
set_option maxHeartbeats 2000000 in
set_option maxRecDepth 100000 in
theorem farE (w : World) (n : Int) : Calls Try.prog 18 #[.int .i64 n] w fun en w' => en = .returned (.agg (entC zeroCA (Bk.fe n))) ∧ RdC w' w'.heap.size zeroCA (Bk.fe n).c ∧ Below w.heap.size w w' := by
  go_enter Try.func18, Try.ntmps18
  go_upto_region 1 with fail
  obtain ⟨g, w1, hgE, hwE, hbE, hkE⟩ := alloced w #[.int .i64 0, .int .i64 0, .int .i64 0, .int .i64 0, .slice none 0 0, .slice none 0 0, .slice none 0 0] 30
  rw [hgE, hwE]
  have HB := Lib.hid hbE
  have HK := Lib.hid hkE
  have HG := Lib.hid hgE
  clear hgE hwE hbE hkE
  go_wp2_with (first
    | (refine wpList_store_row rfl 30 (.tmp 2) (.tmp 5) rfl g #[.int .i64 1, .int .i64 n, .int .i64 1, .int .i64 0, .slice none 0 0, .slice none 0 0, .slice none 0 0] rfl rfl 30 #[.int .i64 0, .int .i64 0, .int .i64 0, .int .i64 0, .slice none 0 0, .slice none 0 0, .slice none 0 0] HK.out (by kernel_rfl) rfl (by kernel_rfl) ?_)
    | fail)
  refine bodyPost_ret (results_cell_row rfl _ _ _ _ _ _ _ rfl (Blk.row HK.out #[.int .i64 1, .int .i64 n, .int .i64 1, .int .i64 0, .slice none 0 0, .slice none 0 0, .slice none 0 0]) Try.underlying30 rfl (by kernel_rfl)) rfl ?_
  exact ⟨rfl, ⟨Rd.none_ _ _ _, Rd.none_ _ _ _, Rd.none_ _ _ _⟩, below_setRow HB.out (by have := HG.out; omega) _⟩
set_option maxHeartbeats 8000000 in
set_option maxRecDepth 100000 in
theorem bookFar_walk (z0 z1 : Int) (w : World) (u0 : (Lit.int .i64 z0).wf = true) (u1 : (Lit.int .i64 z1).wf = true) : Calls Try.prog 4 #[.int .i64 z0, .int .i64 z1] w fun en w' => en = .returned (.bool true) ∧ Below w.heap.size w w' := by
  clear u0 u1
  have HN := Lib.hid (bkNew w)
  have a15 := and_15 z0
  have a127 := and_127 z1
  obtain ⟨N, hN, hN15⟩ : ∃ N : Nat, z0 % 16 = (N : Int) ∧ (N : Int) ≤ 15 := ⟨(z0 % 16).toNat, by omega, by omega⟩
  rw [hN] at a15
  obtain ⟨Z, hZ, hZ0, hZ1⟩ : ∃ Z, z1 % 128 = Z ∧ 0 ≤ Z ∧ Z ≤ 127 := ⟨_, rfl, by omega, by omega⟩
  rw [hZ] at a127
  clear hN hZ
  go_enter Try.func4, Try.ntmps4
  go_wp2_with fail
  refine HN.out.mono ?_
  rintro en w1 ⟨b, S, rfl, h1, hb1, hs1⟩
  rw [Bk.new_loadL] at h1
  have H1 := Lib.hid h1
  have HB1 := Lib.hid hb1
  have HS1 := Lib.hid hs1
  clear h1 hb1 hs1 HN
  go_wp2_with fail
  go_loopw [7] (fun s7 wr => ∃ (j : Nat) (S1 : Nat → Prop), j ≤ N + 2 ∧ s7 = .int .i64 ((j : Int) + 1) ∧ Hid (BkAt wr S1 b (Bk.loadL Mc.zero 0 (Bk.fes j))) ∧ Hid (Adv S w1 S1 wr)) (fun s7 _ => ((N : Int) + 4 - intOf s7).toNat)
  case atStart => exact ⟨0, S, by omega, rfl, H1, Lib.hid (Adv.refl _ _)⟩
  case round =>
    clear H1
    obtain ⟨j, S1, hj, rfl, HA, HV⟩ := hrel
    by_cases hlt : j < N + 2
    · have hle : (j : Int) + 1 ≤ (N : Int) + 2 := by omega
      have hw1 : IntKind.i64.wrap ((j : Int) + 1 + 1) = (j : Int) + 1 + 1 := IntWalk.i64_in _ (by omega)
      have hmay := Bk.loadL_may Mc.zero 0 (Bk.fes j)
      have hadd := Bk.loadL_add Mc.zero 0 (Bk.fes j) (Bk.fe ((j : Int) + 1))
      rw [← Bk.fes_succ, Bk.fes_length, show (0 : Int) + (j : Int) + 1 = (j : Int) + 1 by omega] at hadd
      rw [Bk.fes_length, show (0 : Int) + (j : Int) + 1 = (j : Int) + 1 by omega] at hmay
      have HAD := Lib.hid (fun wx (hx : BkAt wx S1 b (Bk.loadL Mc.zero 0 (Bk.fes j))) (B : Nat) (hr : RdC wx B zeroCA (Bk.fe ((j : Int) + 1)).c) => bkAdd wx hx ((j : Int) + 1) (B := B) hmay hadd (Bk.fe_fits _) hr (by show (0 : Int) + ((Bk.fes j).length : Int) ≤ 0 + 90000; rw [Bk.fes_length]; omega))
      have HE := Lib.hid (farE wr ((j : Int) + 1))
      clear hmay hadd
      go_wp2_with fail
      refine HE.out.mono ?_
      rintro en w2 ⟨rfl, hr2, hb2⟩
      have HR2 := Lib.hid hr2
      have HA2 := Lib.hid (HA.out.below hb2)
      have HV2 := Lib.hid (HV.out.trans (Adv.of_below S1 hb2))
      clear hr2 hb2
      go_wp2_with fail
      refine (HAD.out w2 HA2.out _ HR2.out).mono ?_
      rintro en w3 ⟨rfl, S3, h3, v3⟩
      have HA3 := Lib.hid h3
      have HV3 := Lib.hid (HV2.out.trans v3)
      clear h3 v3
      go_wp2_with fail
      go_roundw
      case rel => exact ⟨j + 1, S3, by omega, by go_num, HA3, HV3⟩
      case measure => simp only [intOf]; omega
    · have hle : ¬ (j : Int) + 1 ≤ (N : Int) + 2 := by omega
      have hjN : j = N + 2 := by omega
      subst hjN
      have HA0 : Hid (BkAt wr S1 b (Bk.fk N)) := HA
      clear HA hj hlt
      obtain ⟨ds, hds⟩ : ∃ ds, (Bk.fk N).dones N = ds := ⟨_, rfl⟩
      obtain ⟨k1, hk1⟩ : ∃ k, Bk.fa N = k := ⟨_, rfl⟩
      have hdl : ds.length = N := by rw [← hds]; exact Bk.fa_dones N
      have hp1 : k1.pos = N := by rw [← hk1]; exact Bk.fa_pos N
      have hw1 : k1.wh = (N : Int) + 2 := by rw [← hk1]; exact Bk.fa_wh N
      have C1 := Lib.hid (bkApply wr HA0.out N (show (Bk.fk N).apply N = k1 from hk1) hds (by rw [Bk.fk_wh]; show (N : Int) + 2 ≤ 0 + 90000; omega) (by rw [Bk.fk_wh]; omega))
      have HF := Lib.hid (fun i => Bk.fa_f N i)
      have HM := Lib.hid (fun i => Bk.fa_may N i)
      rw [hk1] at HF HM
      have HP := Lib.hid (And.intro hp1 hw1)
      have HDL := Lib.hid hdl
      unfold GotAp at C1
      rw [hdl] at C1
      clear hds hdl hp1 hw1 hk1
      go_wp2_with fail
      refine C1.out.mono ?_
      rintro en w2 ⟨A2, c2, rfl, hod, S2, h2, v2⟩
      have HA2 := Lib.hid h2
      have HV2 := Lib.hid (HV.out.trans v2)
      clear hod h2 v2 C1
      have hc0 : k1.cnt N = 0 := Bk.cnt_zero (by have := HP.out; omega)
      have C2 := Lib.hid (bkApply w2 HA2.out N (Bk.apply_nil HA2.out.ok hc0) (Bk.dones_nil hc0) (by have := HP.out; omega) (by have := HP.out; omega))
      clear hc0
      go_wp2_with fail
      refine C2.out.mono ?_
      rintro en w3 ⟨A3, c3, rfl, hod, S3, h3, v3⟩
      have HA3 := Lib.hid h3
      have HV3 := Lib.hid (HV2.out.trans v3)
      clear hod h3 v3 C2
      have hwz : IntKind.i64.wrap (Z - 5) = Z - 5 := IntWalk.i64_in _ (by omega)
      obtain ⟨i, hi⟩ : ∃ i, Z - 5 = i := ⟨_, rfl⟩
      rw [hi] at hwz
      have hib : -5 ≤ i ∧ i ≤ 122 := by omega
      obtain ⟨hi0, hi1⟩ := hib
      obtain ⟨x, hx⟩ : ∃ x, k1.f i = x := ⟨_, rfl⟩
      obtain ⟨ok, hok⟩ : ∃ m, k1.may i = m := ⟨_, rfl⟩
      obtain ⟨k3, hk3⟩ : ∃ k, k1.add i (Bk.fe 500) = k := ⟨_, rfl⟩
      have hxs : x.isSome = (decide ((N : Int) < i) && decide (i ≤ (N : Int) + 2)) := by rw [← hx]; exact HF.out i
      have hoks : ok = (decide ((N : Int) + 2 < i) && decide (i ≤ (N : Int) + 66)) := by rw [← hok]; exact HM.out i
      have hk3p : k3.pos = N := by rw [← hk3, Bk.add_pos]; exact HP.out.1
      have hk3w : (N : Int) + 2 ≤ k3.wh ∧ k3.wh ≤ (N : Int) + 132 := by rw [← hk3]; have := Bk.add_wh k1 i (Bk.fe 500); have := HP.out; omega
      have C3 := Lib.hid (fun wx (hx3 : BkAt wx S3 b k1) => bkGet wx hx3 i hx)
      have C4 := Lib.hid (fun wx (hx3 : BkAt wx S3 b k1) (B : Nat) (hr : RdC wx B zeroCA (Bk.fe 500).c) => bkAdd wx hx3 i (B := B) hok hk3 (Bk.fe_fits _) hr (by have := HP.out; omega))
      obtain ⟨W, hW⟩ : ∃ W, x.isSome = W := ⟨_, rfl⟩
      unfold GotE16 at C3
      rw [hW] at C3 hxs
      have HXS := Lib.hid hxs
      have HOKS := Lib.hid hoks
      have HK3 := Lib.hid (And.intro hk3p hk3w)
      obtain ⟨wh3, hwh3⟩ : ∃ q, k3.wh = q := ⟨_, rfl⟩
      have hge : (N : Int) + 2 ≤ wh3 := by omega
      have hhi : wh3 ≤ 1000 := by omega
      have HWH3 := Lib.hid hwh3
      clear hx hok hk3 hxs hoks hk3p hk3w hW hwh3
      go_wp2_with fail
      refine (C3.out w3 HA3.out).mono ?_
      rintro en w4 ⟨ca, rfl, hoc, hb4⟩
      have HA4 := Lib.hid (HA3.out.below hb4)
      have HV4 := Lib.hid (HV3.out.trans (Adv.of_below S3 hb4))
      clear hoc hb4 C3
      go_upto_region 15 with (first
        | (refine wpList_store_row rfl 30 (.tmp 8) (.tmp 49) rfl w4.heap.size (entC ca (x.getD En.zero)) rfl rfl 30 #[.int .i64 0, .int .i64 0, .int .i64 0, .int .i64 0, .slice none 0 0, .slice none 0 0, .slice none 0 0] (Blk.new w4 30 #[.int .i64 0, .int .i64 0, .int .i64 0, .int .i64 0, .slice none 0 0, .slice none 0 0, .slice none 0 0]) (by kernel_rfl) rfl (by kernel_rfl) ?_)
        | fail)
      obtain ⟨g8, w5, hg5, hw5, hb5, hk5⟩ := boxed w4 #[.int .i64 0, .int .i64 0, .int .i64 0, .int .i64 0, .slice none 0 0, .slice none 0 0, .slice none 0 0] (entC ca (x.getD En.zero)) 30
      rw [hg5, hw5]
      have HA5 := Lib.hid (HA4.out.below hb5)
      have HV5 := Lib.hid (HV4.out.trans (Adv.of_below S3 hb5))
      clear hg5 hw5 hb5 hk5
      have HE := Lib.hid (farE w5 500)
      go_wp2_with fail
      refine HE.out.mono ?_
      rintro en w6 ⟨rfl, hr6, hb6⟩
      have HR6 := Lib.hid hr6
      have HA6 := Lib.hid (HA5.out.below hb6)
      have HV6 := Lib.hid (HV5.out.trans (Adv.of_below S3 hb6))
      clear hr6 hb6
      go_wp2_with fail
      refine (C4.out w6 HA6.out _ HR6.out).mono ?_
      rintro en w7 ⟨rfl, S7, h7, v7⟩
      have HA7 := Lib.hid h7
      have HV7 := Lib.hid (HV6.out.trans v7)
      clear h7 v7 C4
      have hc7 : k3.cnt (-5) = 0 := Bk.cnt_zero (by have := HK3.out; omega)
      have C5 := Lib.hid (bkAt w7 HA7.out)
      have C6 := Lib.hid (bkWhole w7 HA7.out)
      have C7 := Lib.hid (bkApply w7 HA7.out (-5) (Bk.apply_nil HA7.out.ok hc7) (Bk.dones_nil hc7) (by have := HK3.out; omega) (by have := HK3.out; omega))
      rw [HK3.out.1] at C5
      rw [HWH3.out] at C6
      clear hc7 HE HA2 HA3 HA4 HA5 HA6 HV2 HV3 HV4 HV5 HV6 HR6 HA0 HV a15 a127
      by_cases q1 : i = (N : Int) + 1
      · have hW : W = true := by rw [HXS.out]; rw [decide_eq_true (by omega : (N : Int) < i), decide_eq_true (by omega : i ≤ (N : Int) + 2)]; rfl
        have hO : ok = false := by rw [HOKS.out]; rw [decide_eq_false (by omega : ¬ (N : Int) + 2 < i), decide_eq_true (by omega : i ≤ (N : Int) + 66)]; rfl
        subst hW hO
        have b1 : (i == (N : Int) + 1) = true := by simp; omega
        have d1 : decide ((N : Int) + 2 < i) = false := by simp; omega
        go_wp2_with fail
        refine C5.out.mono ?_
        rintro en w8 ⟨rfl, rfl⟩
        go_wp2_with fail
        refine C6.out.mono ?_
        rintro en w8 ⟨rfl, rfl⟩
        go_wp2_with fail
        refine C7.out.mono ?_
        rintro en w8 ⟨A8, c8, rfl, hod, S8, h8, v8⟩
        have HV8 := Lib.hid (HV7.out.trans v8)
        clear hod h8 v8
        go_wp2_with fail
        refine (awake16 w8).mono ?_
        rintro en w9 ⟨rfl, hb9⟩
        have HV9 := Lib.hid (HV8.out.trans (Adv.of_below S8 hb9))
        clear hb9
        go_wp2_with fail
        go_ret
        exact ⟨rfl, HV9.out.below HB1.out HS1.out⟩
      · by_cases q2 : i = (N : Int) + 2
        · have hW : W = true := by rw [HXS.out]; rw [decide_eq_true (by omega : (N : Int) < i), decide_eq_true (by omega : i ≤ (N : Int) + 2)]; rfl
          have hO : ok = false := by rw [HOKS.out]; rw [decide_eq_false (by omega : ¬ (N : Int) + 2 < i), decide_eq_true (by omega : i ≤ (N : Int) + 66)]; rfl
          subst hW hO
          have b1 : (i == (N : Int) + 1) = false := by simp; omega
          have b2 : (i == (N : Int) + 2) = true := by simp; omega
          have d1 : decide ((N : Int) + 2 < i) = false := by simp; omega
          go_wp2_with fail
          refine C5.out.mono ?_
          rintro en w8 ⟨rfl, rfl⟩
          go_wp2_with fail
          refine C6.out.mono ?_
          rintro en w8 ⟨rfl, rfl⟩
          go_wp2_with fail
          refine C7.out.mono ?_
          rintro en w8 ⟨A8, c8, rfl, hod, S8, h8, v8⟩
          have HV8 := Lib.hid (HV7.out.trans v8)
          clear hod h8 v8
          go_wp2_with fail
          refine (awake16 w8).mono ?_
          rintro en w9 ⟨rfl, hb9⟩
          have HV9 := Lib.hid (HV8.out.trans (Adv.of_below S8 hb9))
          clear hb9
          go_wp2_with fail
          go_ret
          exact ⟨rfl, HV9.out.below HB1.out HS1.out⟩
        · by_cases q3 : i < (N : Int) + 1
          · have hW : W = false := by rw [HXS.out]; rw [decide_eq_false (by omega : ¬ (N : Int) < i), decide_eq_true (by omega : i ≤ (N : Int) + 2)]; rfl
            have hO : ok = false := by rw [HOKS.out]; rw [decide_eq_false (by omega : ¬ (N : Int) + 2 < i), decide_eq_true (by omega : i ≤ (N : Int) + 66)]; rfl
            subst hW hO
            have b1 : (i == (N : Int) + 1) = false := by simp; omega
            have b2 : (i == (N : Int) + 2) = false := by simp; omega
            have d1 : decide ((N : Int) + 2 < i) = false := by simp; omega
            go_wp2_with fail
            refine C5.out.mono ?_
            rintro en w8 ⟨rfl, rfl⟩
            go_wp2_with fail
            refine C6.out.mono ?_
            rintro en w8 ⟨rfl, rfl⟩
            go_wp2_with fail
            refine C7.out.mono ?_
            rintro en w8 ⟨A8, c8, rfl, hod, S8, h8, v8⟩
            have HV8 := Lib.hid (HV7.out.trans v8)
            clear hod h8 v8
            go_wp2_with fail
            refine (awake16 w8).mono ?_
            rintro en w9 ⟨rfl, hb9⟩
            have HV9 := Lib.hid (HV8.out.trans (Adv.of_below S8 hb9))
            clear hb9
            go_wp2_with fail
            go_ret
            exact ⟨rfl, HV9.out.below HB1.out HS1.out⟩
          · by_cases q4 : i ≤ (N : Int) + 66
            · have hW : W = false := by rw [HXS.out]; rw [decide_eq_true (by omega : (N : Int) < i), decide_eq_false (by omega : ¬ i ≤ (N : Int) + 2)]; rfl
              have hO : ok = true := by rw [HOKS.out]; rw [decide_eq_true (by omega : (N : Int) + 2 < i), decide_eq_true (by omega : i ≤ (N : Int) + 66)]; rfl
              subst hW hO
              have b1 : (i == (N : Int) + 1) = false := by simp; omega
              have b2 : (i == (N : Int) + 2) = false := by simp; omega
              have d1 : decide ((N : Int) + 2 < i) = true := by simp; omega
              have d2 : decide (i ≤ (N : Int) + 66) = true := by simp; omega
              go_wp2_with fail
              refine C5.out.mono ?_
              rintro en w8 ⟨rfl, rfl⟩
              go_wp2_with fail
              refine C6.out.mono ?_
              rintro en w8 ⟨rfl, rfl⟩
              go_wp2_with fail
              refine C7.out.mono ?_
              rintro en w8 ⟨A8, c8, rfl, hod, S8, h8, v8⟩
              have HV8 := Lib.hid (HV7.out.trans v8)
              clear hod h8 v8
              go_wp2_with fail
              refine (awake16 w8).mono ?_
              rintro en w9 ⟨rfl, hb9⟩
              have HV9 := Lib.hid (HV8.out.trans (Adv.of_below S8 hb9))
              clear hb9
              go_wp2_with fail
              go_ret
              exact ⟨rfl, HV9.out.below HB1.out HS1.out⟩
            · have hW : W = false := by rw [HXS.out]; rw [decide_eq_true (by omega : (N : Int) < i), decide_eq_false (by omega : ¬ i ≤ (N : Int) + 2)]; rfl
              have hO : ok = false := by rw [HOKS.out]; rw [decide_eq_true (by omega : (N : Int) + 2 < i), decide_eq_false (by omega : ¬ i ≤ (N : Int) + 66)]; rfl
              subst hW hO
              have b1 : (i == (N : Int) + 1) = false := by simp; omega
              have b2 : (i == (N : Int) + 2) = false := by simp; omega
              have d1 : decide ((N : Int) + 2 < i) = true := by simp; omega
              have d2 : decide (i ≤ (N : Int) + 66) = false := by simp; omega
              go_wp2_with fail
              refine C5.out.mono ?_
              rintro en w8 ⟨rfl, rfl⟩
              go_wp2_with fail
              refine C6.out.mono ?_
              rintro en w8 ⟨rfl, rfl⟩
              go_wp2_with fail
              refine C7.out.mono ?_
              rintro en w8 ⟨A8, c8, rfl, hod, S8, h8, v8⟩
              have HV8 := Lib.hid (HV7.out.trans v8)
              clear hod h8 v8
              go_wp2_with fail
              refine (awake16 w8).mono ?_
              rintro en w9 ⟨rfl, hb9⟩
              have HV9 := Lib.hid (HV8.out.trans (Adv.of_below S8 hb9))
              clear hb9
              go_wp2_with fail
              go_ret
              exact ⟨rfl, HV9.out.below HB1.out HS1.out⟩
end Go.Proofs.Ytaknfmionkkdjaa

