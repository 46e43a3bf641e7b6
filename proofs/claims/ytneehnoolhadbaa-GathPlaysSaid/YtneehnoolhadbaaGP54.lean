/- GathPlaysWalk -/
import Derived.Test.YtneehnoolhadbaaGP53
import Derived.BigQuiet
import Derived.Deep.CutBlock
import Derived.Deep.DeepCutAuto
namespace Go.Proofs.Ytneehnoolhadbaa
open Go.RowKit
set_option linter.unusedVariables false
set_option linter.unusedSimpArgs false
set_option maxHeartbeats 16000000 in
set_option maxRecDepth 100000 in
theorem gathPlays_walk (a0 a1 : Int) (ga : GA) (mo : Mg) (a3 : Option Addr) (len3 cap3 : Nat) (z3 : List Int) (a4 : Option Addr) (len4 cap4 : Nat) (e4 : List (List Value)) (w : World) (w0 : (Lit.int .i64 a0).wf = true) (w1 : (Lit.int .i64 a1).wf = true) (w2 : MsgW mo) (w3 : IsRow .i64 w a3 len3 cap3 z3) (w4 : IsRowW w a4 len4 cap4 e4) :
    Calls Try.prog 6 #[.int .i64 a0, .int .i64 a1, msgV ga mo, .slice a3 len3 cap3, .slice a4 len4 cap4] w fun e w' => e = .returned (.bool true) ∧ Below w.heap.size w w' := by
  obtain ⟨hz1, hzl1, hle1, hcap1⟩ := w3.ints
  obtain ⟨zs, hzs⟩ : ∃ x, z3.take len3 = x := ⟨_, rfl⟩
  rw [hzs] at hz1 hzl1
  have HL1 := Lib.hid hz1
  have HZL := Lib.hid hzl1
  have hlm : len3 ≤ maxLen := Nat.le_trans hle1 hcap1
  unfold maxLen at hlm
  have HRW := Lib.hid w4
  have hlm4 : len4 ≤ maxLen := Nat.le_trans w4.1.2.1 w4.1.2.2
  unfold maxLen at hlm4
  have HOW := Lib.hid w2
  have c7 := and_7 a0
  have c255 := and_255 a1
  obtain ⟨n8, hn8, hn8'⟩ : ∃ p : Nat, a0 % 8 = (p : Int) ∧ p < 8 := ⟨(a0 % 8).toNat, by omega, by omega⟩
  obtain ⟨p, hp, hp2⟩ : ∃ p : Nat, a1 % 256 = (p : Int) ∧ p < 256 := ⟨(a1 % 256).toNat, by omega, by omega⟩
  rw [hn8] at c7
  rw [hp] at c255
  obtain ⟨s, hs, hs1, hs7⟩ : ∃ s : Nat, Vw.size (n8 : Int) = s ∧ 1 ≤ s ∧ s ≤ 7 := ⟨_, rfl, (Vw.size_bound _).1, (Vw.size_bound _).2⟩
  have HS := Lib.hid hs
  obtain ⟨I, hI, hIs⟩ : ∃ I : Nat, p % s = I ∧ I < s := ⟨_, rfl, Nat.mod_lt _ (by omega)⟩
  have HI := Lib.hid hI
  clear w0 w1 w2 w3 w4 hzs hzl1 hle1 hcap1 hz1 hp hn8 hs hI
  unfold msgV msgC
  go_enter Try.func6, Try.ntmps6
  go_upto_region 1 with fail
  obtain ⟨q7, x1, hgE, hwE, hbE, hkE⟩ := alloced w (msgC ga mo) 31
  unfold msgC at hwE
  rw [hgE, hwE]
  have HB1 := Lib.hid hbE
  have HK1 := Lib.hid hkE
  have HQ7 := Lib.hid hgE
  clear hgE hwE hbE hkE
  go_upto_region 2 with fail
  go_cut [1] from 23 to 27 (fun s1 wx => s1 = .int .i64 (I : Int) ∧ wx = x1)
  case first =>
    have hIi : (p : Int) % (s : Int) = (I : Int) := by rw [← HI.out]; omega
    have hsz : (s : Int) = min (max (n8 : Int) 1) 7 := by rw [← HS.out]; unfold Vw.size; omega
    by_cases h0 : n8 = 0
    · subst h0
      have e1 : (s : Int) = 1 := by rw [hsz]; decide
      rw [e1] at hIi
      clear hsz e1
      go_wp2_with fail
      all_goals
        go_meet
        exact ⟨by congr 1 <;> omega, rfl⟩
    · have e1 : (s : Int) = (n8 : Int) := by rw [hsz]; omega
      have hn1 : 1 ≤ n8 := by omega
      rw [e1] at hIi
      clear hsz e1 h0
      go_wp2_with fail
      all_goals
        go_meet
        exact ⟨by congr 1 <;> omega, rfl⟩
  case rest =>
  obtain ⟨rfl, rfl⟩ := hcut
  rename World => x1
  clear c255
  have k0 := HK1.out.cell 0
  have f0 := HK1.out.frozen 0
  have k1 := HK1.out.cell 1
  have f1 := HK1.out.frozen 1
  have k3 := HK1.out.cell 3
  have f3 := HK1.out.frozen 3
  simp [msgC] at k0 k1 k3
  go_upto_region 4 with fail
  obtain ⟨x2, hx2⟩ : ∃ y, ((x1.setCell ⟨q7, 0, none⟩ (.int .i64 2)).setCell ⟨q7, 1, none⟩ (.int .i64 (I : Int))).setCell ⟨q7, 3, none⟩ (.int .i64 9) = y := ⟨_, rfl⟩
  rw [hx2]
  have HK2 : Hid (Blk x2 q7 31 (msgC ga { mo with kind := 2, frm := (I : Int), view := 9 })) := Lib.hid (by rw [← hx2]; exact ((HK1.out.set_ 0 _).set_ 1 _).set_ 3 _)
  have hq7 : w.heap.size ≤ q7 := Nat.le_of_eq HQ7.out
  have HB2 : Hid (Below w.heap.size w x2) := Lib.hid (by rw [← hx2]; exact ((HB1.out.setCell (show w.heap.size ≤ (⟨q7, 0, none⟩ : Addr).block from hq7) _).setCell (show w.heap.size ≤ (⟨q7, 1, none⟩ : Addr).block from hq7) _).setCell (show w.heap.size ≤ (⟨q7, 3, none⟩ : Addr).block from hq7) _)
  clear hx2 k0 f0 k1 f1 k3 f3 HK1 HB1 hq7
  have hS0 : Below x2.heap.size x2 x2.drew := bel_drewN x2 1
  refine wp_region_held_drew (S := fun w' => Below x2.heap.size x2 w') (by kernel_rfl) hS0 (fun _ => ?_)
  have hS := Lib.hid hS0
  clear hS0
  generalize x2.drew = x3 at hS ⊢
  refine wpAnyH_take (i := 0) (v := .int .i64 (n8 : Int)) rfl (by kernel_rfl) (by kernel_rfl) (by kernel_rfl) (fun _ _ _ h => h) (Or.inl ⟨by kernel_rfl, fun w _ => by go_simp⟩) hS.out ?_
  refine wpAnyH_take (i := 1) (v := .int .i64 (I : Int)) rfl (by kernel_rfl) (by kernel_rfl) (by kernel_rfl) (fun _ _ _ h => h) (Or.inl ⟨by kernel_rfl, fun w _ => by go_simp⟩) hS.out ?_
  refine wpAnyH_take (i := 2) (v := .agg #[.int .i64 2, .int .i64 (I : Int), .int .i64 mo.dst, .int .i64 9, .int .i64 mo.inst, .int .i64 mo.len, .bool mo.has, .int .i64 mo.mem, .int .i64 mo.src, .int .i64 mo.pos, .int .i64 mo.tot, .slice ga.Ad mo.data.length ga.cd, .int .i64 mo.hop, .int .i64 mo.seq, .slice ga.Ah mo.hav.length ga.ch, .slice ga.An mo.nee.length ga.cn, .int .i64 mo.idx, .int .i64 mo.ent.s, .int .i64 mo.ent.q, .int .i64 mo.ent.c.kind, .int .i64 mo.ent.c.who, .slice ga.c.Ak mo.ent.c.key.length ga.c.ck, .slice ga.c.Av mo.ent.c.val.length ga.c.cv, .slice ga.c.Ao mo.ent.c.old.length ga.c.co]) rfl (by kernel_rfl) (by kernel_rfl) (by kernel_rfl) (fun _ _ _ h => h) (yieldsIf_load_mid (by kernel_rfl) 31 (.tmp 7) rfl q7 0 (by kernel_rfl) [.int .i64 2, .int .i64 (I : Int), .int .i64 mo.dst, .int .i64 9, .int .i64 mo.inst, .int .i64 mo.len, .bool mo.has, .int .i64 mo.mem, .int .i64 mo.src, .int .i64 mo.pos, .int .i64 mo.tot, .slice ga.Ad mo.data.length ga.cd, .int .i64 mo.hop, .int .i64 mo.seq, .slice ga.Ah mo.hav.length ga.ch, .slice ga.An mo.nee.length ga.cn, .int .i64 mo.idx, .int .i64 mo.ent.s, .int .i64 mo.ent.q, .int .i64 mo.ent.c.kind, .int .i64 mo.ent.c.who, .slice ga.c.Ak mo.ent.c.key.length ga.c.ck, .slice ga.c.Av mo.ent.c.val.length ga.c.cv, .slice ga.c.Ao mo.ent.c.old.length ga.c.co] _ (fun wq hq => rangeG18 (HK2.out.below hq)) Try.underlying31 rfl (by kernel_rfl)) hS.out ?_
  refine wpAnyH_take (i := 4) (v := .int .i64 (n8 : Int)) rfl (by kernel_rfl) (by kernel_rfl) (by kernel_rfl) (fun _ _ _ h => h) (Or.inl ⟨by kernel_rfl, fun w _ => by go_simp⟩) hS.out ?_
  refine wpAnyH_take (i := 5) (v := .int .i64 (I : Int)) rfl (by kernel_rfl) (by kernel_rfl) (by kernel_rfl) (fun _ _ _ h => h) (Or.inl ⟨by kernel_rfl, fun w _ => by go_simp⟩) hS.out ?_
  refine wpAnyH_take (i := 6) (v := .agg #[.int .i64 2, .int .i64 (I : Int), .int .i64 mo.dst, .int .i64 9, .int .i64 mo.inst, .int .i64 mo.len, .bool mo.has, .int .i64 mo.mem, .int .i64 mo.src, .int .i64 mo.pos, .int .i64 mo.tot, .slice ga.Ad mo.data.length ga.cd, .int .i64 mo.hop, .int .i64 mo.seq, .slice ga.Ah mo.hav.length ga.ch, .slice ga.An mo.nee.length ga.cn, .int .i64 mo.idx, .int .i64 mo.ent.s, .int .i64 mo.ent.q, .int .i64 mo.ent.c.kind, .int .i64 mo.ent.c.who, .slice ga.c.Ak mo.ent.c.key.length ga.c.ck, .slice ga.c.Av mo.ent.c.val.length ga.c.cv, .slice ga.c.Ao mo.ent.c.old.length ga.c.co]) rfl (by kernel_rfl) (by kernel_rfl) (by kernel_rfl) (fun _ _ _ h => h) (yieldsIf_load_mid (by kernel_rfl) 31 (.tmp 7) rfl q7 0 (by kernel_rfl) [.int .i64 2, .int .i64 (I : Int), .int .i64 mo.dst, .int .i64 9, .int .i64 mo.inst, .int .i64 mo.len, .bool mo.has, .int .i64 mo.mem, .int .i64 mo.src, .int .i64 mo.pos, .int .i64 mo.tot, .slice ga.Ad mo.data.length ga.cd, .int .i64 mo.hop, .int .i64 mo.seq, .slice ga.Ah mo.hav.length ga.ch, .slice ga.An mo.nee.length ga.cn, .int .i64 mo.idx, .int .i64 mo.ent.s, .int .i64 mo.ent.q, .int .i64 mo.ent.c.kind, .int .i64 mo.ent.c.who, .slice ga.c.Ak mo.ent.c.key.length ga.c.ck, .slice ga.c.Av mo.ent.c.val.length ga.c.cv, .slice ga.c.Ao mo.ent.c.old.length ga.c.co] _ (fun wq hq => rangeG18 (HK2.out.below hq)) Try.underlying31 rfl (by kernel_rfl)) hS.out ?_
  refine wpAnyH_ready (rs := [3]) (by kernel_rfl) (by simp) ?_
  refine AllReadyH.cons rfl (fun K hK => ?_) AllReadyH.nil
  go_simp
  refine (gnew_any (W := w) (w := x3) (a := ga) (m := { mo with kind := 2, frm := (I : Int), view := 9 }) (n8 : Int) 9 I s (HB2.out.trans (hS.out.mono HB2.out.size)) ⟨by omega, by omega⟩ HS.out hIs HOW.out.lo).mono ?_
  rintro e x4 ⟨b, S1, rfl, hg, hb, hlo⟩
  have HA1 : Hid (GthAt w x4 S1 b (Gm.new s (I : Int) 9 ⟨2, (I : Int), mo.inst, mo.len, mo.has⟩)) := Lib.hid hg
  have hS := Lib.hid (hS.out.trans (hb.mono hS.out.size))
  clear hg hb hlo
  go_simp
  refine hK.out _ _ hS.out (fun _ => ?_)
  clear hK K
  refine wpAnyH_ready (rs := [7]) (by kernel_rfl) (by simp) ?_
  refine AllReadyH.cons rfl (fun K hK => ?_) AllReadyH.nil
  go_simp
  refine (rnew_any (W := w) (w := x4) (a := ga) (m := { mo with kind := 2, frm := (I : Int), view := 9 }) (n8 : Int) 9 I s (HB2.out.trans (hS.out.mono HB2.out.size)) ⟨by omega, by omega⟩ HS.out hIs HOW.out.lo rfl).mono ?_
  rintro e x5 ⟨h, S2, rfl, hg, hb, hlo⟩
  have HA2 : Hid (RthAt w x5 S2 h (Gm.new s (I : Int) 9 ⟨2, (I : Int), mo.inst, mo.len, mo.has⟩) ∧ ∀ q, S1 q → ¬ S2 q) := Lib.hid ⟨hg, fun q hq hs => by have := (HA1.out.lt q hq).2; have := hlo q hs; omega⟩
  have HA1 := Lib.hid (HA1.out.below hb)
  have hS := Lib.hid (hS.out.trans (hb.mono hS.out.size))
  clear hg hb hlo
  go_simp
  refine hK.out _ _ hS.out (fun _ => ?_)
  clear hK K
  refine wpAnyH_take (i := 8) (v := .pointer (some ⟨b, 0, none⟩)) rfl (by kernel_rfl) (by kernel_rfl) (by kernel_rfl) (fun _ _ _ h => h) (Or.inl ⟨by kernel_rfl, fun w _ => by go_simp⟩) hS.out ?_
  refine wpAnyH_take (i := 9) (v := .pointer (some ⟨h, 0, none⟩)) rfl (by kernel_rfl) (by kernel_rfl) (by kernel_rfl) (fun _ _ _ h => h) (Or.inl ⟨by kernel_rfl, fun w _ => by go_simp⟩) hS.out ?_
  refine wpAnyH_done (by kernel_rfl) ?_ _
  go_simp
  have HP : Hid (GPair w x5 b h (Gm.new s (I : Int) 9 ⟨2, (I : Int), mo.inst, mo.len, mo.has⟩) (Gm.new s (I : Int) 9 ⟨2, (I : Int), mo.inst, mo.len, mo.has⟩) []) := Lib.hid ⟨S1, S2, HA1.out, HA2.out.1, HA2.out.2, fun v hv => by cases hv⟩
  clear HA1 HA2 hS HK2 HB2
  obtain ⟨g0, hg0⟩ : ∃ g, Gm.new s (I : Int) 9 ⟨2, (I : Int), mo.inst, mo.len, mo.has⟩ = g := ⟨_, rfl⟩
  rw [hg0] at HP
  clear hg0 HOW HS HI
  go_upto_region 8 with fail
  go_loopw [13] (fun s13 wr => ∃ (j : Nat) (g : Gm), j ≤ len3 ∧ j ≤ 40 ∧ s13 = .int .i64 (j : Int) ∧ Hid (GPair w wr b h g g [])) (fun s13 _ => 40 - (intOf s13).toNat)
  case atStart => exact ⟨0, g0, by omega, by omega, rfl, HP⟩
  case round =>
    clear HP
    obtain ⟨j, g, hjl, hj40, rfl, HP⟩ := hrel
    go_upto_region 8 with fail
    obtain ⟨D, hD⟩ : ∃ D, decide (j < len3 ∧ j < 40) = D := ⟨_, rfl⟩
    have HD := Lib.hid hD
    go_cut [49] from 42 to 48 (fun s49 wx => s49 = .bool D ∧ wx = wr)
    case first =>
      clear hD
      by_cases q1 : j < len3
      · have q1' : (j : Int) < (len3 : Int) := by omega
        by_cases q2 : j < 40
        · have q2' : (j : Int) < 40 := by omega
          obtain rfl : D = true := by rw [← HD.out]; exact decide_eq_true ⟨q1, q2⟩
          go_wp2_with fail
          go_meet
          exact ⟨rfl, rfl⟩
        · have q2' : ¬ (j : Int) < 40 := by omega
          obtain rfl : D = false := by rw [← HD.out]; exact decide_eq_false (fun h => q2 h.2)
          go_wp2_with fail
          go_meet
          exact ⟨rfl, rfl⟩
      · have q1' : ¬ (j : Int) < (len3 : Int) := by omega
        obtain rfl : D = false := by rw [← HD.out]; exact decide_eq_false (fun h => q1 h.1)
        go_wp2_with fail
        go_meet
        exact ⟨rfl, rfl⟩
    case rest =>
      obtain ⟨rfl, rfl⟩ := hcut
      rename World => wr
      clear hD
      cases D with
      | false =>
        go_wp2_with fail
        refine (awake18 wr).mono ?_
        rintro e x9 ⟨rfl, hb9⟩
        have HP := Lib.hid (HP.out.below hb9)
        clear hb9
        go_wp2_with fail
        go_ret
        exact ⟨rfl, HP.out.bel⟩
      | true =>
        obtain ⟨q1, q2⟩ := of_decide_eq_true HD.out
        have q1' : (j : Int) < (len3 : Int) := by omega
        obtain ⟨z, hz⟩ : ∃ z, zs[j]? = some z := ⟨_, List.getElem?_eq_getElem (by have := HZL.out; omega)⟩
        obtain ⟨zb, zo, rfl, hzb⟩ := HL1.out.int_at q1
        have hc1 := (HL1.out.below HP.out.bel).int_cell q1 hz
        have HZB : Hid (∀ wx, Below w.heap.size w wx → wx.cell? ⟨zb, zo + j, none⟩ = some (.int .i64 z)) := Lib.hid (fun wx hb => (HL1.out.below hb).int_cell q1 hz)
        have HZ1 : Hid (zb < wr.heap.size) := Lib.hid (World.block_lt_of_cell? _ _ hc1)
        have e7 := and_7 z
        obtain ⟨t, ht, ht8⟩ : ∃ u : Nat, z % 8 = (u : Int) ∧ u < 8 := ⟨(z % 8).toNat, by omega, by omega⟩
        rw [ht] at e7
        clear hz ht
        go_upto_block 2 with fail
        go_cut [14, 15, 16, 17, 18, 19] from 57 to 148 (fun s14 s15 s16 s17 s18 s19 wx => ∃ g2 : Gm, Hid (GPair w wx b h g2 g2 []))
        case first =>
          rcases (show t < 4 ∨ t = 4 ∨ 4 < t by omega) with ht4 | ht4 | ht4
          · -- Take
            go_upto_region 14 with fail
            go_cut [71] from 72 to 72 (fun s71 wx => s71 = .bool (decide (t = 0)) ∧ wx = wr)
            case first =>
              rcases (show t = 0 ∨ t = 1 ∨ t = 2 ∨ t = 3 by omega) with rfl | rfl | rfl | rfl
              all_goals
                go_wp2_with fail
                go_meet
                exact ⟨rfl, rfl⟩
            case rest =>
            obtain ⟨rfl, rfl⟩ := hcut
            rename World => wr
            obtain ⟨B0, hB0⟩ : ∃ B, decide (t = 0) = B := ⟨_, rfl⟩
            rw [hB0]
            go_upto_if 71 with fail
            go_cut [71] from 73 to 75 (fun s71 wx => s71 = .bool true ∧ wx = wr)
            case first =>
              rcases (show t = 0 ∨ t = 1 ∨ t = 2 ∨ t = 3 by omega) with rfl | rfl | rfl | rfl
              all_goals
                subst hB0
                go_wp2_with fail
                go_meet
                exact ⟨rfl, rfl⟩
            case rest =>
            obtain ⟨rfl, rfl⟩ := hcut
            rename World => wr
            clear hB0 e7
            obtain ⟨n1, hn1⟩ : ∃ y, bits .or .i64 (bits .andNot .i64 z 7) 1 = y := ⟨_, rfl⟩
            go_upto_region 18 with fail
            obtain ⟨M0, hM0⟩ : ∃ M, mgOf n1 (z / 32) = M := ⟨_, rfl⟩
            have HMW0 : Hid (MsgW M0) := Lib.hid (by rw [← hM0]; exact mgOf_w _ _)
            have CM := fun wx => msg_any n1 (z / 32) wx
            rw [hM0] at CM
            have HNN := Lib.hid hn1
            clear hM0 hn1
            go_cut [14] from 76 to 87 (fun s14 wx => ∃ (q14 : Nat) (a : GA), s14 = .pointer (some ⟨q14, 0, none⟩) ∧ Hid (Below wr.heap.size wr wx) ∧ Hid (wr.heap.size ≤ q14) ∧ Hid (Blk wx q14 31 (msgC a M0)))
            case first =>
              refine region_T (n := 13) (S := fun w' => Below wr.heap.size wr w') (by kernel_rfl) ?_
              have hS : Hid (Below wr.heap.size wr wr.drew) := Lib.hid (bel_drewN wr 1)
              obtain ⟨x0, hx0⟩ : ∃ y, wr.drew = y := ⟨_, rfl⟩
              rw [hx0] at hS ⊢
              clear hx0
              refine AnyT.takeC [11, 5, 4, 3, 2, 0] [] (i := 0) (v := .slice (some ⟨zb, zo, none⟩) len3 cap3) rfl (by kernel_rfl) (by kernel_rfl) (by kernel_rfl) (by kernel_rfl) (by kernel_rfl) (by kernel_rfl) (fun _ _ _ h => h) (Or.inl ⟨by kernel_rfl, fun w _ => by go_simp⟩) hS.out ?_
              refine AnyT.takeC [11, 5, 4, 3, 2, 1] [] (i := 1) (v := .int .i64 (j : Int)) rfl (by kernel_rfl) (by kernel_rfl) (by kernel_rfl) (by kernel_rfl) (by kernel_rfl) (by kernel_rfl) (fun _ _ _ h => h) (Or.inl ⟨by kernel_rfl, fun w _ => by go_simp⟩) hS.out ?_
              refine AnyT.takeC [11, 5, 4, 3, 2] [] (i := 2) (v := .pointer (some ⟨zb, zo + j, none⟩)) rfl (by kernel_rfl) (by kernel_rfl) (by kernel_rfl) (by kernel_rfl) (by kernel_rfl) (by kernel_rfl) (fun _ _ _ h => h) (Or.inl ⟨by kernel_rfl, fun w _ => by go_simp⟩) hS.out ?_
              refine AnyT.takeC [11, 5, 4, 3] [(13, [11, 5, 4, 3])] (i := 3) (v := .int .i64 z) rfl (by kernel_rfl) (by kernel_rfl) (by kernel_rfl) (by kernel_rfl) (by kernel_rfl) (by kernel_rfl) (fun _ _ _ h => h) (Or.inl ⟨by kernel_rfl, fun wq hq => by have q := (hq.cell (p := ⟨zb, zo + j, none⟩) HZ1.out).trans hc1; go_simp⟩) hS.out ?_
              refine AnyT.takeC [11, 5, 4] [] (i := 4) (v := .int .i64 (bits .andNot .i64 z 7)) rfl (by kernel_rfl) (by kernel_rfl) (by kernel_rfl) (by kernel_rfl) (by kernel_rfl) (by kernel_rfl) (fun _ _ _ h => h) (Or.inl ⟨by kernel_rfl, fun w _ => by go_simp⟩) hS.out ?_
              refine AnyT.takeC [11, 5] [] (i := 5) (v := .int .i64 n1) rfl (by kernel_rfl) (by kernel_rfl) (by kernel_rfl) (by kernel_rfl) (by kernel_rfl) (by kernel_rfl) (fun _ _ _ h => h) (Or.inl ⟨by kernel_rfl, fun w _ => by go_simp; first | done | exact HNN.out⟩) hS.out ?_
              refine AnyT.takeC [11, 10, 9, 8, 6] [] (i := 6) (v := .slice (some ⟨zb, zo, none⟩) len3 cap3) rfl (by kernel_rfl) (by kernel_rfl) (by kernel_rfl) (by kernel_rfl) (by kernel_rfl) (by kernel_rfl) (fun _ _ _ h => h) (Or.inl ⟨by kernel_rfl, fun w _ => by go_simp⟩) hS.out ?_
              refine AnyT.takeC [11, 10, 9, 8, 7] [] (i := 7) (v := .int .i64 (j : Int)) rfl (by kernel_rfl) (by kernel_rfl) (by kernel_rfl) (by kernel_rfl) (by kernel_rfl) (by kernel_rfl) (fun _ _ _ h => h) (Or.inl ⟨by kernel_rfl, fun w _ => by go_simp⟩) hS.out ?_
              refine AnyT.takeC [11, 10, 9, 8] [] (i := 8) (v := .pointer (some ⟨zb, zo + j, none⟩)) rfl (by kernel_rfl) (by kernel_rfl) (by kernel_rfl) (by kernel_rfl) (by kernel_rfl) (by kernel_rfl) (fun _ _ _ h => h) (Or.inl ⟨by kernel_rfl, fun w _ => by go_simp⟩) hS.out ?_
              refine AnyT.takeC [11, 10, 9] [(13, [11, 10, 9])] (i := 9) (v := .int .i64 z) rfl (by kernel_rfl) (by kernel_rfl) (by kernel_rfl) (by kernel_rfl) (by kernel_rfl) (by kernel_rfl) (fun _ _ _ h => h) (Or.inl ⟨by kernel_rfl, fun wq hq => by have q := (hq.cell (p := ⟨zb, zo + j, none⟩) HZ1.out).trans hc1; go_simp⟩) hS.out ?_
              refine AnyT.takeC [11, 10] [] (i := 10) (v := .int .i64 (z / 32)) rfl (by kernel_rfl) (by kernel_rfl) (by kernel_rfl) (by kernel_rfl) (by kernel_rfl) (by kernel_rfl) (fun _ _ _ h => h) (Or.inl ⟨by kernel_rfl, fun w _ => by go_simp⟩) hS.out ?_
              refine AnyT.ready (rs := [11, 12]) (by kernel_rfl) (by simp) ?_
              refine AllT.cons rfl (fun K hK => ?_) ?_
              · go_simp
                refine (CM x0).mono ?_
                rintro e x1 ⟨a, rfl, hrd, hb⟩
                unfold msgV msgC
                have hS := Lib.hid (hS.out.trans (hb.mono hS.out.size))
                clear hrd hb
                go_simp
                refine hK.out _ _ (Or.inr hS.out) (fun _ => ?_)
                clear hK K
                refine AnyT.ready (rs := [12]) (by kernel_rfl) (by simp) ?_
                refine AllT.cons rfl (fun K hK => ?_) AllT.nil
                go_simp
                obtain ⟨q14, x2, hgE, hwE, hbE, hkE⟩ := alloced x1 #[.int .i64 0, .int .i64 0, .int .i64 0, .int .i64 0, .int .i64 0, .int .i64 0, .bool false, .int .i64 0, .int .i64 0, .int .i64 0, .int .i64 0, .slice none 0 0, .int .i64 0, .int .i64 0, .slice none 0 0, .slice none 0 0, .int .i64 0, .int .i64 0, .int .i64 0, .int .i64 0, .int .i64 0, .slice none 0 0, .slice none 0 0, .slice none 0 0] 31
                rw [hgE, hwE]
                have HQ := Lib.hid hkE
                have HQS : Hid (wr.heap.size ≤ q14) := Lib.hid (by rw [← hgE]; exact hS.out.size)
                have hS := Lib.hid (hS.out.trans (hbE.mono hS.out.size))
                clear hgE hwE hbE hkE
                go_simp
                refine hK.out _ _ (Or.inr (hS.out)) (fun _ => ?_)
                clear hK K
                refine AnyT.ready (rs := [13]) (by kernel_rfl) (by simp) ?_
                refine AllT.cons rfl (fun K hK => ?_) AllT.nil
                rw [if_pos (by kernel_rfl)]
                refine wp_store_row 31 (.tmp 14) (.tmp 87) rfl q14 #[.int .i64 M0.kind, .int .i64 M0.frm, .int .i64 M0.dst, .int .i64 M0.view, .int .i64 M0.inst, .int .i64 M0.len, .bool M0.has, .int .i64 M0.mem, .int .i64 M0.src, .int .i64 M0.pos, .int .i64 M0.tot, .slice a.Ad M0.data.length a.cd, .int .i64 M0.hop, .int .i64 M0.seq, .slice a.Ah M0.hav.length a.ch, .slice a.An M0.nee.length a.cn, .int .i64 M0.idx, .int .i64 M0.ent.s, .int .i64 M0.ent.q, .int .i64 M0.ent.c.kind, .int .i64 M0.ent.c.who, .slice a.c.Ak M0.ent.c.key.length a.c.ck, .slice a.c.Av M0.ent.c.val.length a.c.cv, .slice a.c.Ao M0.ent.c.old.length a.c.co] (by kernel_rfl) (by kernel_rfl) 31 #[.int .i64 0, .int .i64 0, .int .i64 0, .int .i64 0, .int .i64 0, .int .i64 0, .bool false, .int .i64 0, .int .i64 0, .int .i64 0, .int .i64 0, .slice none 0 0, .int .i64 0, .int .i64 0, .slice none 0 0, .slice none 0 0, .int .i64 0, .int .i64 0, .int .i64 0, .int .i64 0, .int .i64 0, .slice none 0 0, .slice none 0 0, .slice none 0 0] HQ.out (by kernel_rfl) rfl (by kernel_rfl) ?_
                refine hK.out _ _ (Or.inl rfl) (fun _ => ?_)
                clear hK K
                refine AnyT.done (by kernel_rfl) ?_ _
                go_simp
                go_wp2_with fail
                go_meet
                exact ⟨q14, a, rfl, Lib.hid (below_setRow hS.out HQS.out _), HQS, Lib.hid (HQ.out.row _)⟩
              refine AllT.cons rfl (fun K hK => ?_) AllT.nil
              go_simp
              obtain ⟨q14, x2, hgE, hwE, hbE, hkE⟩ := alloced x0 #[.int .i64 0, .int .i64 0, .int .i64 0, .int .i64 0, .int .i64 0, .int .i64 0, .bool false, .int .i64 0, .int .i64 0, .int .i64 0, .int .i64 0, .slice none 0 0, .int .i64 0, .int .i64 0, .slice none 0 0, .slice none 0 0, .int .i64 0, .int .i64 0, .int .i64 0, .int .i64 0, .int .i64 0, .slice none 0 0, .slice none 0 0, .slice none 0 0] 31
              rw [hgE, hwE]
              have HQ := Lib.hid hkE
              have HQS : Hid (wr.heap.size ≤ q14) := Lib.hid (by rw [← hgE]; exact hS.out.size)
              have hS := Lib.hid (hS.out.trans (hbE.mono hS.out.size))
              clear hgE hwE hbE hkE
              go_simp
              refine hK.out _ _ (Or.inr hS.out) (fun _ => ?_)
              clear hK K
              refine AnyT.ready (rs := [11]) (by kernel_rfl) (by simp) ?_
              refine AllT.cons rfl (fun K hK => ?_) AllT.nil
              go_simp
              refine (CM x2).mono ?_
              rintro e x1 ⟨a, rfl, hrd, hb⟩
              unfold msgV msgC
              have hS := Lib.hid (hS.out.trans (hb.mono hS.out.size))
              have HQ := Lib.hid (HQ.out.below hb)
              clear hrd hb
              go_simp
              refine hK.out _ _ (Or.inr (hS.out)) (fun _ => ?_)
              clear hK K
              refine AnyT.ready (rs := [13]) (by kernel_rfl) (by simp) ?_
              refine AllT.cons rfl (fun K hK => ?_) AllT.nil
              rw [if_pos (by kernel_rfl)]
              refine wp_store_row 31 (.tmp 14) (.tmp 87) rfl q14 #[.int .i64 M0.kind, .int .i64 M0.frm, .int .i64 M0.dst, .int .i64 M0.view, .int .i64 M0.inst, .int .i64 M0.len, .bool M0.has, .int .i64 M0.mem, .int .i64 M0.src, .int .i64 M0.pos, .int .i64 M0.tot, .slice a.Ad M0.data.length a.cd, .int .i64 M0.hop, .int .i64 M0.seq, .slice a.Ah M0.hav.length a.ch, .slice a.An M0.nee.length a.cn, .int .i64 M0.idx, .int .i64 M0.ent.s, .int .i64 M0.ent.q, .int .i64 M0.ent.c.kind, .int .i64 M0.ent.c.who, .slice a.c.Ak M0.ent.c.key.length a.c.ck, .slice a.c.Av M0.ent.c.val.length a.c.cv, .slice a.c.Ao M0.ent.c.old.length a.c.co] (by kernel_rfl) (by kernel_rfl) 31 #[.int .i64 0, .int .i64 0, .int .i64 0, .int .i64 0, .int .i64 0, .int .i64 0, .bool false, .int .i64 0, .int .i64 0, .int .i64 0, .int .i64 0, .slice none 0 0, .int .i64 0, .int .i64 0, .slice none 0 0, .slice none 0 0, .int .i64 0, .int .i64 0, .int .i64 0, .int .i64 0, .int .i64 0, .slice none 0 0, .slice none 0 0, .slice none 0 0] HQ.out (by kernel_rfl) rfl (by kernel_rfl) ?_
              refine hK.out _ _ (Or.inl rfl) (fun _ => ?_)
              clear hK K
              refine AnyT.done (by kernel_rfl) ?_ _
              go_simp
              go_wp2_with fail
              go_meet
              exact ⟨q14, a, rfl, Lib.hid (below_setRow hS.out HQS.out _), HQS, Lib.hid (HQ.out.row _)⟩
            case rest =>
            obtain ⟨q14, a, rfl, HB14, HQ14, HK14⟩ := hcut
            rename World => x2
            clear CM HNN hc1
            have hS : Hid (Below wr.heap.size wr x2) := HB14
            have e15 := and_15 (z / 1048576)
            have e7 := and_7 (z / 16777216)
            obtain ⟨y, hy, hy2⟩ : ∃ u : Nat, z / 1048576 % 16 = (u : Int) ∧ u < 16 := ⟨(z / 1048576 % 16).toNat, by omega, by omega⟩
            obtain ⟨fv, hfv, hfv8⟩ : ∃ u : Nat, z / 16777216 % 8 = (u : Int) ∧ u < 8 := ⟨(z / 16777216 % 8).toNat, by omega, by omega⟩
            rw [hy] at e15
            rw [hfv] at e7
            obtain ⟨vv, hvv⟩ : ∃ vv : Int, 9 + (y : Int) / 15 = vv := ⟨_, rfl⟩
            have hwv : IntKind.i64.wrap (9 + (y : Int) / 15) = vv := by rw [← hvv]; exact IntWalk.i64_in _ (by omega)
            have htd : (y : Int).tdiv 15 = (y : Int) / 15 := Int.tdiv_eq_ediv_of_nonneg (by omega)
            clear hy hfv
            have HVV := Lib.hid hvv
            clear hvv HB14
            go_upto_region 19 with fail
            have HC1 : Hid (wr.cell? ⟨zb, zo + j, none⟩ = some (.int .i64 z)) := Lib.hid (HZB.out wr HP.out.bel)
            have hwd : IntKind.i64.wrap ((y : Int) / 15) = (y : Int) / 15 := IntWalk.i64_in _ (by omega)
            go_cut [] from 88 to 103 (fun wx => Hid (Blk wx q14 31 (msgC a { M0 with view := vv, frm := (fv : Int) })) ∧ Hid (Below wr.heap.size wr wx))
            case first =>
              refine region_T (n := 17) (S := fun w' => Below wr.heap.size wr w') (by kernel_rfl) ?_
              have hS : Hid (Below wr.heap.size wr x2.drew) := Lib.hid hS.out.drew
              have HK3 : Hid (Blk x2.drew q14 31 (msgC a M0)) := HK14
              clear HK14
              generalize x2.drew = x3 at hS HK3 ⊢
              refine AnyT.takeC [15, 7, 6, 5, 4, 3, 2, 0] [] (i := 0) (v := .slice (some ⟨zb, zo, none⟩) len3 cap3) rfl (by kernel_rfl) (by kernel_rfl) (by kernel_rfl) (by kernel_rfl) (by kernel_rfl) (by kernel_rfl) (fun _ _ _ h => h) (Or.inl ⟨by kernel_rfl, fun w _ => by go_simp⟩) hS.out ?_
              refine AnyT.takeC [15, 7, 6, 5, 4, 3, 2, 1] [] (i := 1) (v := .int .i64 (j : Int)) rfl (by kernel_rfl) (by kernel_rfl) (by kernel_rfl) (by kernel_rfl) (by kernel_rfl) (by kernel_rfl) (fun _ _ _ h => h) (Or.inl ⟨by kernel_rfl, fun w _ => by go_simp⟩) hS.out ?_
              refine AnyT.takeC [15, 7, 6, 5, 4, 3, 2] [] (i := 2) (v := .pointer (some ⟨zb, zo + j, none⟩)) rfl (by kernel_rfl) (by kernel_rfl) (by kernel_rfl) (by kernel_rfl) (by kernel_rfl) (by kernel_rfl) (fun _ _ _ h => h) (Or.inl ⟨by kernel_rfl, fun w _ => by go_simp⟩) hS.out ?_
              refine AnyT.takeC [15, 7, 6, 5, 4, 3] [(15, [7, 6, 5, 4, 3]), (17, [15, 7, 6, 5, 4, 3])] (i := 3) (v := .int .i64 z) rfl (by kernel_rfl) (by kernel_rfl) (by kernel_rfl) (by kernel_rfl) (by kernel_rfl) (by kernel_rfl) (fun _ _ _ h => h) (Or.inl ⟨by kernel_rfl, fun wq hq => by have q := (hq.cell (p := ⟨zb, zo + j, none⟩) HZ1.out).trans HC1.out; go_simp⟩) hS.out ?_
              refine AnyT.takeC [15, 7, 6, 5, 4] [] (i := 4) (v := .int .i64 (z / 1048576)) rfl (by kernel_rfl) (by kernel_rfl) (by kernel_rfl) (by kernel_rfl) (by kernel_rfl) (by kernel_rfl) (fun _ _ _ h => h) (Or.inl ⟨by kernel_rfl, fun w _ => by go_simp⟩) hS.out ?_
              refine AnyT.takeC [15, 7, 6, 5] [] (i := 5) (v := .int .i64 (y : Int)) rfl (by kernel_rfl) (by kernel_rfl) (by kernel_rfl) (by kernel_rfl) (by kernel_rfl) (by kernel_rfl) (fun _ _ _ h => h) (Or.inl ⟨by kernel_rfl, fun w _ => by go_simp⟩) hS.out ?_
              refine AnyT.takeC [15, 7, 6] [] (i := 6) (v := .int .i64 ((y : Int) / 15)) rfl (by kernel_rfl) (by kernel_rfl) (by kernel_rfl) (by kernel_rfl) (by kernel_rfl) (by kernel_rfl) (fun _ _ _ h => h) (Or.inl ⟨by kernel_rfl, fun w _ => by go_simp; first | done | exact hwd⟩) hS.out ?_
              refine AnyT.takeC [15, 7] [] (i := 7) (v := .int .i64 vv) rfl (by kernel_rfl) (by kernel_rfl) (by kernel_rfl) (by kernel_rfl) (by kernel_rfl) (by kernel_rfl) (fun _ _ _ h => h) (Or.inl ⟨by kernel_rfl, fun w _ => by go_simp; first | done | exact hwv⟩) hS.out ?_
              refine AnyT.takeC [13, 12, 11, 10, 8] [] (i := 8) (v := .slice (some ⟨zb, zo, none⟩) len3 cap3) rfl (by kernel_rfl) (by kernel_rfl) (by kernel_rfl) (by kernel_rfl) (by kernel_rfl) (by kernel_rfl) (fun _ _ _ h => h) (Or.inl ⟨by kernel_rfl, fun w _ => by go_simp⟩) hS.out ?_
              refine AnyT.takeC [13, 12, 11, 10, 9] [] (i := 9) (v := .int .i64 (j : Int)) rfl (by kernel_rfl) (by kernel_rfl) (by kernel_rfl) (by kernel_rfl) (by kernel_rfl) (by kernel_rfl) (fun _ _ _ h => h) (Or.inl ⟨by kernel_rfl, fun w _ => by go_simp⟩) hS.out ?_
              refine AnyT.takeC [13, 12, 11, 10] [] (i := 10) (v := .pointer (some ⟨zb, zo + j, none⟩)) rfl (by kernel_rfl) (by kernel_rfl) (by kernel_rfl) (by kernel_rfl) (by kernel_rfl) (by kernel_rfl) (fun _ _ _ h => h) (Or.inl ⟨by kernel_rfl, fun w _ => by go_simp⟩) hS.out ?_
              refine AnyT.takeC [15, 14] [] (i := 14) (v := .pointer (some ⟨q14, 3, none⟩)) rfl (by kernel_rfl) (by kernel_rfl) (by kernel_rfl) (by kernel_rfl) (by kernel_rfl) (by kernel_rfl) (fun _ _ _ h => h) (Or.inl ⟨by kernel_rfl, fun w _ => by go_simp⟩) hS.out ?_
              refine AnyT.ready (rs := [11, 15]) (by kernel_rfl) (by simp) ?_
              refine AllT.cons rfl (fun K hK => ?_) ?_
              · have hc1 := (hS.out.cell (p := ⟨zb, zo + j, none⟩) HZ1.out).trans HC1.out
                go_simp
                clear hc1
                refine hK.out _ _ (Or.inr hS.out) (fun _ => ?_)
                clear hK K
                refine AnyT.takeC [13, 12] [] (i := 12) (v := .int .i64 (z / 16777216)) rfl (by kernel_rfl) (by kernel_rfl) (by kernel_rfl) (by kernel_rfl) (by kernel_rfl) (by kernel_rfl) (fun _ _ _ h => h) (Or.inl ⟨by kernel_rfl, fun w _ => by go_simp⟩) hS.out ?_
                refine AnyT.takeC [13] [] (i := 13) (v := .int .i64 (fv : Int)) rfl (by kernel_rfl) (by kernel_rfl) (by kernel_rfl) (by kernel_rfl) (by kernel_rfl) (by kernel_rfl) (fun _ _ _ h => h) (Or.inl ⟨by kernel_rfl, fun w _ => by go_simp⟩) hS.out ?_
                refine AnyT.ready (rs := [15]) (by kernel_rfl) (by simp) ?_
                refine AllT.cons rfl (fun K hK => ?_) AllT.nil
                have k3 := HK3.out.cell 3
                have f3 := HK3.out.frozen 3
                simp [msgC] at k3
                go_simp
                obtain ⟨x4, hx4⟩ : ∃ y, x3.setCell ⟨q14, 3, none⟩ (.int .i64 vv) = y := ⟨_, rfl⟩
                rw [hx4]
                have HK4 : Hid (Blk x4 q14 31 (msgC a { M0 with view := vv })) := Lib.hid (by rw [← hx4]; exact HK3.out.set_ 3 _)
                have hS : Hid (Below wr.heap.size wr x4) := Lib.hid (by rw [← hx4]; exact hS.out.setCell (show wr.heap.size ≤ (⟨q14, 3, none⟩ : Addr).block from HQ14.out) _)
                clear hx4 k3 f3 HK3
                refine hK.out _ _ (Or.inr hS.out) (fun _ => ?_)
                clear hK K
                refine AnyT.takeC [16] [] (i := 16) (v := .pointer (some ⟨q14, 1, none⟩)) rfl (by kernel_rfl) (by kernel_rfl) (by kernel_rfl) (by kernel_rfl) (by kernel_rfl) (by kernel_rfl) (fun _ _ _ h => h) (Or.inl ⟨by kernel_rfl, fun w _ => by go_simp⟩) hS.out ?_
                refine AnyT.ready (rs := [17]) (by kernel_rfl) (by simp) ?_
                refine AllT.cons rfl (fun K hK => ?_) AllT.nil
                have k1 := HK4.out.cell 1
                have f1 := HK4.out.frozen 1
                simp [msgC] at k1
                go_simp
                refine hK.out _ _ (Or.inl rfl) (fun _ => ?_)
                clear hK K
                refine AnyT.done (by kernel_rfl) ?_ _
                go_simp
                go_wp2_with fail
                go_meet
                exact ⟨Lib.hid (HK4.out.set_ 1 _), Lib.hid (hS.out.setCell (show wr.heap.size ≤ (⟨q14, 1, none⟩ : Addr).block from HQ14.out) _)⟩
              refine AllT.cons rfl (fun K hK => ?_) AllT.nil
              have k3 := HK3.out.cell 3
              have f3 := HK3.out.frozen 3
              simp [msgC] at k3
              go_simp
              obtain ⟨x4, hx4⟩ : ∃ y, x3.setCell ⟨q14, 3, none⟩ (.int .i64 vv) = y := ⟨_, rfl⟩
              rw [hx4]
              have HK4 : Hid (Blk x4 q14 31 (msgC a { M0 with view := vv })) := Lib.hid (by rw [← hx4]; exact HK3.out.set_ 3 _)
              have hS : Hid (Below wr.heap.size wr x4) := Lib.hid (by rw [← hx4]; exact hS.out.setCell (show wr.heap.size ≤ (⟨q14, 3, none⟩ : Addr).block from HQ14.out) _)
              clear hx4 k3 f3 HK3
              refine hK.out _ _ (Or.inr hS.out) (fun _ => ?_)
              clear hK K
              refine AnyT.ready (rs := [11]) (by kernel_rfl) (by simp) ?_
              refine AllT.cons rfl (fun K hK => ?_) AllT.nil
              have hc1 := (hS.out.cell (p := ⟨zb, zo + j, none⟩) HZ1.out).trans HC1.out
              go_simp
              clear hc1
              refine hK.out _ _ (Or.inr hS.out) (fun _ => ?_)
              clear hK K
              refine AnyT.takeC [13, 12] [] (i := 12) (v := .int .i64 (z / 16777216)) rfl (by kernel_rfl) (by kernel_rfl) (by kernel_rfl) (by kernel_rfl) (by kernel_rfl) (by kernel_rfl) (fun _ _ _ h => h) (Or.inl ⟨by kernel_rfl, fun w _ => by go_simp⟩) hS.out ?_
              refine AnyT.takeC [13] [] (i := 13) (v := .int .i64 (fv : Int)) rfl (by kernel_rfl) (by kernel_rfl) (by kernel_rfl) (by kernel_rfl) (by kernel_rfl) (by kernel_rfl) (fun _ _ _ h => h) (Or.inl ⟨by kernel_rfl, fun w _ => by go_simp⟩) hS.out ?_
              refine AnyT.takeC [16] [] (i := 16) (v := .pointer (some ⟨q14, 1, none⟩)) rfl (by kernel_rfl) (by kernel_rfl) (by kernel_rfl) (by kernel_rfl) (by kernel_rfl) (by kernel_rfl) (fun _ _ _ h => h) (Or.inl ⟨by kernel_rfl, fun w _ => by go_simp⟩) hS.out ?_
              refine AnyT.ready (rs := [17]) (by kernel_rfl) (by simp) ?_
              refine AllT.cons rfl (fun K hK => ?_) AllT.nil
              have k1 := HK4.out.cell 1
              have f1 := HK4.out.frozen 1
              simp [msgC] at k1
              go_simp
              refine hK.out _ _ (Or.inl rfl) (fun _ => ?_)
              clear hK K
              refine AnyT.done (by kernel_rfl) ?_ _
              go_simp
              go_wp2_with fail
              go_meet
              exact ⟨Lib.hid (HK4.out.set_ 1 _), Lib.hid (hS.out.setCell (show wr.heap.size ≤ (⟨q14, 1, none⟩ : Addr).block from HQ14.out) _)⟩
            case rest =>
            obtain ⟨HK5, hS⟩ := hcut
            rename World => x5
            have HQ0 : Hid (w.heap.size ≤ q14) := Lib.hid (Nat.le_trans HP.out.bel.size HQ14.out)
            clear HK14 hwd
            have HP2 : Hid (GPair w x5 b h g g [(q14, msgC a { M0 with view := vv, frm := (fv : Int) })]) := Lib.hid (HP.out.push hS.out HQ14.out HK5.out)
            have HMW1 : Hid (MsgW { M0 with view := vv, frm := (fv : Int) }) := Lib.hid ⟨HMW0.out.lo, by show In64 (fv : Int); unfold In64; omega⟩
            obtain ⟨M1, hM1⟩ : ∃ M, ({ M0 with view := vv, frm := (fv : Int) } : Mg) = M := ⟨_, rfl⟩
            rw [hM1] at HP2 HMW1
            clear hM1 HK5 HMW0 hS HQ14 HP e15 e7 hwv htd HVV
            have hc1 := HZB.out x5 HP2.out.bel
            have e7 := and_7 (z / 134217728)
            obtain ⟨bz, hbz⟩ : ∃ u : Int, z / 134217728 % 8 = u := ⟨_, rfl⟩
            rw [hbz] at e7
            clear hbz
            obtain ⟨D2, hD2⟩ : ∃ D, (decide (bz = 0) && decide (j < len4)) = D := ⟨_, rfl⟩
            have HD2 := Lib.hid hD2
            clear hD2
            go_upto_region 20 with fail
            go_cut [116] from 104 to 115 (fun s116 wx => s116 = .bool D2 ∧ wx = x5)
            case first =>
              by_cases hb0 : bz = 0
              · have hb1 : (bz == 0) = true := by simpa using hb0
                by_cases hj4 : j < len4
                · have hj4' : (j : Int) < (len4 : Int) := by omega
                  obtain rfl : D2 = true := by rw [← HD2.out, decide_eq_true hb0, decide_eq_true hj4]; rfl
                  clear HD2
                  go_wp2_with fail
                  go_meet
                  exact ⟨rfl, rfl⟩
                · have hj4' : ¬ (j : Int) < (len4 : Int) := by omega
                  obtain rfl : D2 = false := by rw [← HD2.out, decide_eq_false hj4]; simp
                  clear HD2
                  go_wp2_with fail
                  go_meet
                  exact ⟨rfl, rfl⟩
              · have hb1 : (bz == 0) = false := by simpa using hb0
                obtain rfl : D2 = false := by rw [← HD2.out, decide_eq_false hb0]; rfl
                clear HD2
                go_wp2_with fail
                go_meet
                exact ⟨rfl, rfl⟩
            case rest =>
            obtain ⟨rfl, rfl⟩ := hcut
            rename World => x5
            clear hc1 e7
            go_upto_if 116 with fail
            go_cut [] from 117 to 120 (fun wx => ∃ (a : GA) (m : Mg), Hid (GPair w wx b h g g [(q14, msgC a m)]) ∧ Hid (MsgW m))
            case first =>
              cases D2 with
              | false =>
                go_wp2_with fail
                go_meet
                exact ⟨a, M1, HP2, HMW1⟩
              | true =>
                have hj4 : j < len4 := by
                  have h1 := HD2.out
                  simp only [Bool.and_eq_true, decide_eq_true_eq] at h1
                  exact h1.2
                have hj4' : (j : Int) < (len4 : Int) := by omega
                obtain ⟨cs, hcs⟩ : ∃ cs, e4[j]? = some cs := ⟨_, List.getElem?_eq_getElem (by have := HRW.out.1.1.len; omega)⟩
                obtain ⟨rb, ro, hA, hrb, hrg, hms⟩ := (HRW.out.1.1.below HP2.out.bel).at hcs
                obtain ⟨a5, m5, hcm, hmw⟩ := HRW.out.2 cs (List.mem_of_getElem? hcs)
                subst hA
                rw [hcm] at hrg
                have HRG : Hid (x5.rangeAt rb (ro + j * 24) [.int .i64 m5.kind, .int .i64 m5.frm, .int .i64 m5.dst, .int .i64 m5.view, .int .i64 m5.inst, .int .i64 m5.len, .bool m5.has, .int .i64 m5.mem, .int .i64 m5.src, .int .i64 m5.pos, .int .i64 m5.tot, .slice a5.Ad m5.data.length a5.cd, .int .i64 m5.hop, .int .i64 m5.seq, .slice a5.Ah m5.hav.length a5.ch, .slice a5.An m5.nee.length a5.cn, .int .i64 m5.idx, .int .i64 m5.ent.s, .int .i64 m5.ent.q, .int .i64 m5.ent.c.kind, .int .i64 m5.ent.c.who, .slice a5.c.Ak m5.ent.c.key.length a5.c.ck, .slice a5.c.Av m5.ent.c.val.length a5.c.cv, .slice a5.c.Ao m5.ent.c.old.length a5.c.co]) := Lib.hid hrg
                have HMW5 := Lib.hid hmw
                have HB5 := Lib.hid HP2.out.bel
                have HKO := Lib.hid (HP2.out.var (q := q14) (cs := msgC a M1) (by simp))
                clear hcs hrb hrg hms hcm hmw
                go_wp2_with (first
                  | (refine wpList_load_mid rfl 31 (.tmp 119) rfl rb (ro + j * 24) rfl [.int .i64 m5.kind, .int .i64 m5.frm, .int .i64 m5.dst, .int .i64 m5.view, .int .i64 m5.inst, .int .i64 m5.len, .bool m5.has, .int .i64 m5.mem, .int .i64 m5.src, .int .i64 m5.pos, .int .i64 m5.tot, .slice a5.Ad m5.data.length a5.cd, .int .i64 m5.hop, .int .i64 m5.seq, .slice a5.Ah m5.hav.length a5.ch, .slice a5.An m5.nee.length a5.cn, .int .i64 m5.idx, .int .i64 m5.ent.s, .int .i64 m5.ent.q, .int .i64 m5.ent.c.kind, .int .i64 m5.ent.c.who, .slice a5.c.Ak m5.ent.c.key.length a5.c.ck, .slice a5.c.Av m5.ent.c.val.length a5.c.cv, .slice a5.c.Ao m5.ent.c.old.length a5.c.co] _ HRG.out Try.underlying31 rfl (by kernel_rfl) ?_)
                  | (refine wpList_store_row rfl 31 (.tmp 14) (.tmp 120) rfl q14 #[.int .i64 m5.kind, .int .i64 m5.frm, .int .i64 m5.dst, .int .i64 m5.view, .int .i64 m5.inst, .int .i64 m5.len, .bool m5.has, .int .i64 m5.mem, .int .i64 m5.src, .int .i64 m5.pos, .int .i64 m5.tot, .slice a5.Ad m5.data.length a5.cd, .int .i64 m5.hop, .int .i64 m5.seq, .slice a5.Ah m5.hav.length a5.ch, .slice a5.An m5.nee.length a5.cn, .int .i64 m5.idx, .int .i64 m5.ent.s, .int .i64 m5.ent.q, .int .i64 m5.ent.c.kind, .int .i64 m5.ent.c.who, .slice a5.c.Ak m5.ent.c.key.length a5.c.ck, .slice a5.c.Av m5.ent.c.val.length a5.c.cv, .slice a5.c.Ao m5.ent.c.old.length a5.c.co] rfl rfl 31 (msgC a M1) HKO.out (by kernel_rfl) rfl (by kernel_rfl) ?_)
                  | fail)
                go_meet
                refine ⟨a5, m5, Lib.hid ?_, HMW5⟩
                have hk := Keeps.of_only (S := fun k => k = q14) (only_row x5 q14 #[.int .i64 m5.kind, .int .i64 m5.frm, .int .i64 m5.dst, .int .i64 m5.view, .int .i64 m5.inst, .int .i64 m5.len, .bool m5.has, .int .i64 m5.mem, .int .i64 m5.src, .int .i64 m5.pos, .int .i64 m5.tot, .slice a5.Ad m5.data.length a5.cd, .int .i64 m5.hop, .int .i64 m5.seq, .slice a5.Ah m5.hav.length a5.ch, .slice a5.An m5.nee.length a5.cn, .int .i64 m5.idx, .int .i64 m5.ent.s, .int .i64 m5.ent.q, .int .i64 m5.ent.c.kind, .int .i64 m5.ent.c.who, .slice a5.c.Ak m5.ent.c.key.length a5.c.ck, .slice a5.c.Av m5.ent.c.val.length a5.c.cv, .slice a5.c.Ao m5.ent.c.old.length a5.c.co]) rfl
                exact HP2.out.set hk (HKO.out.row _) (hk.below HB5.out (fun k e => by
                  subst e
                  obtain ⟨S1, S2, y1, y2, y3, y4⟩ := HP2.out
                  exact HQ0.out))
            case rest =>
            obtain ⟨a, m, HP, HMW⟩ := hcut
            rename World => x6
            obtain ⟨r, hr⟩ : ∃ r, g.may (svM m) m.view = r := ⟨_, rfl⟩
            have HR := Lib.hid hr
            have hrr : (r != r) = false := by cases r <;> rfl
            have HKV := Lib.hid (HP.out.var (q := q14) (cs := msgC a m) (by simp))
            clear hr HP2 HMW1 HD2
            go_upto_region 22 with fail
            have HP7 : Hid (GPair w x6.drew b h g g [(q14, msgC a m)]) := Lib.hid (HP.out.below (bel_drewN x6 1))
            have hS0 : Blk x6.drew q14 31 (msgC a m) := HKV.out
            refine wp_region_held_drew (S := fun w' => Blk w' q14 31 (msgC a m)) (by kernel_rfl) hS0 (fun _ => ?_)
            have hS := Lib.hid hS0
            clear hS0 HKV HP
            generalize x6.drew = x7 at hS HP7 ⊢
            refine wpAnyH_take (i := 0) (v := .pointer (some ⟨b, 0, none⟩)) rfl (by kernel_rfl) (by kernel_rfl) (by kernel_rfl) (fun _ _ _ h => h) (Or.inl ⟨by kernel_rfl, fun w _ => by go_simp⟩) hS.out ?_
            refine wpAnyH_take (i := 1) (v := .agg #[.int .i64 m.kind, .int .i64 m.frm, .int .i64 m.dst, .int .i64 m.view, .int .i64 m.inst, .int .i64 m.len, .bool m.has, .int .i64 m.mem, .int .i64 m.src, .int .i64 m.pos, .int .i64 m.tot, .slice a.Ad m.data.length a.cd, .int .i64 m.hop, .int .i64 m.seq, .slice a.Ah m.hav.length a.ch, .slice a.An m.nee.length a.cn, .int .i64 m.idx, .int .i64 m.ent.s, .int .i64 m.ent.q, .int .i64 m.ent.c.kind, .int .i64 m.ent.c.who, .slice a.c.Ak m.ent.c.key.length a.c.ck, .slice a.c.Av m.ent.c.val.length a.c.cv, .slice a.c.Ao m.ent.c.old.length a.c.co]) rfl (by kernel_rfl) (by kernel_rfl) (by kernel_rfl) (fun _ _ _ h => h) (yieldsIf_load_mid (by kernel_rfl) 31 (.tmp 14) rfl q14 0 (by kernel_rfl) [.int .i64 m.kind, .int .i64 m.frm, .int .i64 m.dst, .int .i64 m.view, .int .i64 m.inst, .int .i64 m.len, .bool m.has, .int .i64 m.mem, .int .i64 m.src, .int .i64 m.pos, .int .i64 m.tot, .slice a.Ad m.data.length a.cd, .int .i64 m.hop, .int .i64 m.seq, .slice a.Ah m.hav.length a.ch, .slice a.An m.nee.length a.cn, .int .i64 m.idx, .int .i64 m.ent.s, .int .i64 m.ent.q, .int .i64 m.ent.c.kind, .int .i64 m.ent.c.who, .slice a.c.Ak m.ent.c.key.length a.c.ck, .slice a.c.Av m.ent.c.val.length a.c.cv, .slice a.c.Ao m.ent.c.old.length a.c.co] _ (fun wq hq => rangeG18 hq) Try.underlying31 rfl (by kernel_rfl)) hS.out ?_
            refine wpAnyH_take (i := 3) (v := .pointer (some ⟨h, 0, none⟩)) rfl (by kernel_rfl) (by kernel_rfl) (by kernel_rfl) (fun _ _ _ h => h) (Or.inl ⟨by kernel_rfl, fun w _ => by go_simp⟩) hS.out ?_
            refine wpAnyH_take (i := 4) (v := .agg #[.int .i64 m.kind, .int .i64 m.frm, .int .i64 m.dst, .int .i64 m.view, .int .i64 m.inst, .int .i64 m.len, .bool m.has, .int .i64 m.mem, .int .i64 m.src, .int .i64 m.pos, .int .i64 m.tot, .slice a.Ad m.data.length a.cd, .int .i64 m.hop, .int .i64 m.seq, .slice a.Ah m.hav.length a.ch, .slice a.An m.nee.length a.cn, .int .i64 m.idx, .int .i64 m.ent.s, .int .i64 m.ent.q, .int .i64 m.ent.c.kind, .int .i64 m.ent.c.who, .slice a.c.Ak m.ent.c.key.length a.c.ck, .slice a.c.Av m.ent.c.val.length a.c.cv, .slice a.c.Ao m.ent.c.old.length a.c.co]) rfl (by kernel_rfl) (by kernel_rfl) (by kernel_rfl) (fun _ _ _ h => h) (yieldsIf_load_mid (by kernel_rfl) 31 (.tmp 14) rfl q14 0 (by kernel_rfl) [.int .i64 m.kind, .int .i64 m.frm, .int .i64 m.dst, .int .i64 m.view, .int .i64 m.inst, .int .i64 m.len, .bool m.has, .int .i64 m.mem, .int .i64 m.src, .int .i64 m.pos, .int .i64 m.tot, .slice a.Ad m.data.length a.cd, .int .i64 m.hop, .int .i64 m.seq, .slice a.Ah m.hav.length a.ch, .slice a.An m.nee.length a.cn, .int .i64 m.idx, .int .i64 m.ent.s, .int .i64 m.ent.q, .int .i64 m.ent.c.kind, .int .i64 m.ent.c.who, .slice a.c.Ak m.ent.c.key.length a.c.ck, .slice a.c.Av m.ent.c.val.length a.c.cv, .slice a.c.Ao m.ent.c.old.length a.c.co] _ (fun wq hq => rangeG18 hq) Try.underlying31 rfl (by kernel_rfl)) hS.out ?_
            refine wpAnyH_ready (rs := [2]) (by kernel_rfl) (by simp) ?_
            refine AllReadyH.cons rfl (fun K hK => ?_) AllReadyH.nil
            go_simp
            refine (HP7.out.takeL (a := a) HMW.out HR.out rfl).mono ?_
            rintro e x8 ⟨rfl, hp⟩
            have HP8 := Lib.hid hp
            have hS := Lib.hid (hp.var (q := q14) (cs := msgC a m) (by simp))
            clear hp HP7
            go_simp
            refine hK.out _ _ hS.out (fun _ => ?_)
            clear hK K
            refine wpAnyH_ready (rs := [5]) (by kernel_rfl) (by simp) ?_
            refine AllReadyH.cons rfl (fun K hK => ?_) AllReadyH.nil
            go_simp
            refine (HP8.out.takeR (a := a) HMW.out HR.out rfl).mono ?_
            rintro e x9 ⟨rfl, hp⟩
            have HP9 := Lib.hid hp
            have hS := Lib.hid (hp.var (q := q14) (cs := msgC a m) (by simp))
            clear hp HP8
            go_simp
            refine hK.out _ _ hS.out (fun _ => ?_)
            clear hK K
            refine wpAnyH_take (i := 6) (v := .bool false) rfl (by kernel_rfl) (by kernel_rfl) (by kernel_rfl) (fun _ _ _ h => h) (Or.inl ⟨by kernel_rfl, fun w _ => by go_simp; first | done | exact hrr⟩) hS.out ?_
            refine wpAnyH_done (by kernel_rfl) ?_ _
            go_simp
            have HP := Lib.hid (HP9.out.drop)
            clear HP9 hS
            go_wp2_with fail
            go_meet
            exact ⟨_, HP⟩
          · subst ht4
            obtain ⟨g2, hg2⟩ : ∃ x, g.commit = x := ⟨_, rfl⟩
            obtain ⟨M, hM⟩ : ∃ M, g2.msg = M := ⟨_, rfl⟩
            obtain ⟨a, ha0⟩ : ∃ a, GA.zero = a := ⟨_, rfl⟩
            obtain ⟨ok, hok⟩ : ∃ x, g2.com.isSome = x := ⟨_, rfl⟩
            have HMR : Hid (∀ (wx : World) (B : Nat), RdG wx B a M) := Lib.hid (fun wx B => by rw [← hM, ← ha0]; exact Gm.msg_rd wx B g2)
            have HMW : Hid M.Wide := Lib.hid (by rw [← hM]; exact Gm.msg_wide g2)
            have C1 := HP.out.commitL hg2
            rw [hM, hok, ha0] at C1
            unfold msgV msgC at C1
            have C1 := Lib.hid C1
            have HMS := Lib.hid (And.intro hg2 (And.intro hM (And.intro hok ha0)))
            clear hg2 hM hok ha0 hc1
            go_wp2_with fail
            refine C1.out.mono ?_
            rintro e x2 ⟨rfl, hp⟩
            clear C1 HP
            have HP := Lib.hid hp
            clear hp
            go_upto_region 26 with (first
              | (refine wpList_store_row rfl 31 (.tmp 15) (.tmp 133) rfl x2.heap.size #[.int .i64 M.kind, .int .i64 M.frm, .int .i64 M.dst, .int .i64 M.view, .int .i64 M.inst, .int .i64 M.len, .bool M.has, .int .i64 M.mem, .int .i64 M.src, .int .i64 M.pos, .int .i64 M.tot, .slice a.Ad M.data.length a.cd, .int .i64 M.hop, .int .i64 M.seq, .slice a.Ah M.hav.length a.ch, .slice a.An M.nee.length a.cn, .int .i64 M.idx, .int .i64 M.ent.s, .int .i64 M.ent.q, .int .i64 M.ent.c.kind, .int .i64 M.ent.c.who, .slice a.c.Ak M.ent.c.key.length a.c.ck, .slice a.c.Av M.ent.c.val.length a.c.cv, .slice a.c.Ao M.ent.c.old.length a.c.co] rfl rfl 31 #[.int .i64 0, .int .i64 0, .int .i64 0, .int .i64 0, .int .i64 0, .int .i64 0, .bool false, .int .i64 0, .int .i64 0, .int .i64 0, .int .i64 0, .slice none 0 0, .int .i64 0, .int .i64 0, .slice none 0 0, .slice none 0 0, .int .i64 0, .int .i64 0, .int .i64 0, .int .i64 0, .int .i64 0, .slice none 0 0, .slice none 0 0, .slice none 0 0] (Blk.new x2 31 #[.int .i64 0, .int .i64 0, .int .i64 0, .int .i64 0, .int .i64 0, .int .i64 0, .bool false, .int .i64 0, .int .i64 0, .int .i64 0, .int .i64 0, .slice none 0 0, .int .i64 0, .int .i64 0, .slice none 0 0, .slice none 0 0, .int .i64 0, .int .i64 0, .int .i64 0, .int .i64 0, .int .i64 0, .slice none 0 0, .slice none 0 0, .slice none 0 0]) (by kernel_rfl) rfl (by kernel_rfl) ?_)
              | fail)
            obtain ⟨q15, x3, hgE, hwE, hbE, hkE⟩ := boxed x2 #[.int .i64 0, .int .i64 0, .int .i64 0, .int .i64 0, .int .i64 0, .int .i64 0, .bool false, .int .i64 0, .int .i64 0, .int .i64 0, .int .i64 0, .slice none 0 0, .int .i64 0, .int .i64 0, .slice none 0 0, .slice none 0 0, .int .i64 0, .int .i64 0, .int .i64 0, .int .i64 0, .int .i64 0, .slice none 0 0, .slice none 0 0, .slice none 0 0] #[.int .i64 M.kind, .int .i64 M.frm, .int .i64 M.dst, .int .i64 M.view, .int .i64 M.inst, .int .i64 M.len, .bool M.has, .int .i64 M.mem, .int .i64 M.src, .int .i64 M.pos, .int .i64 M.tot, .slice a.Ad M.data.length a.cd, .int .i64 M.hop, .int .i64 M.seq, .slice a.Ah M.hav.length a.ch, .slice a.An M.nee.length a.cn, .int .i64 M.idx, .int .i64 M.ent.s, .int .i64 M.ent.q, .int .i64 M.ent.c.kind, .int .i64 M.ent.c.who, .slice a.c.Ak M.ent.c.key.length a.c.ck, .slice a.c.Av M.ent.c.val.length a.c.cv, .slice a.c.Ao M.ent.c.old.length a.c.co] 31
            rw [hgE, hwE]
            have HP := Lib.hid (HP.out.push hbE (Nat.le_of_eq hgE) hkE)
            clear hgE hwE hbE hkE
            have C2 := HP.out.commitR HMS.out.1
            rw [HMS.out.2.1, HMS.out.2.2.1, HMS.out.2.2.2] at C2
            unfold msgV msgC at C2
            have C2 := Lib.hid C2
            go_wp2_with fail
            refine C2.out.mono ?_
            rintro e x4 ⟨rfl, hp⟩
            clear C2 HP
            have HP := Lib.hid hp
            clear hp
            go_upto_region 27 with (first
              | (refine wpList_store_row rfl 31 (.tmp 17) (.tmp 138) rfl x4.heap.size #[.int .i64 M.kind, .int .i64 M.frm, .int .i64 M.dst, .int .i64 M.view, .int .i64 M.inst, .int .i64 M.len, .bool M.has, .int .i64 M.mem, .int .i64 M.src, .int .i64 M.pos, .int .i64 M.tot, .slice a.Ad M.data.length a.cd, .int .i64 M.hop, .int .i64 M.seq, .slice a.Ah M.hav.length a.ch, .slice a.An M.nee.length a.cn, .int .i64 M.idx, .int .i64 M.ent.s, .int .i64 M.ent.q, .int .i64 M.ent.c.kind, .int .i64 M.ent.c.who, .slice a.c.Ak M.ent.c.key.length a.c.ck, .slice a.c.Av M.ent.c.val.length a.c.cv, .slice a.c.Ao M.ent.c.old.length a.c.co] rfl rfl 31 #[.int .i64 0, .int .i64 0, .int .i64 0, .int .i64 0, .int .i64 0, .int .i64 0, .bool false, .int .i64 0, .int .i64 0, .int .i64 0, .int .i64 0, .slice none 0 0, .int .i64 0, .int .i64 0, .slice none 0 0, .slice none 0 0, .int .i64 0, .int .i64 0, .int .i64 0, .int .i64 0, .int .i64 0, .slice none 0 0, .slice none 0 0, .slice none 0 0] (Blk.new x4 31 #[.int .i64 0, .int .i64 0, .int .i64 0, .int .i64 0, .int .i64 0, .int .i64 0, .bool false, .int .i64 0, .int .i64 0, .int .i64 0, .int .i64 0, .slice none 0 0, .int .i64 0, .int .i64 0, .slice none 0 0, .slice none 0 0, .int .i64 0, .int .i64 0, .int .i64 0, .int .i64 0, .int .i64 0, .slice none 0 0, .slice none 0 0, .slice none 0 0]) (by kernel_rfl) rfl (by kernel_rfl) ?_)
              | fail)
            obtain ⟨q17, x5, hgE, hwE, hbE, hkE⟩ := boxed x4 #[.int .i64 0, .int .i64 0, .int .i64 0, .int .i64 0, .int .i64 0, .int .i64 0, .bool false, .int .i64 0, .int .i64 0, .int .i64 0, .int .i64 0, .slice none 0 0, .int .i64 0, .int .i64 0, .slice none 0 0, .slice none 0 0, .int .i64 0, .int .i64 0, .int .i64 0, .int .i64 0, .int .i64 0, .slice none 0 0, .slice none 0 0, .slice none 0 0] #[.int .i64 M.kind, .int .i64 M.frm, .int .i64 M.dst, .int .i64 M.view, .int .i64 M.inst, .int .i64 M.len, .bool M.has, .int .i64 M.mem, .int .i64 M.src, .int .i64 M.pos, .int .i64 M.tot, .slice a.Ad M.data.length a.cd, .int .i64 M.hop, .int .i64 M.seq, .slice a.Ah M.hav.length a.ch, .slice a.An M.nee.length a.cn, .int .i64 M.idx, .int .i64 M.ent.s, .int .i64 M.ent.q, .int .i64 M.ent.c.kind, .int .i64 M.ent.c.who, .slice a.c.Ak M.ent.c.key.length a.c.ck, .slice a.c.Av M.ent.c.val.length a.c.cv, .slice a.c.Ao M.ent.c.old.length a.c.co] 31
            rw [hgE, hwE]
            have HP := Lib.hid (HP.out.push hbE (Nat.le_of_eq hgE) hkE)
            clear hgE hwE hbE hkE
            have HK15 : Hid (x5.heap[q15]? = some (.cells #[.int .i64 M.kind, .int .i64 M.frm, .int .i64 M.dst, .int .i64 M.view, .int .i64 M.inst, .int .i64 M.len, .bool M.has, .int .i64 M.mem, .int .i64 M.src, .int .i64 M.pos, .int .i64 M.tot, .slice a.Ad M.data.length a.cd, .int .i64 M.hop, .int .i64 M.seq, .slice a.Ah M.hav.length a.ch, .slice a.An M.nee.length a.cn, .int .i64 M.idx, .int .i64 M.ent.s, .int .i64 M.ent.q, .int .i64 M.ent.c.kind, .int .i64 M.ent.c.who, .slice a.c.Ak M.ent.c.key.length a.c.ck, .slice a.c.Av M.ent.c.val.length a.c.cv, .slice a.c.Ao M.ent.c.old.length a.c.co] 31 (0, 0))) := Lib.hid (HP.out.var (by simp))
            have HK17 : Hid (x5.heap[q17]? = some (.cells #[.int .i64 M.kind, .int .i64 M.frm, .int .i64 M.dst, .int .i64 M.view, .int .i64 M.inst, .int .i64 M.len, .bool M.has, .int .i64 M.mem, .int .i64 M.src, .int .i64 M.pos, .int .i64 M.tot, .slice a.Ad M.data.length a.cd, .int .i64 M.hop, .int .i64 M.seq, .slice a.Ah M.hav.length a.ch, .slice a.An M.nee.length a.cn, .int .i64 M.idx, .int .i64 M.ent.s, .int .i64 M.ent.q, .int .i64 M.ent.c.kind, .int .i64 M.ent.c.who, .slice a.c.Ak M.ent.c.key.length a.c.ck, .slice a.c.Av M.ent.c.val.length a.c.cv, .slice a.c.Ao M.ent.c.old.length a.c.co] 31 (0, 0))) := Lib.hid (HP.out.var (by simp))
            have CS := refSame11_eq x5 (a := a) (a' := a) (m := M) (m' := M) (B := 0) (B' := 0) rfl HMW.out HMW.out (HMR.out x5 0) (HMR.out x5 0)
            unfold msgV msgC at CS
            rw [show decide (M = M) = true by simp] at CS
            have CS := Lib.hid CS
            have hoo : (ok != ok) = false := by cases ok <;> rfl
            go_wp2_with (first
              | (refine wpList_load_rowU (by rfl) 31 (.tmp 15) rfl q15 rfl 31 #[.int .i64 M.kind, .int .i64 M.frm, .int .i64 M.dst, .int .i64 M.view, .int .i64 M.inst, .int .i64 M.len, .bool M.has, .int .i64 M.mem, .int .i64 M.src, .int .i64 M.pos, .int .i64 M.tot, .slice a.Ad M.data.length a.cd, .int .i64 M.hop, .int .i64 M.seq, .slice a.Ah M.hav.length a.ch, .slice a.An M.nee.length a.cn, .int .i64 M.idx, .int .i64 M.ent.s, .int .i64 M.ent.q, .int .i64 M.ent.c.kind, .int .i64 M.ent.c.who, .slice a.c.Ak M.ent.c.key.length a.c.ck, .slice a.c.Av M.ent.c.val.length a.c.cv, .slice a.c.Ao M.ent.c.old.length a.c.co] (0, 0) _ HK15.out Try.underlying31 rfl (by kernel_rfl) ?_)
              | (refine wpList_load_rowU (by rfl) 31 (.tmp 17) rfl q17 rfl 31 #[.int .i64 M.kind, .int .i64 M.frm, .int .i64 M.dst, .int .i64 M.view, .int .i64 M.inst, .int .i64 M.len, .bool M.has, .int .i64 M.mem, .int .i64 M.src, .int .i64 M.pos, .int .i64 M.tot, .slice a.Ad M.data.length a.cd, .int .i64 M.hop, .int .i64 M.seq, .slice a.Ah M.hav.length a.ch, .slice a.An M.nee.length a.cn, .int .i64 M.idx, .int .i64 M.ent.s, .int .i64 M.ent.q, .int .i64 M.ent.c.kind, .int .i64 M.ent.c.who, .slice a.c.Ak M.ent.c.key.length a.c.ck, .slice a.c.Av M.ent.c.val.length a.c.cv, .slice a.c.Ao M.ent.c.old.length a.c.co] (0, 0) _ HK17.out Try.underlying31 rfl (by kernel_rfl) ?_)
              | fail)
            refine CS.out.mono ?_
            rintro e x6 ⟨rfl, hb6⟩
            have HP := Lib.hid ((HP.out.below hb6).drop)
            clear hb6 CS HK15 HK17
            go_wp2_with fail
            go_meet
            exact ⟨g2, HP⟩
          · have n0 : ¬ (t : Int) = 0 := by omega
            have n1 : ¬ (t : Int) = 1 := by omega
            have n2 : ¬ (t : Int) = 2 := by omega
            have n3 : ¬ (t : Int) = 3 := by omega
            have n4 : ¬ (t : Int) = 4 := by omega
            have b0 : ((t : Int) == 0) = false := by simpa using n0
            have b1 : ((t : Int) == 1) = false := by simpa using n1
            have b2 : ((t : Int) == 2) = false := by simpa using n2
            have b3 : ((t : Int) == 3) = false := by simpa using n3
            have b4 : ((t : Int) == 4) = false := by simpa using n4
            have e15 := and_15 (z / 8)
            obtain ⟨kk, hkk, hk16⟩ : ∃ u : Nat, z / 8 % 16 = (u : Int) ∧ u < 16 := ⟨(z / 8 % 16).toNat, by omega, by omega⟩
            rw [hkk] at e15
            have hwk : IntKind.i64.wrap ((kk : Int) - 3) = (kk : Int) - 3 := IntWalk.i64_in _ (by omega)
            clear hkk
            obtain ⟨r, hr⟩ : ∃ r, g.mayR ((kk : Int) - 3) = r := ⟨_, rfl⟩
            have HR := Lib.hid hr
            have hrr : (r != r) = false := by cases r <;> rfl
            clear hr
            go_wp2_with fail
            refine (HP.out.readyL ⟨by omega, by omega⟩ HR.out rfl).mono ?_
            rintro e x2 ⟨rfl, hp⟩
            clear HP
            have HP := Lib.hid hp
            clear hp
            go_wp2_with fail
            refine (HP.out.readyR ⟨by omega, by omega⟩ HR.out rfl).mono ?_
            rintro e x3 ⟨rfl, hp⟩
            clear HP
            have HP := Lib.hid hp
            clear hp
            go_wp2_with fail
            go_meet
            exact ⟨_, HP⟩
        case rest =>
          obtain ⟨g2, HP2⟩ := hcut
          rename_i wx
          obtain ⟨L, hL⟩ : ∃ L, Vw.mem (g2.lacking : Int) = L := ⟨_, rfl⟩
          obtain ⟨K, hK⟩ : ∃ L, Vw.mem (g2.unready : Int) = L := ⟨_, rfl⟩
          obtain ⟨dn, hdn⟩ : ∃ x, g2.done = x := ⟨_, rfl⟩
          obtain ⟨al, hal⟩ : ∃ x, g2.all = x := ⟨_, rfl⟩
          have hll : ((L.length : Int) == 0) = al := by rw [← hal, Gm.all_len HP2.out.ok, hL]; rfl
          have HL := Lib.hid hL
          have HK := Lib.hid hK
          have HDN := Lib.hid hdn
          have HAL := Lib.hid hal
          have HL7 : Hid (L.length ≤ 7) := Lib.hid (by rw [← hL, Vw.mem_len]; exact Vw.members_len _)
          have HK7 : Hid (K.length ≤ 7) := Lib.hid (by rw [← hK, Vw.mem_len]; exact Vw.members_len _)
          have haa : (al != al) = false := by cases al <;> rfl
          have hdd : (dn != dn) = false := by cases dn <;> rfl
          have hw8 : IntKind.i64.wrap ((j : Int) + 1) = (j : Int) + 1 := IntWalk.i64_in _ (by omega)
          clear hL hK hdn hal HP hc1 e7
          have HP := HP2
          clear HP2
          go_wp2_with fail
          refine (HP.out.absentL HL.out).mono ?_
          rintro e x1 ⟨A1, c1, rfl, ho, hB, hb⟩
          have HP := Lib.hid (HP.out.below hb)
          have HO1 := Lib.hid ho
          clear ho hB hb
          go_wp2_with fail
          refine (HP.out.absentR HL.out).mono ?_
          rintro e x2 ⟨A2, c2, rfl, ho, hB, hb⟩
          have HP := Lib.hid (HP.out.below hb)
          have HO1 := Lib.hid (ownsRow_below HO1.out hb)
          have HO2 := Lib.hid ho
          clear ho hB hb
          go_wp2_with fail
          refine (same_any _ A1 A2 L.length c1 L.length c2 _ _ L L (Rd.own_ HO1.out) (Rd.own_ HO2.out) (by have := HL7.out; unfold maxLen; omega) (by have := HL7.out; unfold maxLen; omega)).mono ?_
          rw [show decide (L = L) = true by simp]
          rintro e x3 ⟨rfl, k3, hw3⟩
          have HP : Hid (GPair w x3 b h g2 g2 []) := Lib.hid (by rw [hw3]; exact HP.out.below (bel_drewN _ _))
          clear hw3 HO1 HO2
          go_wp2_with fail
          refine (HP.out.allL HAL.out).mono ?_
          rintro e x4 ⟨rfl, hb⟩
          have HP := Lib.hid (HP.out.below hb)
          clear hb
          go_wp2_with fail
          refine (HP.out.absentR HL.out).mono ?_
          rintro e x5 ⟨A2, c2, rfl, ho, hB, hb⟩
          have HP := Lib.hid (HP.out.below hb)
          clear ho hB hb
          go_wp2_with fail
          refine (HP.out.unrL HK.out).mono ?_
          rintro e x6 ⟨A1, c1, rfl, ho, hB, hb⟩
          have HP := Lib.hid (HP.out.below hb)
          have HO1 := Lib.hid ho
          clear ho hB hb
          go_wp2_with fail
          refine (HP.out.unrR HK.out).mono ?_
          rintro e x7 ⟨A3, c3, rfl, ho, hB, hb⟩
          have HP := Lib.hid (HP.out.below hb)
          have HO1 := Lib.hid (ownsRow_below HO1.out hb)
          have HO2 := Lib.hid ho
          clear ho hB hb
          go_wp2_with fail
          refine (same_any _ A1 A3 K.length c1 K.length c3 _ _ K K (Rd.own_ HO1.out) (Rd.own_ HO2.out) (by have := HK7.out; unfold maxLen; omega) (by have := HK7.out; unfold maxLen; omega)).mono ?_
          rw [show decide (K = K) = true by simp]
          rintro e x8 ⟨rfl, k8, hw9⟩
          have HP : Hid (GPair w x8 b h g2 g2 []) := Lib.hid (by rw [hw9]; exact HP.out.below (bel_drewN _ _))
          clear hw9 HO1 HO2
          go_wp2_with fail
          refine (HP.out.doneL HDN.out).mono ?_
          rintro e x9 ⟨rfl, hb⟩
          have HP := Lib.hid (HP.out.below hb)
          clear hb
          go_wp2_with fail
          refine (HP.out.doneR HDN.out).mono ?_
          rintro e x10 ⟨rfl, hb⟩
          have HP := Lib.hid (HP.out.below hb)
          clear hb
          go_wp2_with fail
          go_roundw
          case rel => exact ⟨j + 1, g2, by omega, by omega, by go_num, HP⟩
          case measure => simp [intOf]; omega
end Go.Proofs.Ytneehnoolhadbaa

