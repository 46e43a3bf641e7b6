/- GathRef2 -/
import Derived.Test.YtneehnoolhadbaaGP40
namespace Go.Proofs.Ytneehnoolhadbaa
open Go.RowKit
set_option linter.unusedVariables false
set_option linter.unusedSimpArgs false
theorem RthAt.cells {W w : World} {S : Nat → Prop} {b : Nat} {g : Gm} (h : RthAt W w S b g) : w.cell? ⟨b, 0, none⟩ = some (.int .i64 (g.n : Int)) ∧ w.cell? ⟨b, 28, none⟩ = some (.bool g.com.isSome) ∧ w.cell? ⟨b, 11, none⟩ = some (.int .i64 (g.mask : Int)) ∧ w.cell? ⟨b, 29, none⟩ = some (.int .i64 (g.ready : Int)) ∧ w.frozen? ⟨b, 29, none⟩ = false := by
  obtain ⟨A, k, c, es, m0, m1, m3, m5, m7, m8, h1, rfl⟩ := h
  have e := h1.com.mem
  subst e
  have q0 := h1.blk.cell 0
  have q1 := h1.blk.cell 28
  have q2 := h1.blk.cell 11
  have q3 := h1.blk.cell 29
  simp [rgC] at q0 q1 q2 q3
  exact ⟨q0, q1, q2, q3, h1.blk.frozen 29⟩
theorem Gm.mask_none {g : Gm} (h : g.com.isSome = false) : g.mask = 0 := by
  unfold Gm.mask
  cases hc : g.com with
  | none => rfl
  | some c => rw [hc] at h; cases h
set_option maxHeartbeats 1000000 in
set_option maxRecDepth 100000 in
theorem rdone_any {W w : World} {S : Nat → Prop} {b : Nat} {g : Gm} (h : RthAt W w S b g) {r : Bool} (hr : g.done = r) :
    Calls Try.prog 27 #[.pointer (some ⟨b, 0, none⟩)] w fun e w' => e = .returned (.bool r) ∧ Below w.heap.size w w' := by
  obtain ⟨c0, c28, c11, c29, f29⟩ := h.cells
  rw [h.ok.done_is] at hr
  obtain ⟨su, hsu⟩ : ∃ x, g.com.isSome = x := ⟨_, rfl⟩
  obtain ⟨mk, hmk⟩ : ∃ x, g.mask = x := ⟨_, rfl⟩
  obtain ⟨rd, hrd⟩ : ∃ x, g.ready = x := ⟨_, rfl⟩
  rw [hsu] at c28 hr
  rw [hmk] at c11 hr
  rw [hrd] at c29 hr
  have HR := Lib.hid hr
  clear h hr hsu hmk hrd c0 f29
  cases su with
  | true =>
    have e : ((rd : Int) == (mk : Int)) = r := by rw [← HR.out]; rw [show ((rd : Int) == (mk : Int)) = decide ((rd : Int) = (mk : Int)) by rfl, Bool.true_and]; exact decide_eq_decide.2 (by omega)
    have HE := Lib.hid e
    clear e
    go_enter Try.func27, Try.ntmps27
    go_upto_region 1 with fail
    go_quiet (fail)
    go_wp2_with fail
    go_ret
    exact ⟨ret_bool HE.out, bel_drewN _ _⟩
  | false =>
    go_enter Try.func27, Try.ntmps27
    go_upto_region 1 with fail
    go_quiet (fail)
    go_wp2_with fail
    go_ret
    exact ⟨ret_bool (by rw [← HR.out]; rfl), bel_drewN _ _⟩
set_option maxHeartbeats 1000000 in
set_option maxRecDepth 100000 in
theorem runr_any {W w : World} {S : Nat → Prop} {b : Nat} {g : Gm} (h : RthAt W w S b g) {l : List Int} (hl : Vw.mem (g.unready : Int) = l) :
    Calls Try.prog 26 #[.pointer (some ⟨b, 0, none⟩)] w (MadeI w w l) := by
  obtain ⟨c0, c28, c11, c29, f29⟩ := h.cells
  have hx7 := h.ok.un_lt
  have han := Gm.andNot_nat h.ok.mask_lt h.ok.rd
  rw [show Gm.dif g.mask g.ready = g.unready from rfl] at han
  obtain ⟨su, hsu⟩ : ∃ x, g.com.isSome = x := ⟨_, rfl⟩
  cases su with
  | false =>
    have e : l = [] := by
      rw [← hl]
      unfold Gm.unready
      rw [Gm.mask_none hsu, Gm.zero_dif]; rfl
    subst e
    rw [hsu] at c28
    clear h hl hx7 han c0 c11 c29 f29 hsu
    go_enter Try.func26, Try.ntmps26
    go_wp2_with fail
    go_ret
    exact ⟨none, 0, rfl, ownI_nil _ _, Below.refl _ _, Below.refl _ _⟩
  | true =>
    rw [hsu] at c28
    have HLT : Hid (b < w.heap.size) := Lib.hid (h.lt b (by obtain ⟨A, k, c, es, m0, m1, m3, m5, m7, m8, h1, rfl⟩ := h; exact .inl rfl)).2
    obtain ⟨x, hx⟩ : ∃ x, g.unready = x := ⟨_, rfl⟩
    obtain ⟨mk, hmk⟩ : ∃ x, g.mask = x := ⟨_, rfl⟩
    obtain ⟨rd, hrd⟩ : ∃ x, g.ready = x := ⟨_, rfl⟩
    rw [hmk] at c11 han
    rw [hrd] at c29 han
    rw [hx] at han hl hx7
    have HL := Lib.hid hl
    clear h hl hsu hmk hrd hx c0 f29
    go_enter Try.func26, Try.ntmps26
    go_upto_region 3 with fail
    have hS0 : Below w.heap.size w w.drew := bel_drewN w 1
    refine wp_region_held_drew (S := fun w' => Below w.heap.size w w') (by kernel_rfl) hS0 (fun _ => ?_)
    have hS := Lib.hid hS0
    clear hS0
    generalize w.drew = w2 at hS ⊢
    -- REGION
    refine wpAnyH_take (i := 0) (v := .pointer (some ⟨b, 0, none⟩)) rfl (by kernel_rfl) (by kernel_rfl) (by kernel_rfl) (fun _ _ _ h => h) (Or.inl ⟨by kernel_rfl, fun w _ => by go_simp⟩) hS.out ?_
    refine wpAnyH_take (i := 1) (v := .pointer (some ⟨b, 0, none⟩)) rfl (by kernel_rfl) (by kernel_rfl) (by kernel_rfl) (fun _ _ _ h => h) (Or.inl ⟨by kernel_rfl, fun w _ => by go_simp⟩) hS.out ?_
    refine wpAnyH_take (i := 2) (v := .pointer (some ⟨b, 4, none⟩)) rfl (by kernel_rfl) (by kernel_rfl) (by kernel_rfl) (fun _ _ _ h => h) (Or.inl ⟨by kernel_rfl, fun w _ => by go_simp⟩) hS.out ?_
    refine wpAnyH_take (i := 3) (v := .pointer (some ⟨b, 11, none⟩)) rfl (by kernel_rfl) (by kernel_rfl) (by kernel_rfl) (fun _ _ _ h => h) (Or.inl ⟨by kernel_rfl, fun w _ => by go_simp⟩) hS.out ?_
    refine wpAnyH_take (i := 4) (v := .int .i64 (mk : Int)) rfl (by kernel_rfl) (by kernel_rfl) (by kernel_rfl) (fun _ _ _ h => h) (Or.inl ⟨by kernel_rfl, fun wq hq => by have q := (hq.cell (p := ⟨b, 11, none⟩) HLT.out).trans c11; go_simp⟩) hS.out ?_
    refine wpAnyH_take (i := 5) (v := .pointer (some ⟨b, 0, none⟩)) rfl (by kernel_rfl) (by kernel_rfl) (by kernel_rfl) (fun _ _ _ h => h) (Or.inl ⟨by kernel_rfl, fun w _ => by go_simp⟩) hS.out ?_
    refine wpAnyH_take (i := 6) (v := .pointer (some ⟨b, 0, none⟩)) rfl (by kernel_rfl) (by kernel_rfl) (by kernel_rfl) (fun _ _ _ h => h) (Or.inl ⟨by kernel_rfl, fun w _ => by go_simp⟩) hS.out ?_
    refine wpAnyH_take (i := 7) (v := .pointer (some ⟨b, 29, none⟩)) rfl (by kernel_rfl) (by kernel_rfl) (by kernel_rfl) (fun _ _ _ h => h) (Or.inl ⟨by kernel_rfl, fun w _ => by go_simp⟩) hS.out ?_
    refine wpAnyH_take (i := 8) (v := .int .i64 (rd : Int)) rfl (by kernel_rfl) (by kernel_rfl) (by kernel_rfl) (fun _ _ _ h => h) (Or.inl ⟨by kernel_rfl, fun wq hq => by have q := (hq.cell (p := ⟨b, 29, none⟩) HLT.out).trans c29; go_simp⟩) hS.out ?_
    refine wpAnyH_take (i := 9) (v := .int .i64 (x : Int)) rfl (by kernel_rfl) (by kernel_rfl) (by kernel_rfl) (fun _ _ _ h => h) (Or.inl ⟨by kernel_rfl, fun w _ => by go_simp⟩) hS.out ?_
    refine wpAnyH_ready (rs := [10]) (by kernel_rfl) (by simp) ?_
    refine AllReadyH.cons rfl (fun K hK => ?_) AllReadyH.nil
    go_simp
    refine (refMembers_any (W := w) (w := w2) (x : Int) ⟨by omega, by omega⟩ hS.out).mono ?_
    rw [HL.out]
    rintro e w3 ⟨A3, c3, rfl, ho3, hB3, hb3⟩
    have HM : Hid (MadeI w w l (.returned (.slice A3 l.length c3)) w3) := Lib.hid ⟨A3, c3, rfl, ho3, hB3, hB3⟩
    have hS := Lib.hid (hS.out.trans (hb3.mono hS.out.size))
    clear hb3 ho3 hB3
    go_simp
    refine hK.out _ _ hS.out (fun _ => ?_)
    clear hK K
    refine wpAnyH_take (i := 11) (v := .slice A3 l.length c3) rfl (by kernel_rfl) (by kernel_rfl) (by kernel_rfl) (fun _ _ _ h => h) (Or.inl ⟨by kernel_rfl, fun w _ => by go_simp⟩) hS.out ?_
    refine wpAnyH_done (by kernel_rfl) ?_ _
    go_simp
    -- END
    go_wp2_with fail
    go_ret
    exact HM.out
theorem not6 {z : Int} (h : ¬ (0 ≤ z ∧ z ≤ 6)) : z < 0 ∨ 0 ≤ z ∧ 6 < z := by omega
set_option maxHeartbeats 1000000 in
set_option maxRecDepth 100000 in
theorem rready_any {W w : World} {S : Nat → Prop} {b : Nat} {g g2 : Gm} (h : RthAt W w S b g) {z : Int} (hz : In64 z) {r : Bool} (hr : g.mayR z = r) (h2 : g.doR z = g2) :
    Calls Try.prog 24 #[.pointer (some ⟨b, 0, none⟩), .int .i64 z] w fun e w' => e = .returned (.bool r) ∧ GotRa W w S b g2 w' := by
  obtain ⟨c0, c28, c11, c29, f29⟩ := h.cells
  have HH := Lib.hid h
  have HR := Lib.hid hr
  have H2 := Lib.hid h2
  have hn : r = false → g2 = g := fun e => by rw [← h2]; unfold Gm.doR; rw [if_neg (by rw [hr, e]; decide)]
  have HNO := Lib.hid hn
  obtain ⟨su, hsu⟩ : ∃ x, g.com.isSome = x := ⟨_, rfl⟩
  have hmr : g.mayR z = (decide (0 ≤ z) && (g.mask.testBit z.toNat && !g.ready.testBit z.toNat)) := by unfold Gm.mayR; rw [h.ok.un_bit]
  rw [hr] at hmr
  have hm7 := h.ok.mask_lt
  have hr7 := h.ok.rd
  obtain ⟨mk, hmk⟩ : ∃ x, g.mask = x := ⟨_, rfl⟩
  obtain ⟨rd, hrd⟩ : ∃ x, g.ready = x := ⟨_, rfl⟩
  have HZM : Hid (su = false → mk = 0) := Lib.hid (fun e => by rw [← hmk]; exact Gm.mask_none (hsu.trans e))
  rw [hsu] at c28
  rw [hmk] at c11 hmr hm7
  rw [hrd] at c29 hmr hr7
  have HRD := Lib.hid hrd
  have HMR := Lib.hid hmr
  clear h hr h2 hn hsu hmr hmk hrd c0
  cases su with
  | false =>
    obtain rfl : r = false := by rw [HMR.out, HZM.out rfl]; simp
    clear c11 c29 f29
    go_enter Try.func24, Try.ntmps24
    go_wp2_with fail
    go_ret
    exact ⟨rfl, S, by rw [HNO.out (by trivial)]; exact HH.out, Adv.refl _ _⟩
  | true =>
    by_cases hz6 : 0 ≤ z ∧ z ≤ 6
    · obtain ⟨j, rfl⟩ : ∃ j : Nat, z = (j : Int) := ⟨z.toNat, by omega⟩
      have hj7 : j < 7 := by omega
      have hwt : IntKind.u64.wrap (j : Int) = (j : Int) := IntWalk.u64_in _ (by omega)
      have hmin : min j 64 = j := by omega
      have hd0 : decide ((j : Int) < 0) = false := by simp
      have hd6 : decide ((6 : Int) < (j : Int)) = false := decide_eq_false (by omega)
      have hand := and_1 ((mk : Int) / 2 ^ j)
      have hand2 := and_1 ((rd : Int) / 2 ^ j)
      have hb1 := Vw.bit_nat mk j
      have hb2 := Vw.bit_nat rd j
      unfold Vw.bit at hb1 hb2
      have hmr := HMR.out
      rw [show ((j : Int)).toNat = j from rfl, decide_eq_true (show (0 : Int) ≤ (j : Int) by omega)] at hmr
      cases hm : mk.testBit j
      · rw [hm] at hb1 hmr
        have h0 : (mk : Int) / 2 ^ j % 2 = 0 := by have := of_decide_eq_false hb1; omega
        rw [h0] at hand
        obtain rfl : r = false := by simpa using hmr
        clear h0 hb1 hb2 hm hmr hz6 hand2
        go_enter Try.func24, Try.ntmps24
        go_wp2_with fail
        go_ret
        exact ⟨rfl, S, by rw [HNO.out (by trivial)]; exact HH.out, Adv.refl _ _⟩
      · rw [hm] at hb1 hmr
        have h1 : (mk : Int) / 2 ^ j % 2 = 1 := of_decide_eq_true hb1
        rw [h1] at hand
        cases hd : rd.testBit j
        · rw [hd] at hb2 hmr
          have h0 : (rd : Int) / 2 ^ j % 2 = 0 := by have := of_decide_eq_false hb2; omega
          rw [h0] at hand2
          obtain rfl : r = true := by simpa using hmr
          have hor := Vw.or_nat hr7 hj7
          obtain ⟨P, hP, hw, hP1, hP2⟩ := pow_in (n := j) (by omega)
          obtain ⟨x2, hx2⟩ : ∃ x, rd ||| 2 ^ j = x := ⟨_, rfl⟩
          rw [hx2, show ((2 : Int) ^ j) = (P : Int) by rw [← hP]; simp] at hor
          have HX := Lib.hid hx2
          clear h0 h1 hb1 hb2 hm hd hmr hz6 hx2 hP
          go_enter Try.func24, Try.ntmps24
          go_wp2_with fail
          go_ret
          obtain ⟨A, k, c, es, m0, m1, m3, m5, m7, m8, h1, rfl⟩ := HH.out
          have hk : Keeps (gaS b A) w (w.setCell ⟨b, 29, none⟩ (.int .i64 (x2 : Int))) := keeps_setCell (S := gaS b A) (.inl rfl) (Keeps.refl _ _) 29 _
          refine ⟨rfl, gaS b A, ⟨A, k, c, es, m0, m1, m3, m5, m7, m8, ?_, rfl⟩, ⟨hk, fun q hq => .inl hq⟩⟩
          have e2 : g2 = { g with ready := x2 } := by rw [← H2.out]; unfold Gm.doR; rw [if_pos HR.out, ← HX.out, HRD.out]; rfl
          have hok : g2.Ok := by rw [← H2.out]; exact h1.ok.doR
          rw [e2] at hok ⊢
          exact ⟨h1.blk.set_ 29 (.int .i64 (x2 : Int)), ⟨h1.com.e0, h1.com.e1, h1.com.e3, h1.com.e5, h1.com.e7, h1.com.e8⟩, own_set_t h1.own h1.blk (by decide), h1.len, h1.ms, h1.st, hok, h1.lo, hk.below h1.bel (fun q hq => (h1.lt q hq).1)⟩
        · rw [hd] at hb2 hmr
          have h2 : (rd : Int) / 2 ^ j % 2 = 1 := of_decide_eq_true hb2
          rw [h2] at hand2
          obtain rfl : r = false := by simpa using hmr
          clear h1 h2 hb1 hb2 hm hd hmr hz6
          go_enter Try.func24, Try.ntmps24
          go_wp2_with fail
          go_ret
          exact ⟨rfl, S, by rw [HNO.out (by trivial)]; exact HH.out, Adv.refl _ _⟩
    · obtain rfl : r = false := by
        rw [HMR.out]
        rcases not6 hz6 with h | h
        · rw [decide_eq_false (by omega)]; rfl
        · have : mk.testBit z.toNat = false := Nat.testBit_lt_two_pow (Nat.lt_of_lt_of_le hm7 (Nat.pow_le_pow_right (n := 2) (i := 7) (by decide) (by omega)))
          rw [this]; simp
      rcases not6 hz6 with h | ⟨h1, h2⟩
      · clear hz6 c11 c29 f29
        go_enter Try.func24, Try.ntmps24
        go_wp2_with fail
        go_ret
        exact ⟨rfl, S, by rw [HNO.out (by trivial)]; exact HH.out, Adv.refl _ _⟩
      · clear hz6 c11 c29 f29
        go_enter Try.func24, Try.ntmps24
        go_wp2_with fail
        go_ret
        exact ⟨rfl, S, by rw [HNO.out (by trivial)]; exact HH.out, Adv.refl _ _⟩
end Go.Proofs.Ytneehnoolhadbaa

