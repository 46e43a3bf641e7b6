/- GathCode1 -/
import Derived.Test.YtneehnoolhadbaaGF31
import Derived.BigQuiet
namespace Go.Proofs.Ytneehnoolhadbaa
open Go.RowKit
set_option linter.unusedVariables false
theorem gheld_any (w : World) (n l m : Int) (h : In64 n) (hl : In64 l) (hm : In64 m) :
    Calls Try.prog 29 #[.int .i64 n, .int .i64 l, .int .i64 m] w fun e w' => e = .returned (.int .i64 (min (max n l) m)) ∧ w = w' := by
  obtain ⟨h1, h2⟩ := h; obtain ⟨l1, l2⟩ := hl; obtain ⟨m1, m2⟩ := hm
  go_enter Try.func29, Try.ntmps29
  go_wp2
  all_goals (go_ret; exact ⟨ret_int (by omega), rfl⟩)
theorem bit_min {m : Nat} (hm : m < 128) (j : Nat) : ((m : Int) / 2 ^ min j 64 % 2 == 1) = m.testBit j := by
  have h := Vw.bit_nat m (min j 64)
  unfold Vw.bit at h
  rw [show ((m : Int) / 2 ^ min j 64 % 2 == 1) = decide ((m : Int) / 2 ^ min j 64 % 2 = 1) by rfl, h]
  rcases Nat.lt_or_ge j 64 with h1 | h1
  · rw [Nat.min_eq_left (by omega)]
  · rw [Nat.min_eq_right (by omega), Nat.testBit_lt_two_pow (x := m) (i := 64) (by omega), Nat.testBit_lt_two_pow (Nat.lt_of_lt_of_le hm (Nat.pow_le_pow_right (n := 2) (i := 7) (by decide) (by omega)))]
theorem ghas_any (w : World) (m : Nat) (k : Int) (hm : m < 128) (hk : In64 k) :
    Calls Try.prog 31 #[.int .i64 (m : Int), .int .i64 k] w fun e w' => e = .returned (.bool (decide (0 ≤ k) && m.testBit k.toNat)) ∧ w = w' := by
  obtain ⟨h1, h2⟩ := hk
  by_cases h0 : 0 ≤ k
  · obtain ⟨j, rfl⟩ := Int.eq_ofNat_of_zero_le h0
    have hand := and_1 ((m : Int) / 2 ^ (min j 64))
    have hd0 : decide ((j : Int) < 0) = false := by simp
    have hb := Lib.hid (bit_min hm j)
    go_enter Try.func31, Try.ntmps31
    go_wp2
    all_goals (go_ret; exact ⟨ret_bool (by rw [hb.out, decide_eq_true h0]; rfl), rfl⟩)
  · have hd : decide (0 ≤ k) = false := decide_eq_false h0
    have HD := Lib.hid hd
    clear hd
    go_enter Try.func31, Try.ntmps31
    go_wp2
    all_goals (go_ret; exact ⟨ret_bool (by rw [HD.out]; rfl), rfl⟩)
theorem pow_in {n : Nat} (h : n ≤ 7) : ∃ P : Nat, 2 ^ n = P ∧ wrap64 ((2 : Int) ^ n) = (P : Int) ∧ 1 ≤ P ∧ P ≤ 128 := by
  have h1 : 2 ^ n ≤ 2 ^ 7 := Nat.pow_le_pow_right (by decide) h
  have h2 : 0 < 2 ^ n := Nat.pow_pos (by decide)
  refine ⟨_, rfl, ?_, h2, h1⟩
  have e : ((2 : Int) ^ n) = ((2 ^ n : Nat) : Int) := by simp
  rw [e]
  exact IntWalk.wrap64_in _ (by omega)
theorem glackQ {W w : World} {S : Nat → Prop} {b : Nat} {g : Gm} (h : GthAt W w S b g) {x : Nat} (hx : g.lacking = x) :
    Calls Try.prog 32 #[.pointer (some ⟨b, 0, none⟩)] w fun e w' => e = .returned (.int .i64 (x : Int)) ∧ ∃ q, w' = w.drewN q := by
  obtain ⟨A, k, c, es, m0, m1, m3, m5, m7, m8, h1, rfl⟩ := h
  have ho := h1.ok
  obtain ⟨n, hn⟩ : ∃ n, g.n = n := ⟨_, rfl⟩
  obtain ⟨cm, hcm⟩ : ∃ n, Gm.came g.l = n := ⟨_, rfl⟩
  have hn7 : n ≤ 7 := by rw [← hn]; exact ho.n7
  have hc7 : cm < 128 := by rw [← hcm]; exact ho.lt7
  have c0 := h1.blk.cell 0
  have c3 := h1.blk.cell 3
  simp [gthC, hn, hcm] at c0 c3
  obtain ⟨P, hP, hw, hP1, hP2⟩ := pow_in hn7
  have hmin : min n 64 = n := by omega
  have hd0 : decide ((n : Int) < 0) = false := by simp
  have han := Gm.andNot_nat (a := P - 1) (b := cm) (by omega) hc7
  rw [show ((P - 1 : Nat) : Int) = (P : Int) - 1 by omega] at han
  have hx' : Gm.dif (P - 1) cm = x := by rw [← hx]; unfold Gm.lacking Gm.full; rw [hn, hcm, hP]
  rw [hx'] at han
  clear hx' hx hcm hn ho h1 hP
  go_enter Try.func32, Try.ntmps32
  go_upto_region 1 with fail
  go_quiet (fail)
  go_wp2_with fail
  go_ret
  exact ⟨rfl, _, rfl⟩
theorem gunreadyQ {W w : World} {S : Nat → Prop} {b : Nat} {g : Gm} (h : GthAt W w S b g) {x : Nat} (hx : g.unready = x) :
    Calls Try.prog 35 #[.pointer (some ⟨b, 0, none⟩)] w fun e w' => e = .returned (.int .i64 (x : Int)) ∧ ∃ q, w' = w.drewN q := by
  obtain ⟨A, k, c, es, m0, m1, m3, m5, m7, m8, h1, rfl⟩ := h
  have hc := h1.com.mem
  subst hc
  have c7 := h1.blk.cell 12
  have c9 := h1.blk.cell 30
  simp [gthC] at c7 c9
  have han := Gm.andNot_nat h1.ok.mask_lt h1.ok.rd
  rw [show Gm.dif g.mask g.ready = x from hx] at han
  obtain ⟨mk, hmk⟩ : ∃ m, g.mask = m := ⟨_, rfl⟩
  obtain ⟨rd, hrd⟩ : ∃ m, g.ready = m := ⟨_, rfl⟩
  rw [hmk] at c7 han
  rw [hrd] at c9 han
  clear h1 hx hmk hrd
  go_enter Try.func35, Try.ntmps35
  go_upto_region 1 with fail
  go_quiet (fail)
  go_wp2_with fail
  go_ret
  exact ⟨rfl, _, rfl⟩
theorem bel_drewN (w : World) (k : Nat) : Below w.heap.size w (w.drewN k) := ⟨rfl, rfl, rfl, Nat.le_refl _, fun _ _ => rfl⟩
theorem glack_any {W w : World} {S : Nat → Prop} {b : Nat} {g : Gm} (h : GthAt W w S b g) {x : Nat} (hx : g.lacking = x) :
    Calls Try.prog 32 #[.pointer (some ⟨b, 0, none⟩)] w fun e w' => e = .returned (.int .i64 (x : Int)) ∧ Below w.heap.size w w' :=
  (glackQ h hx).mono fun _ _ ⟨h1, k, h2⟩ => ⟨h1, by rw [h2]; exact bel_drewN _ _⟩
theorem gunready_any {W w : World} {S : Nat → Prop} {b : Nat} {g : Gm} (h : GthAt W w S b g) {x : Nat} (hx : g.unready = x) :
    Calls Try.prog 35 #[.pointer (some ⟨b, 0, none⟩)] w fun e w' => e = .returned (.int .i64 (x : Int)) ∧ Below w.heap.size w w' :=
  (gunreadyQ h hx).mono fun _ _ ⟨h1, k, h2⟩ => ⟨h1, by rw [h2]; exact bel_drewN _ _⟩
end Go.Proofs.Ytneehnoolhadbaa

