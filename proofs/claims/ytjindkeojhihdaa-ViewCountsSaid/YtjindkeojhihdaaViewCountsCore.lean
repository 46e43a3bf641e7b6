/- ViewCounts, over the contracts. -/
import Derived.Test.YtjindkeojhihdaaViewMeetsCore
import Derived.Deep.QuietTactic
import Derived.BigQuiet
namespace Go.Proofs.Ytjindkeojhihdaa
open Go.RowKit
set_option linter.unusedVariables false
namespace Vw
theorem mem_bit {m z : Int} {k : Nat} (h : (mem m)[k]? = some z) : 0 ≤ z ∧ z < 7 ∧ m / 2 ^ z.toNat % 2 = 1 := by
  obtain ⟨i, hi, rfl⟩ := mem_get h
  have := members_lt (List.mem_of_getElem? hi)
  refine ⟨by omega, by omega, ?_⟩
  have h2 := this.2
  unfold bit at h2
  simpa using h2
theorem mem_rise {m y z : Int} {k : Nat} (hy : (mem m)[k]? = some y) (hz : (mem m)[k + 1]? = some z) : y < z := by
  obtain ⟨i, hi, rfl⟩ := mem_get hy
  obtain ⟨j, hj, rfl⟩ := mem_get hz
  obtain ⟨h1, e1⟩ := List.getElem?_eq_some_iff.1 hi
  obtain ⟨h2, e2⟩ := List.getElem?_eq_some_iff.1 hj
  have := List.pairwise_iff_getElem.1 (members_rise m) k (k + 1) h1 h2 (by omega)
  omega
theorem upto_high {m : Int} {n : Nat} (h : m / 2 ^ n = 0) (hn : n ≤ 7) : (upto m n).length = (members m).length := by
  unfold upto
  rw [List.length_map, members_low h hn]
theorem most_nat {m : Int} {n : Nat} (h1 : 1 ≤ n) (h7 : n ≤ 7) : most m (n : Int) = (decide (m / 2 ^ n = 0) && decide (n < 2 * (upto m n).length)) := by
  unfold most
  rw [size_of h1 h7]
  by_cases h : m / 2 ^ n = 0
  · rw [upto_high h h7]
  · simp [h]
theorem most_zero {n : Nat} (h1 : 1 ≤ n) (h7 : n ≤ 7) : most 0 (n : Int) = false := by
  rw [most_nat h1 h7]
  have : (upto 0 n).length = 0 := by
    unfold upto
    rw [List.length_map, List.length_eq_zero_iff, List.filter_eq_nil_iff]
    intro x hx
    unfold bit
    simp
  rw [this]; simp
theorem most_all {n : Nat} (h1 : 1 ≤ n) (h7 : n ≤ 7) : most ((2 : Int) ^ n - 1) (n : Int) = true := by
  have : n = 1 ∨ n = 2 ∨ n = 3 ∨ n = 4 ∨ n = 5 ∨ n = 6 ∨ n = 7 := by omega
  rcases this with rfl | rfl | rfl | rfl | rfl | rfl | rfl <;> decide
theorem limit_of {n : Nat} (h1 : 1 ≤ n) (h7 : n ≤ 7) : limit ((n : Int) - 1) = 400 + 40 * ((n : Int) - 1) := by unfold limit; omega
end Vw
theorem belowNq {B : Nat} {a w : World} (h : Below B a w) (k : Nat) : Below B a (w.drewN k) := h.trans ⟨rfl, rfl, rfl, Nat.le_refl _, fun _ _ => rfl⟩
set_option maxHeartbeats 1000000 in
set_option maxRecDepth 100000 in
theorem viewCounts_core (cL : LimitC14) (cMo : MostC14) (cMe : MembersC14) (cAw : AwakeC14) (w : World) (a n : Int) :
    Calls Try.prog 4 #[.int .i64 a, .int .i64 n] w fun e w' => e = .returned (.bool true) ∧ Below w.heap.size w w' := by
  obtain ⟨x, hx, x0, x1⟩ : ∃ x, bits .and .i64 a 255 = x ∧ 0 ≤ x ∧ x < 256 := ⟨_, and_255 a, by omega, by omega⟩
  obtain ⟨q, hq, q0, q1⟩ : ∃ x, bits .and .i64 n 255 = x ∧ 0 ≤ x ∧ x < 256 := ⟨_, and_255 n, by omega, by omega⟩
  go_enter Try.func4, Try.ntmps4
  go_upto_region 2 with fail
  obtain ⟨N, hN, N0, N1⟩ : ∃ N : Nat, q % 7 + 1 = (N : Int) ∧ 1 ≤ N ∧ N ≤ 7 := ⟨(q % 7 + 1).toNat, by omega, by omega, by omega⟩
  rw [hN]
  clear hN hx hq q0 q1
  obtain ⟨M, hM⟩ : ∃ M, (Vw.upto x N).length = M := ⟨_, rfl⟩
  have hM7 : M ≤ 7 := by have := Vw.upto_len x N; omega
  have HM := Lib.hid hM
  clear hM
  go_wp2_with fail
  go_loopw [5, 6] (fun s5 s6 wx => ∃ i : Nat, i ≤ N ∧ s6 = .int .i64 i ∧ s5 = .int .i64 (Vw.upto x i).length ∧ wx = w) (fun _ s6 _ => N - (intOf s6).toNat)
  case atStart => exact ⟨0, Nat.zero_le _, rfl, rfl, rfl⟩
  case round =>
    obtain ⟨i, hi, rfl, rfl, rfl⟩ := hrel
    obtain ⟨K, hK⟩ : ∃ K, (Vw.upto x i).length = K := ⟨_, rfl⟩
    have hK7 : K ≤ 7 := by have := Vw.upto_len x i; omega
    by_cases hlt : i < N
    · rw [hK]
      have HK := Lib.hid hK
      clear hK
      rcases Int.emod_two_eq (x / 2 ^ i) with h0 | h1
      · have ha : bits .and .i64 (x / 2 ^ i) 1 = 0 := by rw [and_1]; exact h0
        have HZ := Lib.hid h0
        clear h0
        go_wp2_with fail
        go_roundw
        case rel => exact ⟨i + 1, by omega, by go_num, by rw [Vw.upto_no HZ.out, HK.out], trivial⟩
        case measure => simp [intOf]; omega
      · have ha : bits .and .i64 (x / 2 ^ i) 1 = 1 := by rw [and_1]; exact h1
        have HZ := Lib.hid h1
        clear h1
        go_wp2_with fail
        go_roundw
        case rel => exact ⟨i + 1, by omega, by go_num, by rw [Vw.upto_yes HZ.out, List.length_append, HK.out]; rfl, trivial⟩
        case measure => simp [intOf]; omega
    · obtain rfl : i = N := by omega
      obtain rfl : K = M := by rw [← hK, HM.out]
      rw [hK]
      clear hK
      rename World => w
      have HC := cMe w x ⟨by omega, by omega⟩
      obtain ⟨L, hL⟩ : ∃ L, (Vw.mem x).length = L := ⟨_, rfl⟩
      have hL7 : L ≤ 7 := by have := Vw.members_len x; rw [Vw.mem_len] at hL; omega
      unfold MadeI at HC
      rw [hL] at HC
      have HL := Lib.hid hL
      clear hL
      go_wp2_with (first
        | (go_at_call 10; refine HC.mono ?_; rintro e w1 ⟨A, c, rfl, ho, hB, hb⟩)
        | fail)
      have H := Lib.hid (Rd.own_ ho)
      have HB1 := Lib.hid hb
      clear ho hB hb HC
      go_loopw [8, 31] (fun s8 s31 wx => ∃ k : Nat, k ≤ L ∧ s31 = .int .i64 k ∧ Hid (Below w1.heap.size w1 wx)) (fun _ s31 _ => L - (intOf s31).toNat)
      case atStart => exact ⟨0, Nat.zero_le _, rfl, Lib.hid (Below.refl _ _)⟩
      case round =>
        obtain ⟨k, hk, rfl, HB2⟩ := hrel
        rename World => w2
        by_cases hlt : k < L
        · obtain ⟨z, hz⟩ : ∃ z, (Vw.mem x)[k]? = some z := ⟨_, List.getElem?_eq_getElem (by have := HL.out; omega)⟩
          obtain ⟨z0, z7, zb⟩ := Vw.mem_bit hz
          obtain ⟨t, rfl⟩ := Int.eq_ofNat_of_zero_le z0
          have ht7 : t < 7 := by omega
          rw [Int.toNat_natCast] at zb
          have ha : bits .and .i64 (x / 2 ^ t) 1 = 1 := by rw [and_1]; exact zb
          clear zb z0 z7
          have hwt : IntKind.u64.wrap (t : Int) = (t : Int) := IntWalk.u64_in _ (by omega)
          have hmt : min t 64 = t := by omega
          have H2 := H.out.below HB2.out
          obtain ⟨bb, o, rfl, _⟩ := H2.int_at hlt
          have hc := H2.int_cell hlt hz
          have hltI : (k : Int) < (L : Int) := by omega
          rcases Nat.eq_zero_or_pos k with h0 | h0
          · subst h0
            simp only [Nat.add_zero] at hc
            clear hz H2
            have hlt' : (0 : Int) < (L : Int) := by omega
            go_wp2_with fail
            go_quiet (fail)
            go_wp2_with fail
            go_roundw
            case rel => exact ⟨1, by omega, by go_num, Lib.hid (belowNq HB2.out _)⟩
            case measure => simp [intOf]; omega
          · obtain ⟨p, hp⟩ : ∃ p, k = p + 1 := ⟨k - 1, by omega⟩
            have hsub : (k : Int) - 1 = (p : Int) := by omega
            have hpL : (p : Int) < (L : Int) := by omega
            have hp0 : (0 : Int) ≤ (p : Int) := by omega
            have hwp : IntKind.i64.wrap (p : Int) = (p : Int) := IntWalk.i64_in _ (by omega)
            have hwk : IntKind.i64.wrap ((k : Int) - 1) = (p : Int) := by rw [hsub]; exact hwp
            have hpN : p < L := by omega
            have hgt : (0 : Int) < (k : Int) := by omega
            obtain ⟨y, hy⟩ : ∃ y, (Vw.mem x)[p]? = some y := ⟨_, List.getElem?_eq_getElem (by have := HL.out; omega)⟩
            have hyz := Vw.mem_rise hy (by rw [← hp]; exact hz)
            have hp' := H2.int_cell (show p < L by omega) hy
            have HP := Lib.hid hp
            have hgN : decide (0 < k) = true := decide_eq_true h0
            clear hz H2 hy hp
            go_wp2_with fail
            go_quiet (fail)
            go_wp2_with fail
            go_roundw
            case rel => exact ⟨k + 1, by omega, by go_num, Lib.hid (belowNq HB2.out _)⟩
            case measure => simp [intOf]; omega
        · obtain rfl : k = L := by omega
          have HB3 := Lib.hid (HB1.out.trans (HB2.out.mono HB1.out.size))
          have hMo := Vw.most_nat (m := x) N0 N1
          rw [HM.out] at hMo
          have C1 := fun wx => cMo wx x (i : Int) ⟨by omega, by omega⟩ ⟨by omega, by omega⟩
          have C2 := fun wx => cMo wx 0 (i : Int) ⟨by decide, by decide⟩ ⟨by omega, by omega⟩
          obtain ⟨T, hT⟩ : ∃ T, (2 : Int) ^ i = T := ⟨_, rfl⟩
          have hTb : 2 ≤ T ∧ T ≤ 128 := by
            have : i = 1 ∨ i = 2 ∨ i = 3 ∨ i = 4 ∨ i = 5 ∨ i = 6 ∨ i = 7 := by omega
            rw [← hT]
            rcases this with h | h | h | h | h | h | h <;> rw [h] <;> decide
          have hall := Vw.most_all N0 N1
          rw [hT] at hall hMo
          obtain ⟨U, hU⟩ : ∃ U, T - 1 = U := ⟨_, rfl⟩
          rw [hU] at hall
          have C3 := fun wx => cMo wx U (i : Int) ⟨by omega, by omega⟩ ⟨by omega, by omega⟩
          rw [hall] at C3
          have C4 := fun wx => cL wx ((i : Int) - 1) ⟨by omega, by omega⟩
          rw [Vw.most_zero N0 N1] at C2
          rw [Vw.limit_of N0 N1] at C4
          clear hall
          rw [hMo] at C1
          clear hMo
          by_cases hA : i < 2 * K
          · by_cases hB : x / T = 0
            · have hbo : (decide (x / T = 0) && decide (i < 2 * K)) = true := by simp [hA, hB]
              rw [hbo] at C1
              clear hbo
              have hAI : (i : Int) < 2 * (K : Int) := by omega
              clear hA
              go_wp2_with (first
                | (go_at_call_of 11 (Value.int .i64 x); refine (C1 _).mono ?_; rintro e w3 ⟨rfl, hb3⟩)
                | (go_at_call_of 11 (Value.int .i64 0); refine (C2 _).mono ?_; rintro e w4 ⟨rfl, hb4⟩)
                | (go_at_call_of 11 (Value.int .i64 U); refine (C3 _).mono ?_; rintro e w4b ⟨rfl, hb4b⟩)
                | (go_at_call 12; refine (C4 _).mono ?_; rintro e w5 ⟨rfl, hb5⟩)
                | (go_at_call 9; refine (cAw _).mono ?_; rintro e w7 ⟨rfl, hb7⟩)
                | fail)
              go_ret
              have b1 := HB3.out.trans (hb3.mono HB3.out.size)
              have b2 := b1.trans (hb4.mono b1.size)
              have b3 := b2.trans (hb4b.mono b2.size)
              have b4 := b3.trans (hb5.mono b3.size)
              first | exact ⟨rfl, b4.trans (hb7.mono b4.size)⟩ | exact ⟨ret_bool (by simp [hB]), b4.trans (hb7.mono b4.size)⟩
            · have hbo : (decide (x / T = 0) && decide (i < 2 * K)) = false := by simp [hA, hB]
              rw [hbo] at C1
              clear hbo
              have hAI : (i : Int) < 2 * (K : Int) := by omega
              clear hA
              go_wp2_with (first
                | (go_at_call_of 11 (Value.int .i64 x); refine (C1 _).mono ?_; rintro e w3 ⟨rfl, hb3⟩)
                | (go_at_call_of 11 (Value.int .i64 0); refine (C2 _).mono ?_; rintro e w4 ⟨rfl, hb4⟩)
                | (go_at_call_of 11 (Value.int .i64 U); refine (C3 _).mono ?_; rintro e w4b ⟨rfl, hb4b⟩)
                | (go_at_call 12; refine (C4 _).mono ?_; rintro e w5 ⟨rfl, hb5⟩)
                | (go_at_call 9; refine (cAw _).mono ?_; rintro e w7 ⟨rfl, hb7⟩)
                | fail)
              go_ret
              have b1 := HB3.out.trans (hb3.mono HB3.out.size)
              have b2 := b1.trans (hb4.mono b1.size)
              have b3 := b2.trans (hb4b.mono b2.size)
              have b4 := b3.trans (hb5.mono b3.size)
              first | exact ⟨rfl, b4.trans (hb7.mono b4.size)⟩ | exact ⟨ret_bool (by simp [hB]), b4.trans (hb7.mono b4.size)⟩
          · by_cases hB : x / T = 0
            · have hbo : (decide (x / T = 0) && decide (i < 2 * K)) = false := by simp [hA, hB]
              rw [hbo] at C1
              clear hbo
              have hAI : 2 * (K : Int) ≤ (i : Int) := by omega
              clear hA
              go_wp2_with (first
                | (go_at_call_of 11 (Value.int .i64 x); refine (C1 _).mono ?_; rintro e w3 ⟨rfl, hb3⟩)
                | (go_at_call_of 11 (Value.int .i64 0); refine (C2 _).mono ?_; rintro e w4 ⟨rfl, hb4⟩)
                | (go_at_call_of 11 (Value.int .i64 U); refine (C3 _).mono ?_; rintro e w4b ⟨rfl, hb4b⟩)
                | (go_at_call 12; refine (C4 _).mono ?_; rintro e w5 ⟨rfl, hb5⟩)
                | (go_at_call 9; refine (cAw _).mono ?_; rintro e w7 ⟨rfl, hb7⟩)
                | fail)
              go_ret
              have b1 := HB3.out.trans (hb3.mono HB3.out.size)
              have b2 := b1.trans (hb4.mono b1.size)
              have b3 := b2.trans (hb4b.mono b2.size)
              have b4 := b3.trans (hb5.mono b3.size)
              first | exact ⟨rfl, b4.trans (hb7.mono b4.size)⟩ | exact ⟨ret_bool (by simp [hB]), b4.trans (hb7.mono b4.size)⟩
            · have hbo : (decide (x / T = 0) && decide (i < 2 * K)) = false := by simp [hA, hB]
              rw [hbo] at C1
              clear hbo
              have hAI : 2 * (K : Int) ≤ (i : Int) := by omega
              clear hA
              go_wp2_with (first
                | (go_at_call_of 11 (Value.int .i64 x); refine (C1 _).mono ?_; rintro e w3 ⟨rfl, hb3⟩)
                | (go_at_call_of 11 (Value.int .i64 0); refine (C2 _).mono ?_; rintro e w4 ⟨rfl, hb4⟩)
                | (go_at_call_of 11 (Value.int .i64 U); refine (C3 _).mono ?_; rintro e w4b ⟨rfl, hb4b⟩)
                | (go_at_call 12; refine (C4 _).mono ?_; rintro e w5 ⟨rfl, hb5⟩)
                | (go_at_call 9; refine (cAw _).mono ?_; rintro e w7 ⟨rfl, hb7⟩)
                | fail)
              go_ret
              have b1 := HB3.out.trans (hb3.mono HB3.out.size)
              have b2 := b1.trans (hb4.mono b1.size)
              have b3 := b2.trans (hb4b.mono b2.size)
              have b4 := b3.trans (hb5.mono b3.size)
              first | exact ⟨rfl, b4.trans (hb7.mono b4.size)⟩ | exact ⟨ret_bool (by simp [hB]), b4.trans (hb7.mono b4.size)⟩
end Go.Proofs.Ytjindkeojhihdaa
