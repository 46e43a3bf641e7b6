/- SessFull: the walk, over any contracts of the code's. -/
import Derived.Test.YtcmjpjhaaookfaaSessC0
import Derived.Test.YtcmjpjhaaookfaaBitsKit
import Derived.Test.YtcmjpjhaaookfaaConstKit
namespace Go.Proofs.Ytcmjpjhaaookfaa
open Go.RowKit
set_option linter.unusedVariables false
/-- the sessions 100, 99, .. of which k came -/
def tabF : Nat → List Ls
  | 0 => []
  | k + 1 => ⟨100 - (k : Int), 1, 0, [], (k : Int)⟩ :: tabF k
theorem tabF_mem {k : Nat} {m : Ls} (h : m ∈ tabF k) : ∃ j : Nat, j < k ∧ m = ⟨100 - (j : Int), 1, 0, [], (j : Int)⟩ := by
  induction k with
  | zero => cases h
  | succ k ih =>
    unfold tabF at h
    rcases List.mem_cons.1 h with h | h
    · exact ⟨k, by omega, h⟩
    · obtain ⟨j, hj, e⟩ := ih h
      exact ⟨j, by omega, e⟩
theorem tabF_len (k : Nat) : (tabF k).length = k := by
  induction k with
  | zero => rfl
  | succ k ih => unfold tabF; simp [ih]
theorem tabF_rises (k : Nat) : Tb.Rises (tabF k) := by
  induction k with
  | zero => exact List.Pairwise.nil
  | succ k ih =>
    unfold tabF
    refine List.pairwise_cons.2 ⟨fun m hm => ?_, ih⟩
    obtain ⟨j, hj, rfl⟩ := tabF_mem hm
    show (100 : Int) - (k : Int) < 100 - (j : Int)
    omega
theorem tabF_ok {k : Nat} (hk : k ≤ 8) : Tb.Ok (tabF k) :=
  ⟨tabF_rises k, by rw [tabF_len]; omega, fun m hm => by
    obtain ⟨j, hj, rfl⟩ := tabF_mem hm
    exact ⟨⟨by show (1 : Int) ≤ 100 - (j : Int); omega, by show (1 : Int) ≤ 1; omega, by show (100 : Int) - (j : Int) ≤ 1073741824; omega, by show (1 : Int) ≤ 1073741824; omega⟩, by simp, by simp⟩⟩
theorem tabF_put (k : Nat) : Tb.put (tabF k) ⟨100 - (k : Int), 1, 0, [], (k : Int)⟩ = tabF (k + 1) := by
  unfold Tb.put
  rw [Tb.filter_none (fun m hm => by obtain ⟨j, hj, rfl⟩ := tabF_mem hm; simp; omega), Tb.filter_all (fun m hm => by obtain ⟨j, hj, rfl⟩ := tabF_mem hm; simp; omega)]
  rfl
theorem tabF_none (k : Nat) : Tb.here (tabF k) (100 - (k : Int)) = none := by
  unfold Tb.here
  exact Tb.find_none (fun m hm => by obtain ⟨j, hj, rfl⟩ := tabF_mem hm; simp; omega)
theorem tabF_here {k j : Nat} (hj : j < k) : Tb.here (tabF k) (100 - (j : Int)) = some ⟨100 - (j : Int), 1, 0, [], (j : Int)⟩ := by
  induction k with
  | zero => omega
  | succ k ih =>
    unfold Tb.here tabF
    rw [List.find?_cons]
    rcases Nat.lt_or_ge j k with h | h
    · rw [decide_eq_false (by show ¬ (100 : Int) - (k : Int) = 100 - (j : Int); omega)]
      exact ih h
    · obtain rfl : j = k := by omega
      rw [decide_eq_true (by rfl)]
theorem tabF_sess {k i : Nat} {m : Ls} (h : (tabF k)[i]? = some m) : m.s = 101 - (k : Int) + (i : Int) := by
  induction k generalizing i with
  | zero => simp [tabF] at h
  | succ k ih =>
    unfold tabF at h
    cases i with
    | zero => simp at h; subst h; show (100 : Int) - (k : Int) = _; omega
    | succ i => have := ih (by simpa using h); omega
theorem tabF_new {k : Nat} (hk : k < 8) : Tb.look (tabF k) (100 - (k : Int)) 1 = ⟨0, [], 0, 0⟩ := by
  unfold Tb.look
  rw [if_pos ⟨by omega, by omega, by omega, by omega⟩, tabF_none]
  show (if 8 ≤ (tabF k).length then _ else _) = _
  rw [if_neg (by rw [tabF_len]; omega)]
theorem tabF_full {i : Nat} (hi : 8 ≤ i) (hi2 : i < 16) : Tb.look (tabF 8) (100 - (i : Int)) 1 = ⟨9, [], 0, 2⟩ := by
  unfold Tb.look
  rw [if_pos ⟨by omega, by omega, by omega, by omega⟩]
  have : Tb.here (tabF 8) (100 - (i : Int)) = none := Tb.find_none (fun m hm => by obtain ⟨j, hj, rfl⟩ := tabF_mem hm; simp; omega)
  rw [this]
  show (if 8 ≤ (tabF 8).length then _ else _) = _
  rw [if_pos (by rw [tabF_len]; omega)]
theorem tabF_next {k j : Nat} (hk : k ≤ 8) (hj : j < k) : Tb.look (tabF k) (100 - (j : Int)) 2 = ⟨0, [], 0, 0⟩ := by
  unfold Tb.look
  rw [if_pos ⟨by omega, by omega, by omega, by omega⟩, tabF_here hj]
  rfl
theorem tabF_same {k j : Nat} (hk : k ≤ 8) (hj : j < k) : Tb.look (tabF k) (100 - (j : Int)) 1 = ⟨0, [], (j : Int), 1⟩ := by
  unfold Tb.look
  rw [if_pos ⟨by omega, by omega, by omega, by omega⟩, tabF_here hj]
  rfl
theorem tabF_anew {k j : Nat} (hk : k ≤ 8) (hj : j < k) : Tb.look (Tb.put (tabF k) ⟨100 - (j : Int), 2, 0, [], 77⟩) (100 - (j : Int)) 2 = ⟨0, [], 77, 1⟩ := by
  unfold Tb.look
  rw [if_pos ⟨by omega, by omega, by omega, by omega⟩]
  have := Tb.here_put (ls := tabF k) (l := ⟨100 - (j : Int), 2, 0, [], 77⟩)
  rw [this]
  rfl
theorem tabF_plen {k j : Nat} (hj : j < k) : (Tb.put (tabF k) ⟨100 - (j : Int), 2, 0, [], 77⟩).length = k := by
  rw [Tb.length_put (tabF_rises k)]
  have h := tabF_here hj
  rw [if_pos (by show (Tb.here (tabF k) (100 - (j : Int))).isSome = true; rw [h]; rfl), tabF_len]
set_option maxHeartbeats 2000000 in
set_option maxRecDepth 100000 in
theorem sessFull_core (hL : LookC9) (hP : PutC9) (hA : AwakeC9) (a0 a1 : Int) (w : World) :
    Calls Try.prog 7 #[.int .i64 a0, .int .i64 a1] w fun e w' => e = .returned (.bool true) ∧ Below w.heap.size w w' := by
  obtain ⟨n, hn, hn16⟩ : ∃ n : Nat, bits .and .i64 a0 15 = (n : Int) ∧ n < 16 := ⟨(a0 % 16).toNat, by rw [and_15]; omega, by omega⟩
  obtain ⟨r, hr, hr256⟩ : ∃ r : Nat, bits .and .i64 a1 255 = (r : Int) ∧ r < 256 := ⟨(a1 % 256).toNat, by rw [and_255]; omega, by omega⟩
  go_enter Try.func7, Try.ntmps7
  go_wp2_with fail
  go_loopw [5, 6] (fun s5 s6 wr => ∃ (i k c' : Nat) (A' : Option Addr), i ≤ n ∧ s6 = .int .i64 (i : Int) ∧ s5 = .slice A' k c' ∧ Hid (k ≤ 8 ∧ (i ≤ 8 → k = i) ∧ (8 ≤ i → k = 8)) ∧ Hid (OwnL w wr A' k c' (tabF k)) ∧ Hid (Below w.heap.size w wr)) (fun _ s6 _ => n - (intOf s6).toNat)
  case atStart => exact ⟨0, 0, 0, none, Nat.zero_le _, rfl, rfl, Lib.hid ⟨by omega, fun _ => rfl, fun h => absurd h (by omega)⟩, Lib.hid (OwnL.nil w w), Lib.hid (Below.refl _ _)⟩
  case round =>
    obtain ⟨i, k, c', A', hi, rfl, rfl, HK, HO, HB⟩ := hrel
    by_cases hlt : i < n
    · have hlti : (i : Int) < (n : Int) := by omega
      have hw1 : IntKind.i64.wrap ((i : Int) + 1) = (i : Int) + 1 := IntWalk.i64_in _ (by omega)
      have hw2 : IntKind.i64.wrap (100 - (i : Int)) = 100 - (i : Int) := IntWalk.i64_in _ (by omega)
      by_cases h8 : i < 8
      · obtain rfl : k = i := HK.out.2.1 (by omega)
        have h8i : (k : Int) < 8 := by omega
        have h8j : ¬ (8 : Int) ≤ (k : Int) := by omega
        have hc := HO.out.cap
        go_wp2_with fail
        refine (hL.is (W := w) (100 - (k : Int)) 1 (e := 0) (v := []) (N := 0) (k := 0) (tabF_new h8) (tabF_ok (by omega)) hc HO.out.rd HB.out).mono ?_
        rintro e w1 ⟨A1, c1, rfl, _, hB1, hb1⟩
        unfold resV
        simp only [List.length_nil]
        have hb1' := hb1.alloc hb1.size (.cells #[.int .i64 0, .slice A1 0 c1, .int .i64 0] 34)
        have HO1 := Lib.hid (HO.out.below hb1')
        have HB1 := Lib.hid (hB1.alloc hB1.size (.cells #[.int .i64 0, .slice A1 0 c1, .int .i64 0] 34))
        have HR := Lib.hid (Blk.new w1 34 #[.int .i64 0, .slice A1 0 c1, .int .i64 0])
        clear hB1 hb1 hb1'
        obtain ⟨x0, x1, x2, _, _, _⟩ := three HR.out
        go_wp2_with fail
        refine (hP.is (W := w) (ls' := tabF (k + 1)) (100 - (k : Int)) 1 0 [] (k : Int) rfl (m := 0) (tabF_put k) (tabF_ok (by omega)) ⟨by omega, by omega, by omega, by omega⟩ (by omega) (by simp) hc HO1.out.rd (Rd.none_ _ w.heap.size _) HB1.out).mono ?_
        rintro e w2 ⟨A2, c2, rfl, ho2, hB2, hb2⟩
        rw [tabF_len] at ho2 ⊢
        go_wp2_with fail
        go_roundw
        case rel => exact ⟨k + 1, k + 1, c2, A2, by omega, by go_num, rfl, Lib.hid ⟨by omega, fun _ => rfl, fun h => by omega⟩, Lib.hid ho2, Lib.hid hB2⟩
        case measure => simp only [intOf]; omega
      · obtain rfl : k = 8 := HK.out.2.2 (by omega)
        have h8i : ¬ (i : Int) < 8 := by omega
        have h8j : (8 : Int) ≤ (i : Int) := by omega
        have hc := HO.out.cap
        go_wp2_with fail
        refine (hL.is (W := w) (100 - (i : Int)) 1 (e := 9) (v := []) (N := 0) (k := 2) (tabF_full (by omega) (by omega)) (tabF_ok (by omega)) hc HO.out.rd HB.out).mono ?_
        rintro e w1 ⟨A1, c1, rfl, _, hB1, hb1⟩
        unfold resV
        simp only [List.length_nil]
        have hb1' := hb1.alloc hb1.size (.cells #[.int .i64 9, .slice A1 0 c1, .int .i64 0] 34)
        have HO1 := Lib.hid (HO.out.below hb1')
        have HB1 := Lib.hid (hB1.alloc hB1.size (.cells #[.int .i64 9, .slice A1 0 c1, .int .i64 0] 34))
        have HR := Lib.hid (Blk.new w1 34 #[.int .i64 9, .slice A1 0 c1, .int .i64 0])
        clear hB1 hb1 hb1'
        obtain ⟨x0, x1, x2, _, _, _⟩ := three HR.out
        go_wp2_with fail
        go_roundw
        case rel => exact ⟨i + 1, 8, c', A', by omega, by go_num, rfl, Lib.hid ⟨by omega, fun h => by omega, fun _ => rfl⟩, HO1, HB1⟩
        case measure => simp only [intOf]; omega
    · obtain rfl : i = n := by omega
      have hmin : (if (8 : Int) < (i : Int) then (8 : Int) else (i : Int)) = (k : Int) := by
        have h1 := HK.out.2.1
        have h2 := HK.out.2.2
        rcases Nat.lt_or_ge i 8 with h | h
        · have := h1 (by omega); rw [if_neg (by omega)]; omega
        · have := h2 h; split <;> omega
      have hk8 := HK.out.1
      have hn0 : i = 0 ↔ k = 0 := by
        have h1 := HK.out.2.1
        have h2 := HK.out.2.2
        constructor
        · intro h; have := h1 (by omega); omega
        · intro h
          rcases Nat.lt_or_ge i 8 with h3 | h3
          · have := h1 (by omega); omega
          · have := h2 h3; omega
      have HN0 := Lib.hid hn0
      clear hn0 HK
      go_wp2_with fail
      rename World => wl
      go_loopw [65] (fun s65 wq => ∃ j : Nat, j ≤ k ∧ s65 = .int .i64 (j : Int) ∧ ∃ m, wq = wl.drewN m) (fun s65 _ => k - (intOf s65).toNat)
      case atStart => exact ⟨0, Nat.zero_le _, rfl, 0, rfl⟩
      case round =>
        obtain ⟨j, hj, rfl, m, hm⟩ := hrel
        have HM := Lib.hid hm
        by_cases hlt2 : j < k
        · have hjk : (j : Int) < (k : Int) := by omega
          have hw1 : IntKind.i64.wrap ((j : Int) + 1) = (j : Int) + 1 := IntWalk.i64_in _ (by omega)
          have hw2 : IntKind.i64.wrap ((j : Int) - 1) = (j : Int) - 1 := IntWalk.i64_in _ (by omega)
          cases j with
          | zero =>
            clear hm
            go_wp2_with fail
            go_quiet (fail)
            go_wp2_with fail
            go_roundw
            case rel => exact ⟨1, by omega, by go_num, m + nq, by rw [HM.out, World.drewN_drewN]⟩
            case measure => simp only [intOf]; omega
          | succ i2 =>
            obtain ⟨g, m1, A1, c1, rfl, hm1, _, _, y0, _, _, _, _, _, _⟩ := HO.out.at (k := i2) (by omega)
            obtain ⟨g', m2, A2, c2, e2, hm2, _, _, z0, _, _, _, _, _, _⟩ := HO.out.at (k := i2 + 1) (by omega)
            injection e2 with e2; injection e2 with e2
            subst e2
            have s1 := tabF_sess hm1
            have s2 := tabF_sess hm2
            have y1 : wr.cell? ⟨g, i2 * 5, none⟩ = some (.int .i64 m1.s) := by rw [hm]; exact y0
            have z1 : wr.cell? ⟨g, (i2 + 1) * 5, none⟩ = some (.int .i64 m2.s) := by rw [hm]; exact z0
            have hge : ¬ m2.s ≤ m1.s := by omega
            have hi2 : (0 : Int) < ((i2 : Int) + 1) := by omega
            have hi3 : ((i2 : Int)) < (k : Int) := by omega
            have hi4 : ((i2 : Int) + 1) < (k : Int) := by omega
            have hw3 : IntKind.i64.wrap ((i2 : Int) + 1 - 1) = (i2 : Int) := by rw [show (i2 : Int) + 1 - 1 = i2 by omega]; exact IntWalk.i64_in _ (by omega)
            have hw4 : IntKind.i64.wrap (i2 : Int) = (i2 : Int) := IntWalk.i64_in _ (by omega)
            clear hm y0 z0 s1 s2 hm1 hm2
            go_wp2_with fail
            go_quiet (fail)
            go_wp2_with fail
            go_roundw
            case rel => exact ⟨i2 + 1 + 1, by omega, by go_num, m + nq, by rw [HM.out, World.drewN_drewN]⟩
            case measure => simp only [intOf]; omega
        · obtain rfl : j = k := by omega
          clear hlt2 hj hlt
          have hbm : Below wl.heap.size wl wr := by rw [HM.out]; exact belowN_dS wl m
          have HO2 := Lib.hid (HO.out.below hbm)
          have HB2 := Lib.hid (HB.out.trans (hbm.mono HB.out.size))
          clear hbm HO HB HM hm
          by_cases hz : i = 0
          · have hi0 : ((i : Int) == 0) = true := by rw [hz]; rfl
            go_wp2_with fail
            refine (hA _).mono ?_
            rintro e w2 ⟨rfl, hb2⟩
            go_wp2_with fail
            go_ret
            exact ⟨rfl, HB2.out.trans (hb2.mono HB2.out.size)⟩
          · have hk0 : 0 < j := by have := HN0.out; omega
            have hi0 : ((i : Int) == 0) = false := by simp; omega
            have hk1 : ((j : Int) == 0) = false := by simp; omega
            obtain ⟨q, hq, hqj⟩ : ∃ q : Nat, (r : Int).tmod (j : Int) = (q : Int) ∧ q < j := ⟨r % j, by rw [Int.tmod_eq_emod_of_nonneg (by omega)]; omega, Nat.mod_lt _ hk0⟩
            have hw1 : IntKind.i64.wrap (100 - (q : Int)) = 100 - (q : Int) := IntWalk.i64_in _ (by omega)
            have hw2 : IntKind.i64.wrap (q : Int) = (q : Int) := IntWalk.i64_in _ (by omega)
            have hw3 : IntKind.i64.wrap (100 - (100 - (q : Int))) = (q : Int) := by rw [show (100 : Int) - (100 - (q : Int)) = q by omega]; exact IntWalk.i64_in _ (by omega)
            go_wp2_with fail
            refine (hL.is (W := w) (100 - (q : Int)) 2 (e := 0) (v := []) (N := 0) (k := 0) (tabF_next hk8 hqj) (tabF_ok hk8) HO2.out.cap HO2.out.rd HB2.out).mono ?_
            rintro e w3 ⟨A3, c3, rfl, _, hB, hb⟩
            unfold resV
            simp only [List.length_nil]
            have hb' := hb.alloc hb.size (.cells #[.int .i64 0, .slice A3 0 c3, .int .i64 0] 34)
            have HB3 := Lib.hid (hB.alloc hB.size (.cells #[.int .i64 0, .slice A3 0 c3, .int .i64 0] 34))
            have HK3 := Lib.hid (Blk.new w3 34 #[.int .i64 0, .slice A3 0 c3, .int .i64 0])
            have HO2 := Lib.hid (HO2.out.below hb')
            clear hB hb hb' HB2
            go_wp2_with fail
            refine (hP.is (W := w) (ls' := Tb.put (tabF j) ⟨100 - (q : Int), 2, 0, [], 77⟩) (100 - (q : Int)) 2 0 [] 77 rfl (m := 0) rfl (tabF_ok hk8) ⟨by omega, by omega, by omega, by omega⟩ (by omega) (by simp) HO2.out.cap HO2.out.rd (Rd.none_ _ w.heap.size _) HB3.out).mono ?_
            rintro e w4 ⟨A4, c4, rfl, ho4, hB, hb⟩
            rw [tabF_plen hqj] at ho4 ⊢
            have HO4 := Lib.hid ho4
            have HB4 := Lib.hid hB
            have HK3 := Lib.hid (HK3.out.below hb)
            have HO2 := Lib.hid (HO2.out.below hb)
            clear hB hb ho4 HB3
            have hput : Tb.Ok (Tb.put (tabF j) ⟨100 - (q : Int), 2, 0, [], 77⟩) := Tb.Ok.put (tabF_ok hk8) (by rw [tabF_len]; omega) ⟨by show (1 : Int) ≤ 100 - (q : Int); omega, by show (1 : Int) ≤ 2; omega, by show (100 : Int) - (q : Int) ≤ 1073741824; omega, by show (2 : Int) ≤ 1073741824; omega⟩ (by simp) (by simp)
            go_wp2_with fail
            refine (hL.is (W := w) (100 - (q : Int)) 2 (e := 0) (v := []) (N := 77) (k := 1) (tabF_anew hk8 hqj) hput HO4.out.cap HO4.out.rd HB4.out).mono ?_
            rintro e w5 ⟨A5, c5, rfl, _, hB, hb⟩
            unfold resV
            simp only [List.length_nil]
            have hb' := hb.alloc hb.size (.cells #[.int .i64 0, .slice A5 0 c5, .int .i64 77] 34)
            have HB5 := Lib.hid (hB.alloc hB.size (.cells #[.int .i64 0, .slice A5 0 c5, .int .i64 77] 34))
            have HK5 := Lib.hid (Blk.new w5 34 #[.int .i64 0, .slice A5 0 c5, .int .i64 77])
            have HO4 := Lib.hid (HO4.out.below hb')
            have HO2 := Lib.hid (HO2.out.below hb')
            have HK3 := Lib.hid (HK3.out.below hb')
            clear hB hb hb' HB4
            go_wp2_with fail
            refine (hL.is (W := w) (100 - (q : Int)) 1 (e := 0) (v := []) (N := (q : Int)) (k := 1) (tabF_same hk8 hqj) (tabF_ok hk8) HO2.out.cap HO2.out.rd HB5.out).mono ?_
            rintro e w6 ⟨A6, c6, rfl, _, hB, hb⟩
            unfold resV
            simp only [List.length_nil]
            have hb' := hb.alloc hb.size (.cells #[.int .i64 0, .slice A6 0 c6, .int .i64 (q : Int)] 34)
            have HB6 := Lib.hid (hB.alloc hB.size (.cells #[.int .i64 0, .slice A6 0 c6, .int .i64 (q : Int)] 34))
            have HK6 := Lib.hid (Blk.new w6 34 #[.int .i64 0, .slice A6 0 c6, .int .i64 (q : Int)])
            have HO4 := Lib.hid (HO4.out.below hb')
            have HO2 := Lib.hid (HO2.out.below hb')
            have HK3 := Lib.hid (HK3.out.below hb')
            have HK5 := Lib.hid (HK5.out.below hb')
            clear hB hb hb' HB5
            obtain ⟨x0, x1, x2, _, _, _⟩ := three HK3.out
            obtain ⟨y0, y1, y2, _, _, _⟩ := three HK5.out
            obtain ⟨z0, z1, z2, _, _, _⟩ := three HK6.out
            go_wp2_with fail
            refine (hA _).mono ?_
            rintro e w7 ⟨rfl, hb7⟩
            go_wp2_with fail
            go_ret
            exact ⟨rfl, HB6.out.trans (hb7.mono HB6.out.size)⟩
end Go.Proofs.Ytcmjpjhaaookfaa
