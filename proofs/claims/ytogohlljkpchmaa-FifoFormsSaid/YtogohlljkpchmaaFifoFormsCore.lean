/- FifoForms: the walk, over any two contracts of the code's. -/
import Derived.Test.YtogohlljkpchmaaFifoOrderCore
namespace Go.Proofs.Ytogohlljkpchmaa
open Go.RowKit
set_option linter.unusedVariables false
/-- the queue behind i pushes -/
def upTo (i : Nat) : List (List Nat) := (List.range (min i 8)).map fun x => [x]
theorem upTo_length (i : Nat) : (upTo i).length = min i 8 := by simp [upTo]
theorem upTo_lt {i : Nat} (h : i < 8) : upTo (i + 1) = upTo i ++ [[i]] := by
  unfold upTo
  rw [show min (i + 1) 8 = i + 1 by omega, show min i 8 = i by omega, List.range_succ, List.map_append]
  rfl
theorem upTo_ge {i : Nat} (h : 8 ≤ i) : upTo (i + 1) = upTo i := by
  unfold upTo
  rw [show min (i + 1) 8 = 8 by omega, show min i 8 = 8 by omega]
theorem upTo_at {i k : Nat} (h : k < min i 8) : ((upTo i).drop k)[0]? = some [k] := by
  rw [List.getElem?_drop, Nat.add_zero]
  simp [upTo, h]
/-- .. what is refused turns nothing -/
theorem One.refused {w wr : World} {A A'' : Option Addr} {n c n'' c'' B : Nat} {qs : List (List Nat)} {v : List Nat} (hP : PushC) (h : One w wr A n c qs) (hl : v.length ≤ 60) (hr : Rd wr B A'' n'' (bv v)) (h8 : 16 < v.length ∨ 8 ≤ n) :
    Calls Try.prog 7 #[.slice A n c, .slice A'' n'' c''] wr fun e w' => ∃ A1 c1 A2 c2 E, e = .returned (.tuple #[.slice A1 n c1, .agg #[.int .i64 E, .slice A2 0 c2, .int .i64 0]]) ∧ E = (if 16 < v.length then 1 else 3) ∧ One w w' A1 n c1 qs ∧ Below wr.heap.size wr w' := by
  have h12 := h.few
  have hn := hr.length
  have hq := h.r1.length
  have e1 : pushS qs v = qs := by unfold pushS; split
                                  · rfl
                                  · rw [if_pos (by omega)]
  have e2 : pushE qs v = (if 16 < v.length then 1 else 3) := by unfold pushE; split
                                                                · rfl
                                                                · rw [if_pos (by omega)]
  have e3 : pushN qs v = 0 := by unfold pushN; split
                                 · rfl
                                 · rw [if_pos (by omega)]
  have h1 := hP (c := c) (c' := c'') (by omega : n ≤ 100000) h.lim (by unfold Lim; omega) h.r1 hr h.bel
  rw [e1, e2, e3] at h1
  refine h1.mono ?_
  rintro e w' ⟨A1, c1, A2, c2, rfl, h2, h3, h4, h5⟩
  rw [hq] at h2 ⊢
  exact ⟨A1, c1, A2, c2, _, rfl, rfl, ⟨h2.rd, h2.cap, h.few, h.lim, h.byt, h4⟩, h5⟩
set_option maxHeartbeats 4000000 in
set_option maxRecDepth 100000 in
theorem fifoForms_core (hP : PushC) (hQ : PopC) (hA : AwakeC) (a0 a1 : Int) (w : World) :
    Calls Try.prog 3 #[.int .i64 a0, .int .i64 a1] w fun e w' => e = .returned (.bool true) ∧ Below w.heap.size w w' := by
  have e1 := and_15 a0
  have e2 := and_31 a1
  obtain ⟨n, hn⟩ : ∃ n : Nat, a0 % 16 = (n : Int) := ⟨(a0 % 16).toNat, by omega⟩
  obtain ⟨m, hm⟩ : ∃ m : Nat, a1 % 32 = (m : Int) := ⟨(a1 % 32).toNat, by omega⟩
  have hn16 : n < 16 := by omega
  have hm32 : m < 32 := by omega
  go_enter Try.func3, Try.ntmps3
  go_wp2
  go_loopw [5, 6] (fun s5 s6 wr => ∃ (i k c : Nat) (A : Option Addr), i ≤ n ∧ k = min i 8 ∧ s6 = .int .i64 (i : Int) ∧ s5 = .slice A k c ∧ Hid (One w wr A k c (upTo i))) (fun _ s6 _ => n - (intOf s6).toNat)
  case atStart => exact ⟨0, 0, 0, none, Nat.zero_le _, by omega, rfl, rfl, Lib.hid ⟨RdQ.nil _ _ _, Nat.le_refl _, by omega, fun l h => by simp [upTo] at h, fun l h => by simp [upTo] at h, Below.refl _ _⟩⟩
  case round =>
    obtain ⟨i, k, c, A, hi, hk, rfl, rfl, HO⟩ := hrel
    have HB := Lib.hid HO.out.bel
    by_cases hlt : i < n
    · have hk1 : (i : Int) < (n : Int) := by omega
      have hu8 : IntKind.u8.wrap (i : Int) = (i : Int) := IntWalk.u8_in _ (by omega)
      have hv1 : IntKind.i64.wrap ((i : Int) + 1) = (i : Int) + 1 := IntWalk.i64_in _ (by omega)
      have b0 : Below wr.heap.size wr (wr.alloc (.cells #[.int .u8 (i : Int)] 5)) := (Below.refl _ _).alloc (Nat.le_refl _) _
      have hR0 : Rd (wr.alloc (.cells #[.int .u8 (i : Int)] 5)) (wr.heap.size + 1) (some ⟨wr.heap.size, 0, none⟩) 1 (bv [i]) := Rd.made wr #[.int .u8 (i : Int)] 5 (0, 0) 1 rfl
      have HO1 : Hid (One w (wr.alloc (.cells #[.int .u8 (i : Int)] 5)) A k c (upTo i)) := Lib.hid ⟨HO.out.r1.below' b0, HO.out.le, HO.out.few, HO.out.lim, HO.out.byt, HB.out.alloc HB.out.size _⟩
      by_cases h8 : i < 8
      · have hki : k = i := by omega
        subst hki
        clear hk
        have HM := Lib.hid (One.push (c'' := 1) hP HO1.out (by simp) (by simp; omega) hR0 h8)
        have hk8 : (k : Int) < 8 := by omega
        clear hR0 b0
        go_wp2_with fail
        refine HM.out.mono ?_
        rintro e w1 ⟨A1, c1, A2, c2, rfl, ho, hb1⟩
        have HO2 : Hid (One w (w1.alloc (.cells #[.int .i64 0, .slice A2 0 c2, .int .i64 ((k : Int) + 1)] 26)) A1 (k + 1) c1 (upTo (k + 1))) := Lib.hid (by
          rw [upTo_lt h8]
          exact ⟨ho.r1.below' ((Below.refl _ _).alloc (Nat.le_refl _) _), ho.le, ho.few, ho.lim, ho.byt, ho.bel.alloc ho.bel.size _⟩)
        clear ho hb1 HO1 HO HM HB
        go_wp2
        go_roundw
        case rel => exact ⟨k + 1, k + 1, c1, A1, by omega, by omega, by go_num, rfl, HO2⟩
        case measure => simp [intOf]; omega
      · have hk8' : k = 8 := by omega
        have HK := Lib.hid hk8'
        have HM := Lib.hid (One.refused (c'' := 1) hP HO1.out (by simp) hR0 (Or.inr (by omega)))
        have hk8 : ¬ (i : Int) < 8 := by omega
        clear hR0 b0 hk hk8'
        go_wp2_with fail
        refine HM.out.mono ?_
        rintro e w1 ⟨A1, c1, A2, c2, E, rfl, hE, ho, hb1⟩
        obtain rfl : E = 3 := by rw [hE, if_neg (by simp)]
        have HO2 : Hid (One w (w1.alloc (.cells #[.int .i64 3, .slice A2 0 c2, .int .i64 0] 26)) A1 k c1 (upTo (i + 1))) := Lib.hid (by
          rw [upTo_ge (by omega)]
          exact ⟨ho.r1.below' ((Below.refl _ _).alloc (Nat.le_refl _) _), ho.le, ho.few, ho.lim, ho.byt, ho.bel.alloc ho.bel.size _⟩)
        clear ho hb1 HO1 HO HM HB hE
        go_wp2
        go_roundw
        case rel => exact ⟨i + 1, k, c1, A1, by omega, by have := HK.out; omega, by go_num, rfl, HO2⟩
        case measure => simp [intOf]; omega
    · have hni : i = n := by omega
      subst hni
      have hf : ¬ (i : Int) < (i : Int) := by omega
      have hmin : ∀ (w : World) (ts : Array TypeId) (t : TypeId), (Builtin.min_ ts t #[.int .i64 (i : Int), .int .i64 8]).run Try.prog w = .ok (.int .i64 (k : Int)) w := by
        intro w ts t
        have e : (k : Int) = if (8 : Int) < (i : Int) then 8 else (i : Int) := by split <;> omega
        rw [e]
        simp [Builtin.min_, Builtin.min2]
      have HK := Lib.hid hk
      clear hi hlt hk hn e1 e2 hm
      by_cases h16 : 16 < m
      · have hm1 : (16 : Int) < (m : Int) := by omega
        by_cases h8 : 8 ≤ i
        · have hi8 : (8 : Int) ≤ (i : Int) := by omega
          go_wp2_with (first
            | (at_make
               refine wpList_make_bytes (W := wr) byteT rfl _ _ rfl rfl rfl (by omega) (Below.refl _ _) ?_
               intro w3 hown3 hB3)
            | fail)
          have HO1 : Hid (One w w3 A k c (upTo i)) := Lib.hid ⟨HO.out.r1.below' hB3, HO.out.le, HO.out.few, HO.out.lim, HO.out.byt, HB.out.trans (hB3.mono HB.out.size)⟩
          refine (One.refused (c'' := m) hP HO1.out (by simp; omega) (Rd.own_ hown3) (Or.inl (by simp; omega))).mono ?_
          rintro e w4 ⟨A1, c1, A2, c2, E, rfl, hE, ho, hb4⟩
          obtain rfl : E = 1 := by rw [hE, if_pos (by simp; omega)]
          have b4 : Below w4.heap.size w4 (w4.alloc (.cells #[.int .i64 1, .slice A2 0 c2, .int .i64 0] 26)) := (Below.refl _ _).alloc (Nat.le_refl _) _
          have HS : Hid (One w (w4.alloc (.cells #[.int .i64 1, .slice A2 0 c2, .int .i64 0] 26)) A k c (upTo i)) := Lib.hid ⟨(HO1.out.r1.below' hb4).below' b4, HO1.out.le, HO1.out.few, HO1.out.lim, HO1.out.byt, ho.bel.alloc ho.bel.size _⟩
          have HT : Hid (One w (w4.alloc (.cells #[.int .i64 1, .slice A2 0 c2, .int .i64 0] 26)) A1 k c1 (upTo i)) := Lib.hid ⟨ho.r1.below' b4, ho.le, ho.few, ho.lim, ho.byt, ho.bel.alloc ho.bel.size _⟩
          clear ho hb4 b4 hE
          clear hB3 hown3 HO1 HO HB
          go_wp2_with fail
          refine (sameRows_below _ HS.out.byt HS.out.byt HS.out.r1 HT.out.r1 (Nat.le_trans HS.out.few (by decide)) (Nat.le_trans HS.out.few (by decide))).mono ?_
          rintro e w5 ⟨rfl, j5⟩
          rw [decide_eq_true rfl]
          have HS5 : Hid (One w w5 A k c (upTo i)) := Lib.hid ⟨HS.out.r1.below' j5, HS.out.le, HS.out.few, HS.out.lim, HS.out.byt, HS.out.bel.trans (j5.mono HS.out.bel.size)⟩
          clear HS HT j5
          go_wp2
          go_loopw [5, 12] (fun s5 s12 wr => ∃ (j m c : Nat) (A : Option Addr), s12 = .int .i64 (j : Int) ∧ s5 = .slice A m c ∧ j + m = k ∧ Hid (One w wr A m c ((upTo i).drop j))) (fun _ s12 _ => k - (intOf s12).toNat)
          case atStart => exact ⟨0, _, _, _, rfl, rfl, by omega, Lib.hid (by simpa using HS5.out)⟩
          case round =>
            clear HS5
            obtain ⟨j, m, c, A, rfl, rfl, hjm, HO⟩ := hrel
            have HBr := Lib.hid HO.out.bel
            by_cases hlt : j < k
            · have hj2 : (j : Int) < (k : Int) := by omega
              have hj8 : j < 8 := by have := HK.out; omega
              have hat := upTo_at (i := i) (k := j) (by have := HK.out; omega)
              go_wp2_with fail
              refine (One.pop hQ HO.out hat).mono ?_
              rintro e w6 ⟨A6, c6, A7, c7, rfl, ho, hr7, hb6⟩
              have b6 : Below w6.heap.size w6 (w6.alloc (.cells #[.int .i64 0, .slice A7 1 c7, .int .i64 0] 26)) := (Below.refl _ _).alloc (Nat.le_refl _) _
              obtain ⟨b7, o7, rfl, hk7, hc7⟩ := (hr7.below b6).bytes_at (k := 0) (by simp)
              simp only [Nat.add_zero, List.getElem_cons_zero] at hc7
              have hwj : IntKind.i64.wrap (j : Int) = (j : Int) := IntWalk.i64_in _ (by omega)
              have hwk : IntKind.i64.wrap ((j : Int) + 1) = (j : Int) + 1 := IntWalk.i64_in _ (by omega)
              have HO7 : Hid (One w (w6.alloc (.cells #[.int .i64 0, .slice (some ⟨b7, o7, none⟩) 1 c7, .int .i64 0] 26)) A6 (m - 1) c6 ((upTo i).drop (j + 1))) := Lib.hid (by
                rw [← List.drop_drop]
                exact ⟨ho.r1.below' b6, ho.le, ho.few, ho.lim, ho.byt, ho.bel.alloc ho.bel.size _⟩)
              clear ho hr7 hb6 b6 HO hat hk7
              go_wp2
              go_roundw
              case rel => exact ⟨j + 1, m - 1, c6, A6, by go_num, rfl, by omega, HO7⟩
              case measure => simp [intOf]; omega
            · have hjk : j = k := by omega
              have hm0 : m = 0 := by omega
              subst hm0
              subst hjk
              have hf2 : ¬ (j : Int) < (j : Int) := by omega
              go_wp2_with (go_at_call 10; refine (hA _).mono ?_; rintro e w7 ⟨rfl, hb⟩)
              go_ret
              exact ⟨rfl, HBr.out.trans (hb.mono HBr.out.size)⟩
        · have hi8 : ¬ (8 : Int) ≤ (i : Int) := by omega
          go_wp2_with (first
            | (at_make
               refine wpList_make_bytes (W := wr) byteT rfl _ _ rfl rfl rfl (by omega) (Below.refl _ _) ?_
               intro w3 hown3 hB3)
            | fail)
          have HO1 : Hid (One w w3 A k c (upTo i)) := Lib.hid ⟨HO.out.r1.below' hB3, HO.out.le, HO.out.few, HO.out.lim, HO.out.byt, HB.out.trans (hB3.mono HB.out.size)⟩
          refine (One.refused (c'' := m) hP HO1.out (by simp; omega) (Rd.own_ hown3) (Or.inl (by simp; omega))).mono ?_
          rintro e w4 ⟨A1, c1, A2, c2, E, rfl, hE, ho, hb4⟩
          obtain rfl : E = 1 := by rw [hE, if_pos (by simp; omega)]
          have b4 : Below w4.heap.size w4 (w4.alloc (.cells #[.int .i64 1, .slice A2 0 c2, .int .i64 0] 26)) := (Below.refl _ _).alloc (Nat.le_refl _) _
          have HS : Hid (One w (w4.alloc (.cells #[.int .i64 1, .slice A2 0 c2, .int .i64 0] 26)) A k c (upTo i)) := Lib.hid ⟨(HO1.out.r1.below' hb4).below' b4, HO1.out.le, HO1.out.few, HO1.out.lim, HO1.out.byt, ho.bel.alloc ho.bel.size _⟩
          have HT : Hid (One w (w4.alloc (.cells #[.int .i64 1, .slice A2 0 c2, .int .i64 0] 26)) A1 k c1 (upTo i)) := Lib.hid ⟨ho.r1.below' b4, ho.le, ho.few, ho.lim, ho.byt, ho.bel.alloc ho.bel.size _⟩
          clear ho hb4 b4 hE
          clear hB3 hown3 HO1 HO HB
          go_wp2_with fail
          refine (sameRows_below _ HS.out.byt HS.out.byt HS.out.r1 HT.out.r1 (Nat.le_trans HS.out.few (by decide)) (Nat.le_trans HS.out.few (by decide))).mono ?_
          rintro e w5 ⟨rfl, j5⟩
          rw [decide_eq_true rfl]
          have HS5 : Hid (One w w5 A k c (upTo i)) := Lib.hid ⟨HS.out.r1.below' j5, HS.out.le, HS.out.few, HS.out.lim, HS.out.byt, HS.out.bel.trans (j5.mono HS.out.bel.size)⟩
          clear HS HT j5
          go_wp2
          go_loopw [5, 12] (fun s5 s12 wr => ∃ (j m c : Nat) (A : Option Addr), s12 = .int .i64 (j : Int) ∧ s5 = .slice A m c ∧ j + m = k ∧ Hid (One w wr A m c ((upTo i).drop j))) (fun _ s12 _ => k - (intOf s12).toNat)
          case atStart => exact ⟨0, _, _, _, rfl, rfl, by omega, Lib.hid (by simpa using HS5.out)⟩
          case round =>
            clear HS5
            obtain ⟨j, m, c, A, rfl, rfl, hjm, HO⟩ := hrel
            have HBr := Lib.hid HO.out.bel
            by_cases hlt : j < k
            · have hj2 : (j : Int) < (k : Int) := by omega
              have hj8 : j < 8 := by have := HK.out; omega
              have hat := upTo_at (i := i) (k := j) (by have := HK.out; omega)
              go_wp2_with fail
              refine (One.pop hQ HO.out hat).mono ?_
              rintro e w6 ⟨A6, c6, A7, c7, rfl, ho, hr7, hb6⟩
              have b6 : Below w6.heap.size w6 (w6.alloc (.cells #[.int .i64 0, .slice A7 1 c7, .int .i64 0] 26)) := (Below.refl _ _).alloc (Nat.le_refl _) _
              obtain ⟨b7, o7, rfl, hk7, hc7⟩ := (hr7.below b6).bytes_at (k := 0) (by simp)
              simp only [Nat.add_zero, List.getElem_cons_zero] at hc7
              have hwj : IntKind.i64.wrap (j : Int) = (j : Int) := IntWalk.i64_in _ (by omega)
              have hwk : IntKind.i64.wrap ((j : Int) + 1) = (j : Int) + 1 := IntWalk.i64_in _ (by omega)
              have HO7 : Hid (One w (w6.alloc (.cells #[.int .i64 0, .slice (some ⟨b7, o7, none⟩) 1 c7, .int .i64 0] 26)) A6 (m - 1) c6 ((upTo i).drop (j + 1))) := Lib.hid (by
                rw [← List.drop_drop]
                exact ⟨ho.r1.below' b6, ho.le, ho.few, ho.lim, ho.byt, ho.bel.alloc ho.bel.size _⟩)
              clear ho hr7 hb6 b6 HO hat hk7
              go_wp2
              go_roundw
              case rel => exact ⟨j + 1, m - 1, c6, A6, by go_num, rfl, by omega, HO7⟩
              case measure => simp [intOf]; omega
            · have hjk : j = k := by omega
              have hm0 : m = 0 := by omega
              subst hm0
              subst hjk
              have hf2 : ¬ (j : Int) < (j : Int) := by omega
              go_wp2_with (go_at_call 10; refine (hA _).mono ?_; rintro e w7 ⟨rfl, hb⟩)
              go_ret
              exact ⟨rfl, HBr.out.trans (hb.mono HBr.out.size)⟩
      · have hm1 : ¬ (16 : Int) < (m : Int) := by omega
        by_cases h8 : 8 ≤ i
        · have hi8 : (8 : Int) ≤ (i : Int) := by omega
          go_wp2_with (first
            | (at_make
               refine wpList_make_bytes (W := wr) byteT rfl _ _ rfl rfl rfl (by omega) (Below.refl _ _) ?_
               intro w3 hown3 hB3)
            | fail)
          have HO1 : Hid (One w w3 A k c (upTo i)) := Lib.hid ⟨HO.out.r1.below' hB3, HO.out.le, HO.out.few, HO.out.lim, HO.out.byt, HB.out.trans (hB3.mono HB.out.size)⟩
          refine (One.refused (c'' := m) hP HO1.out (by simp; omega) (Rd.own_ hown3) (Or.inr (by have := HK.out; omega))).mono ?_
          rintro e w4 ⟨A1, c1, A2, c2, E, rfl, hE, ho, hb4⟩
          obtain rfl : E = 3 := by rw [hE, if_neg (by simp; omega)]
          have b4 : Below w4.heap.size w4 (w4.alloc (.cells #[.int .i64 3, .slice A2 0 c2, .int .i64 0] 26)) := (Below.refl _ _).alloc (Nat.le_refl _) _
          have HS : Hid (One w (w4.alloc (.cells #[.int .i64 3, .slice A2 0 c2, .int .i64 0] 26)) A k c (upTo i)) := Lib.hid ⟨(HO1.out.r1.below' hb4).below' b4, HO1.out.le, HO1.out.few, HO1.out.lim, HO1.out.byt, ho.bel.alloc ho.bel.size _⟩
          have HT : Hid (One w (w4.alloc (.cells #[.int .i64 3, .slice A2 0 c2, .int .i64 0] 26)) A1 k c1 (upTo i)) := Lib.hid ⟨ho.r1.below' b4, ho.le, ho.few, ho.lim, ho.byt, ho.bel.alloc ho.bel.size _⟩
          clear ho hb4 b4 hE
          clear hB3 hown3 HO1 HO HB
          go_wp2_with fail
          refine (sameRows_below _ HS.out.byt HS.out.byt HS.out.r1 HT.out.r1 (Nat.le_trans HS.out.few (by decide)) (Nat.le_trans HS.out.few (by decide))).mono ?_
          rintro e w5 ⟨rfl, j5⟩
          rw [decide_eq_true rfl]
          have HS5 : Hid (One w w5 A k c (upTo i)) := Lib.hid ⟨HS.out.r1.below' j5, HS.out.le, HS.out.few, HS.out.lim, HS.out.byt, HS.out.bel.trans (j5.mono HS.out.bel.size)⟩
          clear HS HT j5
          go_wp2
          go_loopw [5, 12] (fun s5 s12 wr => ∃ (j m c : Nat) (A : Option Addr), s12 = .int .i64 (j : Int) ∧ s5 = .slice A m c ∧ j + m = k ∧ Hid (One w wr A m c ((upTo i).drop j))) (fun _ s12 _ => k - (intOf s12).toNat)
          case atStart => exact ⟨0, _, _, _, rfl, rfl, by omega, Lib.hid (by simpa using HS5.out)⟩
          case round =>
            clear HS5
            obtain ⟨j, m, c, A, rfl, rfl, hjm, HO⟩ := hrel
            have HBr := Lib.hid HO.out.bel
            by_cases hlt : j < k
            · have hj2 : (j : Int) < (k : Int) := by omega
              have hj8 : j < 8 := by have := HK.out; omega
              have hat := upTo_at (i := i) (k := j) (by have := HK.out; omega)
              go_wp2_with fail
              refine (One.pop hQ HO.out hat).mono ?_
              rintro e w6 ⟨A6, c6, A7, c7, rfl, ho, hr7, hb6⟩
              have b6 : Below w6.heap.size w6 (w6.alloc (.cells #[.int .i64 0, .slice A7 1 c7, .int .i64 0] 26)) := (Below.refl _ _).alloc (Nat.le_refl _) _
              obtain ⟨b7, o7, rfl, hk7, hc7⟩ := (hr7.below b6).bytes_at (k := 0) (by simp)
              simp only [Nat.add_zero, List.getElem_cons_zero] at hc7
              have hwj : IntKind.i64.wrap (j : Int) = (j : Int) := IntWalk.i64_in _ (by omega)
              have hwk : IntKind.i64.wrap ((j : Int) + 1) = (j : Int) + 1 := IntWalk.i64_in _ (by omega)
              have HO7 : Hid (One w (w6.alloc (.cells #[.int .i64 0, .slice (some ⟨b7, o7, none⟩) 1 c7, .int .i64 0] 26)) A6 (m - 1) c6 ((upTo i).drop (j + 1))) := Lib.hid (by
                rw [← List.drop_drop]
                exact ⟨ho.r1.below' b6, ho.le, ho.few, ho.lim, ho.byt, ho.bel.alloc ho.bel.size _⟩)
              clear ho hr7 hb6 b6 HO hat hk7
              go_wp2
              go_roundw
              case rel => exact ⟨j + 1, m - 1, c6, A6, by go_num, rfl, by omega, HO7⟩
              case measure => simp [intOf]; omega
            · have hjk : j = k := by omega
              have hm0 : m = 0 := by omega
              subst hm0
              subst hjk
              have hf2 : ¬ (j : Int) < (j : Int) := by omega
              go_wp2_with (go_at_call 10; refine (hA _).mono ?_; rintro e w7 ⟨rfl, hb⟩)
              go_ret
              exact ⟨rfl, HBr.out.trans (hb.mono HBr.out.size)⟩
        · have hi8 : ¬ (8 : Int) ≤ (i : Int) := by omega
          have hk8 : k = i := by have := HK.out; omega
          subst hk8
          have hwi : IntKind.i64.wrap ((k : Int) + 1) = (k : Int) + 1 := IntWalk.i64_in _ (by omega)
          go_wp2_with (first
            | (at_make
               refine wpList_make_bytes (W := wr) byteT rfl _ _ rfl rfl rfl (by omega) (Below.refl _ _) ?_
               intro w3 hown3 hB3)
            | fail)
          have HO1 : Hid (One w w3 A k c (upTo k)) := Lib.hid ⟨HO.out.r1.below' hB3, HO.out.le, HO.out.few, HO.out.lim, HO.out.byt, HB.out.trans (hB3.mono HB.out.size)⟩
          refine (One.push (c'' := m) hP HO1.out (by simp; omega) (by intro x hx; rw [List.eq_of_mem_replicate hx]; decide) (Rd.own_ hown3) (by omega)).mono ?_
          rintro e w4 ⟨A1, c1, A2, c2, rfl, ho, hb4⟩
          have b4 : Below w4.heap.size w4 (w4.alloc (.cells #[.int .i64 0, .slice A2 0 c2, .int .i64 ((k : Int) + 1)] 26)) := (Below.refl _ _).alloc (Nat.le_refl _) _
          have HS5 : Hid (One w (w4.alloc (.cells #[.int .i64 0, .slice A2 0 c2, .int .i64 ((k : Int) + 1)] 26)) A k c (upTo k)) := Lib.hid ⟨(HO1.out.r1.below' hb4).below' b4, HO1.out.le, HO1.out.few, HO1.out.lim, HO1.out.byt, ho.bel.alloc ho.bel.size _⟩
          clear ho hb4 b4
          clear hB3 hown3 HO1 HO HB
          go_wp2
          go_loopw [5, 12] (fun s5 s12 wr => ∃ (j m c : Nat) (A : Option Addr), s12 = .int .i64 (j : Int) ∧ s5 = .slice A m c ∧ j + m = k ∧ Hid (One w wr A m c ((upTo k).drop j))) (fun _ s12 _ => k - (intOf s12).toNat)
          case atStart => exact ⟨0, _, _, _, rfl, rfl, by omega, Lib.hid (by simpa using HS5.out)⟩
          case round =>
            clear HS5
            obtain ⟨j, m, c, A, rfl, rfl, hjm, HO⟩ := hrel
            have HBr := Lib.hid HO.out.bel
            by_cases hlt : j < k
            · have hj2 : (j : Int) < (k : Int) := by omega
              have hj8 : j < 8 := by have := HK.out; omega
              have hat := upTo_at (i := k) (k := j) (by have := HK.out; omega)
              go_wp2_with fail
              refine (One.pop hQ HO.out hat).mono ?_
              rintro e w6 ⟨A6, c6, A7, c7, rfl, ho, hr7, hb6⟩
              have b6 : Below w6.heap.size w6 (w6.alloc (.cells #[.int .i64 0, .slice A7 1 c7, .int .i64 0] 26)) := (Below.refl _ _).alloc (Nat.le_refl _) _
              obtain ⟨b7, o7, rfl, hk7, hc7⟩ := (hr7.below b6).bytes_at (k := 0) (by simp)
              simp only [Nat.add_zero, List.getElem_cons_zero] at hc7
              have hwj : IntKind.i64.wrap (j : Int) = (j : Int) := IntWalk.i64_in _ (by omega)
              have hwk : IntKind.i64.wrap ((j : Int) + 1) = (j : Int) + 1 := IntWalk.i64_in _ (by omega)
              have HO7 : Hid (One w (w6.alloc (.cells #[.int .i64 0, .slice (some ⟨b7, o7, none⟩) 1 c7, .int .i64 0] 26)) A6 (m - 1) c6 ((upTo k).drop (j + 1))) := Lib.hid (by
                rw [← List.drop_drop]
                exact ⟨ho.r1.below' b6, ho.le, ho.few, ho.lim, ho.byt, ho.bel.alloc ho.bel.size _⟩)
              clear ho hr7 hb6 b6 HO hat hk7
              go_wp2
              go_roundw
              case rel => exact ⟨j + 1, m - 1, c6, A6, by go_num, rfl, by omega, HO7⟩
              case measure => simp [intOf]; omega
            · have hjk : j = k := by omega
              have hm0 : m = 0 := by omega
              subst hm0
              subst hjk
              have hf2 : ¬ (j : Int) < (j : Int) := by omega
              go_wp2_with (go_at_call 10; refine (hA _).mono ?_; rintro e w7 ⟨rfl, hb⟩)
              go_ret
              exact ⟨rfl, HBr.out.trans (hb.mono HBr.out.size)⟩
end Go.Proofs.Ytogohlljkpchmaa
