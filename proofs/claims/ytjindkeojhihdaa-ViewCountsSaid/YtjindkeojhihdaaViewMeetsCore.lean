/- ViewMeets, over the contracts. -/
import Derived.Test.YtjindkeojhihdaaViewC0
namespace Go.Proofs.Ytjindkeojhihdaa
open Go.RowKit
set_option linter.unusedVariables false
namespace Vw
theorem after_mem {m z : Int} {k : Nat} (hk : (mem m)[k]? = some z) : after m z = ((mem m)[k + 1]?).getD (((mem m)[0]?).getD (-1)) := by
  obtain ⟨i, hi, rfl⟩ := mem_get hk
  obtain ⟨hl, he⟩ := List.getElem?_eq_some_iff.1 hi
  have h := after_next (m := m) rfl hl
  rw [he] at h
  rw [h]
  have h0 : (members m)[0]? = some ((members m)[0]'(by omega)) := List.getElem?_eq_getElem (by omega)
  unfold mem
  rw [List.getElem?_map, List.getElem?_map, h0]
  cases (members m)[k + 1]? <;> rfl
/-- who stands at place k of the ring -/
def atK (m : Int) (k : Nat) : Int := ((mem m)[k]?).getD (((mem m)[0]?).getD (-1))
theorem atK_is {m z : Int} {k : Nat} (h : (mem m)[k]? = some z) : atK m k = z := by unfold atK; rw [h]; rfl
theorem atK_next {m z : Int} {k : Nat} (h : (mem m)[k]? = some z) : after m z = atK m (k + 1) := after_mem h
theorem atK_zero {m z : Int} (h : ((mem m)[0]?).getD (-1) = z) : atK m 0 = z := by
  unfold atK
  cases e : (mem m)[0]? with
  | none => rw [e] at h; exact h
  | some y => rw [e] at h; exact h
theorem atK_end {m z : Int} {n : Nat} (hn : (mem m).length = n) (h : ((mem m)[0]?).getD (-1) = z) : atK m n = z := by
  unfold atK
  rw [List.getElem?_eq_none (by omega)]; exact h
theorem mem_in {m z : Int} {k : Nat} (h : (mem m)[k]? = some z) : 0 ≤ z ∧ z < 7 := by
  obtain ⟨i, hi, rfl⟩ := mem_get h
  have := (members_lt (List.mem_of_getElem? hi)).1
  omega
end Vw
set_option maxHeartbeats 1000000 in
set_option maxRecDepth 100000 in
theorem viewMeets_core (cN : NextC14) (cW : WhoC14) (cMo : MostC14) (cA : AfterC14) (cMe : MembersC14) (cAw : AwakeC14) (w : World) (a b n p i k : Int) :
    Calls Try.prog 6 #[.int .i64 a, .int .i64 b, .int .i64 n, .int .i64 p, .int .i64 i, .int .i64 k] w fun e w' => e = .returned (.bool true) ∧ Below w.heap.size w w' := by
  obtain ⟨x, hx, x0, x1⟩ : ∃ x, bits .and .i64 a 127 = x ∧ 0 ≤ x ∧ x < 128 := ⟨_, and_127 a, by omega, by omega⟩
  obtain ⟨y, hy, y0, y1⟩ : ∃ x, bits .and .i64 b 127 = x ∧ 0 ≤ x ∧ x < 128 := ⟨_, and_127 b, by omega, by omega⟩
  obtain ⟨q, hq, q0, q1⟩ : ∃ x, bits .and .i64 n 255 = x ∧ 0 ≤ x ∧ x < 256 := ⟨_, and_255 n, by omega, by omega⟩
  obtain ⟨r, hr, r0, r1⟩ : ∃ x, bits .and .i64 i 255 = x ∧ 0 ≤ x ∧ x < 256 := ⟨_, and_255 i, by omega, by omega⟩
  obtain ⟨s, hs, s0, s1⟩ : ∃ x, bits .and .i64 k 255 = x ∧ 0 ≤ x ∧ x < 256 := ⟨_, and_255 k, by omega, by omega⟩
  obtain ⟨v, hv, v0, v1⟩ : ∃ x, bits .and .i64 p 1048575 = x ∧ 0 ≤ x ∧ x < 1048576 := ⟨p % 1048576, by simpa using and_mask p 20 (by omega), by omega, by omega⟩
  obtain ⟨u, hu, u0, u1⟩ : ∃ x, bits .and .i64 v 7 = x ∧ 0 ≤ x ∧ x < 8 := ⟨_, and_7 v, by omega, by omega⟩
  obtain ⟨g, hg, g0, g1⟩ : ∃ z, bits .and .i64 x y = z ∧ 0 ≤ z ∧ z < 128 := ⟨_, rfl, Vw.and_in ⟨x0, x1⟩ ⟨y0, y1⟩⟩
  go_enter Try.func6, Try.ntmps6
  go_upto_region 3 with fail
  obtain ⟨N, hN, N0, N1⟩ : ∃ N, q % 7 + 1 = N ∧ 1 ≤ N ∧ N ≤ 7 := ⟨_, rfl, by omega, by omega⟩
  obtain ⟨I, hI, I0, I1⟩ : ∃ I, r % 7 = I ∧ 0 ≤ I ∧ I ≤ 6 := ⟨_, rfl, by omega, by omega⟩
  obtain ⟨J, hJ, J0, J1⟩ : ∃ J, s % 7 = J ∧ 0 ≤ J ∧ J ≤ 6 := ⟨_, rfl, by omega, by omega⟩
  rw [hN, hI, hJ]
  clear hN hI hJ hx hy hq hr hs hv
  clear q0 q1 r0 r1 s0 s1
  have HX := Lib.hid (And.intro x0 x1)
  have HY := Lib.hid (And.intro y0 y1)
  have HAN : Hid (Vw.most x N = true → Vw.most y N = true → (Vw.mem g).length ≠ 0) := Lib.hid (fun h1 h2 => by
    have := Vw.and_some ⟨x0, x1⟩ ⟨y0, y1⟩ h1 h2
    rw [hg] at this; omega)
  have C1 := fun wx => cMo wx x N ⟨by omega, by omega⟩ ⟨by omega, by omega⟩
  have C2 := fun wx => cMo wx y N ⟨by omega, by omega⟩ ⟨by omega, by omega⟩
  have C3 := fun wx => cMe wx g ⟨by omega, by omega⟩
  obtain ⟨X, hX, X0, X1, X2⟩ : ∃ X, Vw.next v I = X ∧ v < X ∧ X < 2097152 ∧ Vw.who X = I := ⟨_, rfl, Vw.next_rises v I (by omega) (by omega), by unfold Vw.next; omega, Vw.who_next v I I0 I1⟩
  obtain ⟨Y, hY, Y0, Y1, Y2⟩ : ∃ X, Vw.next (v + u) J = X ∧ v + u < X ∧ X < 2097152 ∧ Vw.who X = J := ⟨_, rfl, Vw.next_rises _ J (by omega) (by omega), by unfold Vw.next; omega, Vw.who_next _ J J0 J1⟩
  obtain ⟨Z, hZ, Z0, Z1⟩ : ∃ Z, Vw.next X J = Z ∧ X < Z ∧ Z < 4194304 := ⟨_, rfl, Vw.next_rises _ J (by omega) (by omega), by unfold Vw.next; omega⟩
  have HXY : Hid (I ≠ J → X ≠ Y) := Lib.hid (fun h e => h (by rw [← X2, ← Y2, e]))
  have D1 := fun wx => cN wx v I ⟨by omega, by omega⟩ ⟨by omega, by omega⟩
  have D2 := fun wx => cN wx (v + u) J ⟨by omega, by omega⟩ ⟨by omega, by omega⟩
  have D3 := fun wx => cN wx X J ⟨by omega, by omega⟩ ⟨by omega, by omega⟩
  have D4 := fun wx => cW wx X ⟨by omega, by omega⟩
  have D5 := fun wx => cMe wx x ⟨by omega, by omega⟩
  rw [hX] at D1
  rw [hY] at D2
  rw [hZ] at D3
  rw [X2] at D4
  clear hX hY hZ X2 Y2
  go_cut [49] from 34 to 48 (fun s49 wx => s49 = .bool false ∧ Hid (Below w.heap.size w wx))
  case first =>
    cases e1 : Vw.most x N with
    | false =>
      rw [e1] at C1
      go_wp2_with (first
        | (go_at_call_of 11 (Value.int .i64 x); refine (C1 _).mono ?_; rintro e w1 ⟨rfl, hb1⟩)
        | fail)
      go_meet
      exact ⟨rfl, Lib.hid hb1⟩
    | true =>
      cases e2 : Vw.most y N with
      | false =>
        rw [e1] at C1
        rw [e2] at C2
        go_wp2_with (first
          | (go_at_call_of 11 (Value.int .i64 x); refine (C1 _).mono ?_; rintro e w1 ⟨rfl, hb1⟩)
          | (go_at_call_of 11 (Value.int .i64 y); refine (C2 _).mono ?_; rintro e w2 ⟨rfl, hb2⟩)
          | fail)
        go_meet
        exact ⟨rfl, Lib.hid (hb1.trans (hb2.mono hb1.size))⟩
      | true =>
        have hne := HAN.out e1 e2
        rw [e1] at C1
        rw [e2] at C2
        obtain ⟨L, hL⟩ : ∃ L, (Vw.mem g).length = L := ⟨_, rfl⟩
        unfold MadeI at C3
        rw [hL] at C3 hne
        go_wp2_with (first
          | (go_at_call_of 11 (Value.int .i64 x); refine (C1 _).mono ?_; rintro e w1 ⟨rfl, hb1⟩)
          | (go_at_call_of 11 (Value.int .i64 y); refine (C2 _).mono ?_; rintro e w2 ⟨rfl, hb2⟩)
          | (go_at_call 10; refine (C3 _).mono ?_; rintro e w3 ⟨A3, c3, rfl, ho3, hB3, hb3⟩)
          | fail)
        go_meet
        have b12 := hb1.trans (hb2.mono hb1.size)
        have hz : ((L : Int) == 0) = false := by simp; omega
        exact ⟨congrArg Value.bool hz, Lib.hid (b12.trans (hb3.mono b12.size))⟩
  case rest =>
    obtain ⟨rfl, HB1⟩ := hcut
    rename World => w1
    clear C1 C2 C3 HAN hg g0 g1
    go_upto_region 6 with (first
      | (go_at_call_of 13 (Value.int .i64 v); refine (D1 _).mono ?_; rintro e w2 ⟨rfl, hb2⟩)
      | (go_at_call_of 13 (Value.int .i64 (v + u)); refine (D2 _).mono ?_; rintro e w3 ⟨rfl, hb3⟩)
      | fail)
    have hb13 := hb2.trans (hb3.mono hb2.size)
    have HB3 := Lib.hid (HB1.out.trans (hb13.mono HB1.out.size))
    clear hb2 hb3 hb13
    go_cut [84] from 59 to 83 (fun s84 wx => s84 = .bool false ∧ Hid (Below w.heap.size w wx))
    case first =>
      cases hIJ : (I != J) with
      | false =>
        go_wp2_with (first
          | (go_at_call_of 13 (Value.int .i64 X); refine (D3 _).mono ?_; rintro e w4 ⟨rfl, hb4⟩)
          | (go_at_call 15; refine (D4 _).mono ?_; rintro e w5 ⟨rfl, hb5⟩)
          | fail)
        go_meet
        have b := hb5.trans (hb4.mono hb5.size)
        exact ⟨congrArg Value.bool (by simp; omega), Lib.hid (HB3.out.trans (b.mono HB3.out.size))⟩
      | true =>
        have hne : (X == Y) = false := by
          have := HXY.out (by simpa using hIJ)
          simpa using this
        go_wp2_with (first
          | (go_at_call_of 13 (Value.int .i64 X); refine (D3 _).mono ?_; rintro e w4 ⟨rfl, hb4⟩)
          | (go_at_call 15; refine (D4 _).mono ?_; rintro e w5 ⟨rfl, hb5⟩)
          | fail)
        go_meet
        have b := hb5.trans (hb4.mono hb5.size)
        exact ⟨congrArg Value.bool (by simp; omega), Lib.hid (HB3.out.trans (b.mono HB3.out.size))⟩
    case rest =>
      obtain ⟨rfl, HB4⟩ := hcut
      rename World => w4
      clear D1 D2 D3 D4 HXY X0 X1 Y0 Y1 Z0 Z1
      obtain ⟨n, hn⟩ : ∃ n, (Vw.mem x).length = n := ⟨_, rfl⟩
      have hn7 : n ≤ 7 := by have := Vw.members_len x; rw [Vw.mem_len] at hn; omega
      unfold MadeI at D5
      rw [hn] at D5
      have HL := Lib.hid hn
      clear hn
      go_upto_if 89 with (first
        | (go_at_call 10; refine (D5 _).mono ?_; rintro e w5 ⟨A, c, rfl, ho, hB5, hb5⟩)
        | fail)
      have H := Lib.hid (Rd.own_ ho)
      have HB5 := Lib.hid (HB4.out.trans (hb5.mono HB4.out.size))
      clear ho hB5 hb5 D5
      obtain ⟨at0, hat0⟩ : ∃ z, ((Vw.mem x)[0]?).getD (-1) = z := ⟨_, rfl⟩
      have HAT := Lib.hid hat0
      have hir : In64 at0 := by
        rw [← hat0]
        cases h : (Vw.mem x)[0]? with
        | none => exact ⟨by decide, by decide⟩
        | some z =>
          obtain ⟨i, hi, rfl⟩ := Vw.mem_get h
          have := (Vw.members_lt (List.mem_of_getElem? hi)).1
          show -9223372036854775808 ≤ (i : Int) ∧ (i : Int) ≤ 9223372036854775807
          omega
      clear hat0
      go_cut [16] from 90 to 92 (fun s16 wx => s16 = .int .i64 at0 ∧ wx = w5)
      case first =>
        cases n with
        | zero =>
          have e0 : at0 = -1 := by rw [← HAT.out, List.getElem?_eq_none (by have := HL.out; omega)]; rfl
          subst e0
          go_wp2_with fail
          go_meet
          exact ⟨rfl, rfl⟩
        | succ n =>
          obtain ⟨z, hz⟩ : ∃ z, (Vw.mem x)[0]? = some z := ⟨_, List.getElem?_eq_getElem (by have := HL.out; omega)⟩
          have e0 : at0 = z := by rw [← HAT.out, hz]; rfl
          subst e0
          obtain ⟨bb, o, rfl, _⟩ := H.out.int_at (show 0 < n + 1 by omega)
          have hc := H.out.int_cell (show 0 < n + 1 by omega) hz
          simp only [Nat.add_zero] at hc
          clear hz
          go_wp2_with fail
          go_meet
          exact ⟨rfl, rfl⟩
      case rest =>
        obtain ⟨rfl, rfl⟩ := hcut
        rename World => w5
        go_wp2_with fail
        go_loopw [16, 17, 95] (fun s16 s17 s95 wx => ∃ k : Nat, k ≤ n ∧ s95 = .int .i64 k ∧ s16 = .int .i64 (Vw.atK x k) ∧ Hid (Below w5.heap.size w5 wx)) (fun _ _ s95 _ => n - (intOf s95).toNat)
        case atStart => exact ⟨0, Nat.zero_le _, rfl, by rw [Vw.atK_zero HAT.out], Lib.hid (Below.refl _ _)⟩
        case round =>
          obtain ⟨k, hk, rfl, rfl, HB6⟩ := hrel
          rename World => w6
          by_cases hlt : k < n
          · obtain ⟨z, hz⟩ : ∃ z, (Vw.mem x)[k]? = some z := ⟨_, List.getElem?_eq_getElem (by have := HL.out; omega)⟩
            have hzi := Vw.mem_in hz
            rw [Vw.atK_is hz]
            have H6 := H.out.below HB6.out
            obtain ⟨bb, o, rfl, _⟩ := H6.int_at hlt
            have hc := H6.int_cell hlt hz
            have CA := fun wx => cA wx x z ⟨by omega, by omega⟩ ⟨by omega, by omega⟩
            rw [Vw.atK_next hz] at CA
            clear hz H6
            go_wp2_with (first
              | (go_at_call 20; refine (CA _).mono ?_; rintro e w7 ⟨rfl, hb7⟩)
              | fail)
            go_roundw
            case rel => exact ⟨k + 1, by omega, by go_num, rfl, Lib.hid (HB6.out.trans (hb7.mono HB6.out.size))⟩
            case measure => simp [intOf]; omega
          · obtain rfl : k = n := by omega
            rw [Vw.atK_end HL.out HAT.out]
            have HBE := Lib.hid (HB5.out.trans (HB6.out.mono HB5.out.size))
            cases k with
            | zero =>
              go_wp2_with (first
                | (go_at_call 9; refine (cAw _).mono ?_; rintro e w7 ⟨rfl, hb7⟩)
                | fail)
              go_ret
              exact ⟨rfl, HBE.out.trans (hb7.mono HBE.out.size)⟩
            | succ k =>
              obtain ⟨z, hz⟩ : ∃ z, (Vw.mem x)[0]? = some z := ⟨_, List.getElem?_eq_getElem (by have := HL.out; omega)⟩
              have e0 : at0 = z := by rw [← HAT.out, hz]; rfl
              subst e0
              have H6 := H.out.below HB6.out
              obtain ⟨bb, o, rfl, _⟩ := H6.int_at (show 0 < k + 1 by omega)
              have hc := H6.int_cell (show 0 < k + 1 by omega) hz
              simp only [Nat.add_zero] at hc
              clear hz H6
              go_wp2_with (first
                | (go_at_call 9; refine (cAw _).mono ?_; rintro e w7 ⟨rfl, hb7⟩)
                | fail)
              go_ret
              exact ⟨rfl, HBE.out.trans (hb7.mono HBE.out.size)⟩
end Go.Proofs.Ytjindkeojhihdaa
