/- SessOnce: the walk, over any contracts of the code's. -/
import Derived.Test.YtcmjpjhaaookfaaSessC0
import Derived.Test.YtcmjpjhaaookfaaBitsKit
import Derived.Test.YtcmjpjhaaookfaaConstKit
namespace Go.Proofs.Ytcmjpjhaaookfaa
open Go.RowKit
set_option linter.unusedVariables false
/-- the last call of session s, number x -/
def one9 (s : Int) (x : Nat) : Ls := ⟨s, (x : Int), 0, [], (x : Int)⟩
/-- the table: nobody came yet, or both did -/
def two9 (b : Bool) (x y : Nat) : List Ls := if b = true then [one9 3 x, one9 9 y] else []
/-- .. the first alone came anew -/
def mid9 (b : Bool) (x y : Nat) : List Ls := if b = true then [one9 3 x, one9 9 y] else [one9 3 x]
theorem one9_ok {s : Int} {x : Nat} (hs : 1 ≤ s ∧ s ≤ 100) (hx : 1 ≤ x ∧ x ≤ 1000) : Tb.named (one9 s x).s (one9 s x).q ∧ (one9 s x).v.length ≤ 16 ∧ ∀ k ∈ (one9 s x).v, k < 256 :=
  ⟨⟨by show 1 ≤ s; omega, by show (1 : Int) ≤ (x : Int); omega, by show s ≤ 1073741824; omega, by show (x : Int) ≤ 1073741824; omega⟩, Nat.zero_le _, fun k hk => by cases hk⟩
theorem two9_rises {x y : Nat} : Tb.Rises [one9 3 x, one9 9 y] := by
  refine List.pairwise_cons.2 ⟨fun m hm => ?_, List.pairwise_cons.2 ⟨fun m hm => (by cases hm), List.Pairwise.nil⟩⟩
  simp at hm; subst hm; show (3 : Int) < 9; omega
theorem pair9_ok {x y : Nat} (hx : 1 ≤ x ∧ x ≤ 1000) (hy : 1 ≤ y ∧ y ≤ 1000) : Tb.Ok [one9 3 x, one9 9 y] :=
  ⟨two9_rises, by simp, fun m hm => by
    simp at hm
    rcases hm with rfl | rfl
    · exact one9_ok (by omega) hx
    · exact one9_ok (by omega) hy⟩
theorem single9_ok {x : Nat} (hx : 1 ≤ x ∧ x ≤ 1000) : Tb.Ok [one9 3 x] :=
  ⟨List.pairwise_cons.2 ⟨fun m hm => (by cases hm), List.Pairwise.nil⟩, by simp, fun m hm => by
    simp at hm
    subst hm
    exact one9_ok (by omega) hx⟩
theorem two9_ok {b : Bool} {x y : Nat} (h : b = true → (1 ≤ x ∧ x ≤ 1000) ∧ 1 ≤ y ∧ y ≤ 1000) : Tb.Ok (two9 b x y) := by
  cases b with
  | false => exact Tb.Ok.nil
  | true => exact pair9_ok (h rfl).1 (h rfl).2
theorem mid9_ok {b : Bool} {x y : Nat} (hx : 1 ≤ x ∧ x ≤ 1000) (h : b = true → 1 ≤ y ∧ y ≤ 1000) : Tb.Ok (mid9 b x y) := by
  cases b with
  | false => exact single9_ok hx
  | true => exact pair9_ok hx (h rfl)
theorem new9 {b : Bool} {x y X : Nat} (h : b = true → x < X) (hX : 1 ≤ X ∧ X ≤ 1000) : Tb.look (two9 b x y) 3 (X : Int) = ⟨0, [], 0, 0⟩ := by
  unfold Tb.look
  rw [if_pos ⟨by omega, by omega, by omega, by omega⟩]
  cases b with
  | false => rfl
  | true =>
    have h := h rfl
    show (if (X : Int) < (x : Int) then _ else if (X : Int) = (x : Int) then _ else _) = _
    rw [if_neg (by omega), if_neg (by omega)]
theorem new9m {b : Bool} {x y Y : Nat} (h : b = true → y < Y) (hY : 1 ≤ Y ∧ Y ≤ 1000) : Tb.look (mid9 b x y) 9 (Y : Int) = ⟨0, [], 0, 0⟩ := by
  unfold Tb.look
  rw [if_pos ⟨by omega, by omega, by omega, by omega⟩]
  cases b with
  | false => rfl
  | true =>
    have h := h rfl
    show (if (Y : Int) < (y : Int) then _ else if (Y : Int) = (y : Int) then _ else _) = _
    rw [if_neg (by omega), if_neg (by omega)]
theorem put_nine (b : Bool) (x y X : Nat) : Tb.put (two9 b x y) ⟨3, (X : Int), 0, [], (X : Int)⟩ = mid9 b X y := by
  cases b <;> rfl
theorem put9m (b : Bool) (X y Y : Nat) : Tb.put (mid9 b X y) ⟨9, (Y : Int), 0, [], (Y : Int)⟩ = [one9 3 X, one9 9 Y] := by
  cases b <;> rfl
theorem same9x {X Y : Nat} (hX : 1 ≤ X ∧ X ≤ 1000) : Tb.look [one9 3 X, one9 9 Y] 3 (X : Int) = ⟨0, [], (X : Int), 1⟩ := by
  unfold Tb.look
  rw [if_pos ⟨by omega, by omega, by omega, by omega⟩]
  show (if (X : Int) < (X : Int) then _ else if (X : Int) = (X : Int) then _ else _) = _
  rw [if_neg (by omega), if_pos rfl]
  rfl
theorem same9y {X Y : Nat} (hY : 1 ≤ Y ∧ Y ≤ 1000) : Tb.look [one9 3 X, one9 9 Y] 9 (Y : Int) = ⟨0, [], (Y : Int), 1⟩ := by
  unfold Tb.look
  rw [if_pos ⟨by omega, by omega, by omega, by omega⟩]
  show (if (Y : Int) < (Y : Int) then _ else if (Y : Int) = (Y : Int) then _ else _) = _
  rw [if_neg (by omega), if_pos rfl]
  rfl
theorem old9 {X Y : Nat} (hX : 1 ≤ X ∧ X ≤ 1000) (h : 1 < X) : Tb.look [one9 3 X, one9 9 Y] 3 ((X : Int) - 1) = ⟨8, [], 0, 2⟩ := by
  unfold Tb.look
  rw [if_pos ⟨by omega, by omega, by omega, by omega⟩]
  show (if (X : Int) - 1 < (X : Int) then _ else if (X : Int) - 1 = (X : Int) then _ else _) = _
  rw [if_pos (by omega)]
theorem no9 {X Y : Nat} (h : X = 1) : Tb.look [one9 3 X, one9 9 Y] 3 ((X : Int) - 1) = ⟨10, [], 0, 2⟩ := by
  unfold Tb.look
  rw [if_neg (by rintro ⟨_, h2, _, _⟩; omega)]
theorem two9_len (b : Bool) (x y : Nat) : (two9 b x y).length = if b = true then 2 else 0 := by cases b <;> rfl
theorem mid9_len (b : Bool) (x y : Nat) : (mid9 b x y).length = if b = true then 2 else 1 := by cases b <;> rfl
set_option maxHeartbeats 4000000 in
set_option maxRecDepth 100000 in
theorem sessOnce_core (hL : LookC9) (hP : PutC9) (hA : AwakeC9) (a0 : Option Addr) (len0 cap0 : Nat) (z0 : List Int) (a1 : Option Addr) (len1 cap1 : Nat) (z1 : List Int) (w : World) (w0 : IsRow .i64 w a0 len0 cap0 z0) (w1 : IsRow .i64 w a1 len1 cap1 z1) :
    Calls Try.prog 11 #[.slice a0 len0 cap0, .slice a1 len1 cap1] w fun e w' => e = .returned (.bool true) ∧ Below w.heap.size w w' := by
  obtain ⟨hz, hzl, hle0, hcap0⟩ := w0.ints
  obtain ⟨hy, hyl, hle1, hcap1⟩ := w1.ints
  obtain ⟨zs, hzs⟩ : ∃ zs, zs = z0.take len0 := ⟨_, rfl⟩
  obtain ⟨ys, hys⟩ : ∃ ys, ys = z1.take len1 := ⟨_, rfl⟩
  rw [← hzs] at hz hzl
  rw [← hys] at hy hyl
  have HZ := Lib.hid hz
  have HY := Lib.hid hy
  have HZL := Lib.hid hzl
  have HYL := Lib.hid hyl
  clear w0 w1 hcap0 hcap1 hzs hys hz hy hle0 hle1 hzl hyl
  go_enter Try.func11, Try.ntmps11
  go_wp2_with fail
  go_loopw [5, 6, 7, 8] (fun s5 s6 s7 s8 wr => ∃ (i x y n c' : Nat) (b : Bool) (A' : Option Addr), i ≤ 30 ∧ s8 = .int .i64 (i : Int) ∧ s6 = .int .i64 (x : Int) ∧ s7 = .int .i64 (y : Int) ∧ s5 = .slice A' n c' ∧ Hid (x ≤ 8 * i ∧ y ≤ 8 * i ∧ (b = true → 1 ≤ x ∧ 1 ≤ y)) ∧ Hid (OwnL w wr A' n c' (two9 b x y)) ∧ Hid (Below w.heap.size w wr)) (fun _ _ _ s8 _ => 30 - (intOf s8).toNat)
  case atStart => exact ⟨0, 0, 0, 0, 0, false, none, by omega, rfl, rfl, rfl, rfl, Lib.hid ⟨by omega, by omega, fun h => by cases h⟩, Lib.hid (OwnL.nil w w), Lib.hid (Below.refl _ _)⟩
  case round =>
    obtain ⟨i, x, y, n, c', b, A', hi, rfl, rfl, rfl, rfl, HK, HO, HB⟩ := hrel
    by_cases h1 : (i : Int) < (len0 : Int)
    · by_cases h2 : (i : Int) < (len1 : Int)
      · by_cases h3 : (i : Int) < 30
        · obtain ⟨p, hp⟩ : ∃ p, zs[i]? = some p := ⟨_, List.getElem?_eq_getElem (by have := HZL.out; omega)⟩
          obtain ⟨q, hq⟩ : ∃ q, ys[i]? = some q := ⟨_, List.getElem?_eq_getElem (by have := HYL.out; omega)⟩
          obtain ⟨d, hd, hd8⟩ : ∃ d : Nat, bits .and .i64 p 7 = (d : Int) ∧ d < 8 := ⟨(p % 8).toNat, by rw [and_7]; omega, by omega⟩
          obtain ⟨f, hf, hf8⟩ : ∃ f : Nat, bits .and .i64 q 7 = (f : Int) ∧ f < 8 := ⟨(q % 8).toNat, by rw [and_7]; omega, by omega⟩
          obtain ⟨b0, o0, rfl, _⟩ := (HZ.out.below HB.out).int_at (k := i) (by omega)
          obtain ⟨b1, o1, rfl, _⟩ := (HY.out.below HB.out).int_at (k := i) (by omega)
          have y0 := (HZ.out.below HB.out).int_cell (k := i) (by omega) hp
          have y1 := (HY.out.below HB.out).int_cell (k := i) (by omega) hq
          have hk := HK.out
          obtain ⟨X, hX⟩ : ∃ X, X = x + d + 1 := ⟨_, rfl⟩
          obtain ⟨Y, hY⟩ : ∃ Y, Y = y + f + 1 := ⟨_, rfl⟩
          have hw1 : IntKind.i64.wrap ((x : Int) + (d : Int)) = (x : Int) + (d : Int) := IntWalk.i64_in _ (by omega)
          have hw2 : IntKind.i64.wrap ((x : Int) + (d : Int) + 1) = (X : Int) := by rw [show (x : Int) + (d : Int) + 1 = (X : Int) by omega]; exact IntWalk.i64_in _ (by omega)
          have hw3 : IntKind.i64.wrap ((y : Int) + (f : Int)) = (y : Int) + (f : Int) := IntWalk.i64_in _ (by omega)
          have hw4 : IntKind.i64.wrap ((y : Int) + (f : Int) + 1) = (Y : Int) := by rw [show (y : Int) + (f : Int) + 1 = (Y : Int) by omega]; exact IntWalk.i64_in _ (by omega)
          have hw5 : IntKind.i64.wrap ((X : Int) - 1) = (X : Int) - 1 := IntWalk.i64_in _ (by omega)
          have hw6 : IntKind.i64.wrap ((i : Int) + 1) = (i : Int) + 1 := IntWalk.i64_in _ (by omega)
          have hx1 : 1 ≤ X ∧ X ≤ 1000 := by omega
          have hy1 : 1 ≤ Y ∧ Y ≤ 1000 := by omega
          have hi0 : (0 : Int) ≤ (i : Int) := by omega
          have HXY : Hid (X ≤ 8 * (i + 1) ∧ Y ≤ 8 * (i + 1) ∧ x < X ∧ y < Y) := Lib.hid (by omega)
          have hok1 : Tb.Ok (two9 b x y) := two9_ok (fun hb => by have := hk.2.2 hb; omega)
          have hok2 : Tb.Ok (mid9 b X y) := mid9_ok hx1 (fun hb => by have := hk.2.2 hb; omega)
          have hok3 : Tb.Ok [one9 3 X, one9 9 Y] := pair9_ok hx1 hy1
          have HP := Lib.hid hp
          have HQ := Lib.hid hq
          clear hp hq hk hX hY
          go_upto_region 6 with fail
          have y0d : wr.drew.cell? ⟨b0, o0 + i, none⟩ = some (.int .i64 p) := y0
          have y1d : wr.drew.cell? ⟨b1, o1 + i, none⟩ = some (.int .i64 q) := y1
          go_quiet (fail)
          clear y0 y1 y0d y1d
          have HO1 := Lib.hid (HO.out.below (belowN_dS _ nq))
          have HB1 := Lib.hid (HB.out.trans ((belowN_dS _ nq).mono HB.out.size))
          go_wp2_with fail
          refine (hL.is (W := w) 3 (X : Int) (e := 0) (v := []) (N := 0) (k := 0) (new9 (fun _ => HXY.out.2.2.1) hx1) hok1 HO1.out.cap HO1.out.rd HB1.out).mono ?_
          rintro e w2 ⟨A2, c2, rfl, _, hB, hb⟩
          unfold resV
          simp only [List.length_nil]
          have hb' := hb.alloc hb.size (.cells #[.int .i64 0, .slice A2 0 c2, .int .i64 0] 34)
          have HB2 := Lib.hid (hB.alloc hB.size (.cells #[.int .i64 0, .slice A2 0 c2, .int .i64 0] 34))
          have HK2 := Lib.hid (Blk.new w2 34 #[.int .i64 0, .slice A2 0 c2, .int .i64 0])
          have HO1 := Lib.hid (HO1.out.below hb')
          clear hB hb hb' HB1
          go_wp2_with fail
          refine (hP.is (W := w) (ls' := mid9 b X y) 3 (X : Int) 0 [] (X : Int) rfl (m := 0) (put_nine b x y X) hok1 ⟨by omega, by omega, by omega, by omega⟩ (by omega) (by simp) HO1.out.cap HO1.out.rd (Rd.none_ _ w.heap.size _) HB2.out).mono ?_
          rintro e w3 ⟨A3, c3, rfl, ho, hB, hb⟩
          obtain ⟨n3, hn3⟩ : ∃ k, k = (mid9 b X y).length := ⟨_, rfl⟩
          rw [← hn3] at ho ⊢
          have HN3 := Lib.hid hn3
          clear hn3
          have HO3 := Lib.hid ho
          have HB3 := Lib.hid hB
          clear hB hb ho HB2
          go_wp2_with fail
          refine (hL.is (W := w) 9 (Y : Int) (e := 0) (v := []) (N := 0) (k := 0) (new9m (fun _ => HXY.out.2.2.2) hy1) hok2 HO3.out.cap HO3.out.rd HB3.out).mono ?_
          rintro e w4 ⟨A4, c4, rfl, _, hB, hb⟩
          unfold resV
          simp only [List.length_nil]
          have hb' := hb.alloc hb.size (.cells #[.int .i64 0, .slice A4 0 c4, .int .i64 0] 34)
          have HB4 := Lib.hid (hB.alloc hB.size (.cells #[.int .i64 0, .slice A4 0 c4, .int .i64 0] 34))
          have HK4 := Lib.hid (Blk.new w4 34 #[.int .i64 0, .slice A4 0 c4, .int .i64 0])
          have HO3 := Lib.hid (HO3.out.below hb')
          clear hB hb hb' HB3
          go_wp2_with fail
          refine (hP.is (W := w) (ls' := [one9 3 X, one9 9 Y]) 9 (Y : Int) 0 [] (Y : Int) rfl (m := 0) (put9m b X y Y) hok2 ⟨by omega, by omega, by omega, by omega⟩ (by omega) (by simp) HO3.out.cap HO3.out.rd (Rd.none_ _ w.heap.size _) HB4.out).mono ?_
          rintro e w5 ⟨A5, c5, rfl, ho, hB, hb⟩
          have ho : OwnL w w5 A5 2 c5 [one9 3 X, one9 9 Y] := ho
          have HO5 := Lib.hid ho
          have HB5 := Lib.hid hB
          clear hB hb ho HB4
          go_wp2_with fail
          refine (hL.is (W := w) 3 (X : Int) (e := 0) (v := []) (N := (X : Int)) (k := 1) (same9x hx1) hok3 HO5.out.cap HO5.out.rd HB5.out).mono ?_
          rintro e w6 ⟨A6, c6, rfl, _, hB, hb⟩
          unfold resV
          simp only [List.length_nil]
          have hb' := hb.alloc hb.size (.cells #[.int .i64 0, .slice A6 0 c6, .int .i64 (X : Int)] 34)
          have HB6 := Lib.hid (hB.alloc hB.size (.cells #[.int .i64 0, .slice A6 0 c6, .int .i64 (X : Int)] 34))
          have HK6 := Lib.hid (Blk.new w6 34 #[.int .i64 0, .slice A6 0 c6, .int .i64 (X : Int)])
          have HO5 := Lib.hid (HO5.out.below hb')
          clear hB hb hb' HB5
          go_wp2_with fail
          refine (hL.is (W := w) 9 (Y : Int) (e := 0) (v := []) (N := (Y : Int)) (k := 1) (same9y hy1) hok3 HO5.out.cap HO5.out.rd HB6.out).mono ?_
          rintro e w7 ⟨A7, c7, rfl, _, hB, hb⟩
          unfold resV
          simp only [List.length_nil]
          have hb' := hb.alloc hb.size (.cells #[.int .i64 0, .slice A7 0 c7, .int .i64 (Y : Int)] 34)
          have HB7 := Lib.hid (hB.alloc hB.size (.cells #[.int .i64 0, .slice A7 0 c7, .int .i64 (Y : Int)] 34))
          have HK7 := Lib.hid (Blk.new w7 34 #[.int .i64 0, .slice A7 0 c7, .int .i64 (Y : Int)])
          have HO5 := Lib.hid (HO5.out.below hb')
          have HK6 := Lib.hid (HK6.out.below hb')
          clear hB hb hb' HB6
          by_cases hX1 : 1 < X
          · have hX2 : (1 : Int) < (X : Int) := by omega
            go_wp2_with fail
            refine (hL.is (W := w) 3 ((X : Int) - 1) (e := 8) (v := []) (N := 0) (k := 2) (old9 hx1 hX1) hok3 HO5.out.cap HO5.out.rd HB7.out).mono ?_
            rintro e w8 ⟨A8, c8, rfl, _, hB, hb⟩
            unfold resV
            simp only [List.length_nil]
            have hb' := hb.alloc hb.size (.cells #[.int .i64 8, .slice A8 0 c8, .int .i64 0] 34)
            have HB8 := Lib.hid (hB.alloc hB.size (.cells #[.int .i64 8, .slice A8 0 c8, .int .i64 0] 34))
            have HK8 := Lib.hid (Blk.new w8 34 #[.int .i64 8, .slice A8 0 c8, .int .i64 0])
            have HO5 := Lib.hid (HO5.out.below hb')
            have HK6 := Lib.hid (HK6.out.below hb')
            have HK7 := Lib.hid (HK7.out.below hb')
            clear hB hb hb' HB7
            obtain ⟨x0, x1, x2, _, _, _⟩ := three HK6.out
            obtain ⟨y0, y1, y2, _, _, _⟩ := three HK7.out
            obtain ⟨z0, z1, z2, _, _, _⟩ := three HK8.out
            have hxx : ((X : Int) != (X : Int)) = false := by simp
            have hyy : ((Y : Int) != (Y : Int)) = false := by simp
            go_wp2_with fail
            go_roundw
            case rel => exact ⟨i + 1, X, Y, 2, c5, true, A5, by omega, by go_num, rfl, rfl, rfl, Lib.hid ⟨HXY.out.1, HXY.out.2.1, fun _ => ⟨hx1.1, hy1.1⟩⟩, HO5, HB8⟩
            case measure => simp only [intOf]; omega
          · have hX2 : ¬ (1 : Int) < (X : Int) := by omega
            go_wp2_with fail
            refine (hL.is (W := w) 3 ((X : Int) - 1) (e := 10) (v := []) (N := 0) (k := 2) (no9 (by omega)) hok3 HO5.out.cap HO5.out.rd HB7.out).mono ?_
            rintro e w8 ⟨A8, c8, rfl, _, hB, hb⟩
            unfold resV
            simp only [List.length_nil]
            have hb' := hb.alloc hb.size (.cells #[.int .i64 10, .slice A8 0 c8, .int .i64 0] 34)
            have HB8 := Lib.hid (hB.alloc hB.size (.cells #[.int .i64 10, .slice A8 0 c8, .int .i64 0] 34))
            have HK8 := Lib.hid (Blk.new w8 34 #[.int .i64 10, .slice A8 0 c8, .int .i64 0])
            have HO5 := Lib.hid (HO5.out.below hb')
            have HK6 := Lib.hid (HK6.out.below hb')
            have HK7 := Lib.hid (HK7.out.below hb')
            clear hB hb hb' HB7
            obtain ⟨x0, x1, x2, _, _, _⟩ := three HK6.out
            obtain ⟨y0, y1, y2, _, _, _⟩ := three HK7.out
            obtain ⟨z0, z1, z2, _, _, _⟩ := three HK8.out
            have hxx : ((X : Int) != (X : Int)) = false := by simp
            have hyy : ((Y : Int) != (Y : Int)) = false := by simp
            go_wp2_with fail
            go_roundw
            case rel => exact ⟨i + 1, X, Y, 2, c5, true, A5, by omega, by go_num, rfl, rfl, rfl, Lib.hid ⟨HXY.out.1, HXY.out.2.1, fun _ => ⟨hx1.1, hy1.1⟩⟩, HO5, HB8⟩
            case measure => simp only [intOf]; omega
        · go_wp2_with fail
          refine (hA _).mono ?_
          rintro e w2 ⟨rfl, hb2⟩
          go_wp2_with fail
          go_ret
          exact ⟨rfl, HB.out.trans (hb2.mono HB.out.size)⟩
      · go_wp2_with fail
        refine (hA _).mono ?_
        rintro e w2 ⟨rfl, hb2⟩
        go_wp2_with fail
        go_ret
        exact ⟨rfl, HB.out.trans (hb2.mono HB.out.size)⟩
    · go_wp2_with fail
      refine (hA _).mono ?_
      rintro e w2 ⟨rfl, hb2⟩
      go_wp2_with fail
      go_ret
      exact ⟨rfl, HB.out.trans (hb2.mono HB.out.size)⟩
end Go.Proofs.Ytcmjpjhaaookfaa
