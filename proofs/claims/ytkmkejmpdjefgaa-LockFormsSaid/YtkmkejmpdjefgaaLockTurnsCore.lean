/- LockTurns: the walk, over any contracts of the code's. -/
import Derived.Test.YtkmkejmpdjefgaaLockOneCore
namespace Go.Proofs.Ytkmkejmpdjefgaa
open Go.RowKit
set_option linter.unusedVariables false
/-- those who wait -/
def turn (n : Nat) : List Int := (List.range n).map fun (i : Nat) => (100 : Int) + (i : Int)
theorem turn_take : ∀ i, i < 5 → takeS (turn i) (100 + (i : Int)) = turn (i + 1) ∧ takeE (turn i) (100 + (i : Int)) = 0 ∧ takeN (turn i) (100 + (i : Int)) = (i : Int) ∧ (turn i).length = i := by decide
theorem turn_free : ∀ n, n < 6 → ∀ i, i < n → ((turn n).drop i).erase (100 + (i : Int)) = (turn n).drop (i + 1) ∧ freeE ((turn n).drop i) (100 + (i : Int)) = 0 ∧ freeN ((turn n).drop i) (100 + (i : Int)) = (if i = n - 1 then -1 else 101 + (i : Int)) ∧
    ownerE ((turn n).drop i) = 0 ∧ ownerN ((turn n).drop i) = 100 + (i : Int) ∧ ((turn n).drop i).length = n - i ∧ ((turn n).drop i).Nodup := by decide
/-- the lock reads as L -/
structure RdL (w wr : World) (A : Option Addr) (n c : Nat) (L : List Int) : Prop where
  r : Rd wr wr.heap.size A n (iv L)
  le : n ≤ c
  bel : Below w.heap.size w wr
set_option maxHeartbeats 4000000 in
set_option maxRecDepth 100000 in
theorem lockTurns_core (hT : TakeC) (hF : FreeC) (hO : OwnerC) (hA : AwakeC6) (a0 : Int) (w : World) :
    Calls Try.prog 4 #[.int .i64 a0] w fun e w' => e = .returned (.bool true) ∧ Below w.heap.size w w' := by
  have e1 := and_255 a0
  obtain ⟨n, hn, hn5, hn0⟩ : ∃ n : Nat, a0 % 256 % 5 + 1 = (n : Int) ∧ n ≤ 5 ∧ 0 < n := by
    have h1 := Int.emod_nonneg a0 (show (256 : Int) ≠ 0 by omega)
    exact ⟨(a0 % 256 % 5 + 1).toNat, by omega, by omega, by omega⟩
  have HN := Lib.hid hn
  clear hn
  go_enter Try.func4, Try.ntmps4
  go_upto_region 2 with fail
  rw [HN.out]
  clear e1
  generalize a0 % 256 % 5 = y14
  generalize a0 % 256 = y13
  go_wp2_with fail
  go_loopw [3, 4] (fun s3 s4 wr => ∃ (i c : Nat) (A : Option Addr), i ≤ n ∧ s4 = .int .i64 (i : Int) ∧ s3 = .slice A i c ∧ Hid (RdL w wr A i c (turn i))) (fun _ s4 _ => n - (intOf s4).toNat)
  case atStart => exact ⟨0, 0, none, Nat.zero_le _, rfl, rfl, Lib.hid ⟨Rd.none_ _ _ _, Nat.le_refl _, Below.refl _ _⟩⟩
  case round =>
    obtain ⟨i, c, A, hi, rfl, rfl, HS⟩ := hrel
    by_cases hlt : i < n
    · have hk1 : (i : Int) < (n : Int) := by omega
      have hwi : IntKind.i64.wrap ((i : Int) + 1) = (i : Int) + 1 := IntWalk.i64_in _ (by omega)
      have hwh : IntKind.i64.wrap (100 + (i : Int)) = 100 + (i : Int) := IntWalk.i64_in _ (by omega)
      obtain ⟨t1, t2, t3, t4⟩ := turn_take i (by omega)
      obtain ⟨_, _, _, t5⟩ : _ ∧ _ ∧ _ ∧ (turn (i + 1)).length = i + 1 := ⟨trivial, trivial, trivial, by simp [turn]⟩
      have HC : Hid (Calls Try.prog 9 #[.slice A i c, .int .i64 (100 + (i : Int))] wr (GotIR w wr (turn (i + 1)) 0 (i : Int))) := Lib.hid (by have h := hT (W := w) (100 + (i : Int)) (by omega) HS.out.le HS.out.r HS.out.bel; rw [t1, t2, t3] at h; exact h)
      have HT5 := Lib.hid t5
      clear t1 t2 t3 t4 t5
      go_wp2_with fail
      refine HC.out.mono ?_
      rintro e w1 ⟨A1, c1, A2, c2, rfl, hq, hv, hB1, _⟩
      unfold resV
      rw [HT5.out] at hq ⊢
      have b2 : Below w1.heap.size w1 (w1.alloc (.cells #[.int .i64 0, .slice A2 0 c2, .int .i64 (i : Int)] 28)) := (Below.refl _ _).alloc (Nat.le_refl _) _
      obtain ⟨x0, x1, x2, _, _, _⟩ := three (Blk.new w1 28 #[.int .i64 0, .slice A2 0 c2, .int .i64 (i : Int)])
      have HS2 : Hid (RdL w (w1.alloc (.cells #[.int .i64 0, .slice A2 0 c2, .int .i64 (i : Int)] 28)) A1 (i + 1) c1 (turn (i + 1))) := Lib.hid ⟨((Rd.own_ hq).below b2).fit, ownI_cap hq, hB1.alloc hB1.size _⟩
      clear hq hv hB1 b2 HC HS HT5
      go_wp2_with fail
      go_roundw
      case rel => exact ⟨i + 1, c1, A1, by omega, by go_num, rfl, HS2⟩
      case measure => simp [intOf]; omega
    · obtain rfl : i = n := by omega
      clear hlt hi
      have HS1 : Hid (RdL w wr A (i - 0) c ((turn i).drop 0)) := HS
      clear HS
      go_wp2_with fail
      go_loopw [3, 7] (fun s3 s7 wr => ∃ (j c : Nat) (A : Option Addr), j ≤ i ∧ s7 = .int .i64 (j : Int) ∧ s3 = .slice A (i - j) c ∧ Hid (RdL w wr A (i - j) c ((turn i).drop j))) (fun _ s7 _ => i - (intOf s7).toNat)
      case atStart => exact ⟨0, c, A, Nat.zero_le _, rfl, rfl, HS1⟩
      case round =>
        clear HS1
        obtain ⟨j, c, A, hj, rfl, rfl, HS⟩ := hrel
        by_cases hlt : j < i
        · have hk1 : (j : Int) < (i : Int) := by omega
          have hwj : IntKind.i64.wrap ((j : Int) + 1) = (j : Int) + 1 := IntWalk.i64_in _ (by omega)
          have hwh : IntKind.i64.wrap (100 + (j : Int)) = 100 + (j : Int) := IntWalk.i64_in _ (by omega)
          have hwm : IntKind.i64.wrap ((i : Int) - 1) = (i : Int) - 1 := IntWalk.i64_in _ (by omega)
          obtain ⟨t1, t2, t3, t4, t5, t6, t7⟩ := turn_free i (by omega) j hlt
          have t8 : ((turn i).drop (j + 1)).length = i - (j + 1) := by simp [turn]
          obtain ⟨N, hN⟩ : ∃ N : Int, (if j = i - 1 then -1 else 101 + (j : Int)) = N := ⟨_, rfl⟩
          rw [hN] at t3
          have HNN := Lib.hid hN
          have HC : Hid (Calls Try.prog 12 #[.slice A (i - j) c] wr (GotR w wr 0 [] (100 + (j : Int)))) := Lib.hid (by have h := hO (W := w) (by omega) HS.out.le HS.out.r HS.out.bel; rw [t4, t5] at h; exact h)
          have HF : Hid (∀ w', Below wr.heap.size wr w' → Calls Try.prog 8 #[.slice A (i - j) c, .int .i64 (100 + (j : Int))] w' (GotIR w w' ((turn i).drop (j + 1)) 0 N)) := Lib.hid (fun w' hb => by have h := hF (W := w) (100 + (j : Int)) (by omega) HS.out.le t7 (HS.out.r.below hb) (HS.out.bel.trans (hb.mono HS.out.bel.size)); rw [t1, t2, t3] at h; exact h)
          have HT8 := Lib.hid t8
          clear t1 t2 t3 t4 t5 t6 t7 t8 hN
          go_wp2_with fail
          refine HC.out.mono ?_
          rintro e w1 ⟨A1, c1, rfl, hv, hB1, hb1⟩
          unfold resV
          rw [List.length_nil]
          have b2 : Below w1.heap.size w1 (w1.alloc (.cells #[.int .i64 0, .slice A1 0 c1, .int .i64 (100 + (j : Int))] 28)) := (Below.refl _ _).alloc (Nat.le_refl _) _
          obtain ⟨x0, x1, x2, _, _, _⟩ := three (Blk.new w1 28 #[.int .i64 0, .slice A1 0 c1, .int .i64 (100 + (j : Int))])
          have HBB := Lib.hid (hb1.trans (b2.mono hb1.size))
          clear hv hB1 hb1 b2 HC
          go_upto_region 16 with fail
          clear x0 x1 x2
          go_wp2_with fail
          refine (HF.out _ HBB.out).mono ?_
          rintro e w3 ⟨A3, c3, A4, c4, rfl, hq, hv, hB3, hb3⟩
          unfold resV
          rw [HT8.out] at hq ⊢
          have b4 : Below w3.heap.size w3 (w3.alloc (.cells #[.int .i64 0, .slice A4 0 c4, .int .i64 N] 28)) := (Below.refl _ _).alloc (Nat.le_refl _) _
          obtain ⟨x0, x1, x2, _, _, _⟩ := three (Blk.new w3 28 #[.int .i64 0, .slice A4 0 c4, .int .i64 N])
          have HS2 : Hid (RdL w (w3.alloc (.cells #[.int .i64 0, .slice A4 0 c4, .int .i64 N] 28)) A3 (i - (j + 1)) c3 ((turn i).drop (j + 1))) := Lib.hid ⟨((Rd.own_ hq).below b4).fit, ownI_cap hq, hB3.alloc hB3.size _⟩
          clear hq hv hB3 hb3 b4 HF HBB HT8 HS
          by_cases hl : j = i - 1
          · have hN : N = -1 := by rw [← HNN.out, if_pos hl]
            subst hN
            have hji : ((j : Int) == (i : Int) - 1) = true := by simp; omega
            have hji2 : (j : Int) = (i : Int) - 1 := by omega
            clear hji2 HNN hl
            go_wp2_with fail
            go_roundw
            case rel => exact ⟨j + 1, c3, A3, by omega, by go_num, rfl, HS2⟩
            case measure => simp [intOf]; omega
          · have hN : N = 101 + (j : Int) := by rw [← HNN.out, if_neg hl]
            subst hN
            have hji : ((j : Int) == (i : Int) - 1) = false := by simp; omega
            have hwh2 : IntKind.i64.wrap (101 + (j : Int)) = 101 + (j : Int) := IntWalk.i64_in _ (by omega)
            clear HNN
            go_wp2_with fail
            go_roundw
            case rel => exact ⟨j + 1, c3, A3, by omega, by go_num, rfl, HS2⟩
            case measure => simp [intOf]; omega
        · obtain rfl : j = i := by omega
          rw [Nat.sub_self] at HS ⊢
          have hd : (turn j).drop j = [] := by simp [turn]
          have HC : Hid (Calls Try.prog 12 #[.slice A 0 c] wr (GotR w wr 5 [] 0)) := Lib.hid (by have h := hO (W := w) (by omega) HS.out.le HS.out.r HS.out.bel; rw [hd] at h; exact h)
          have kf0 : ∀ (e N : Int) (A : Option Addr) (n c : Nat) (w : World), (Instr.field 28 (.agg #[.int .i64 e, .slice A n c, .int .i64 N]) 0).run Try.prog w = .ok (.int .i64 e) w := fun _ _ _ _ _ _ => rfl
          clear hd hlt hj HS
          go_wp2_with fail
          refine HC.out.mono ?_
          rintro e w1 ⟨A1, c1, rfl, hv, hB1, hb1⟩
          unfold resV
          clear hv
          go_wp2_with (go_at_call 11; refine (hA _).mono ?_; rintro e w9 ⟨rfl, hb⟩)
          go_ret
          exact ⟨rfl, hB1.trans (hb.mono hB1.size)⟩
end Go.Proofs.Ytkmkejmpdjefgaa
