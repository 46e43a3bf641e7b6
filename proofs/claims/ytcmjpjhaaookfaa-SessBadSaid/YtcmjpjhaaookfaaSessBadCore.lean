/- SessBad: the walk, over any contracts of the code's. -/
import Derived.Test.YtcmjpjhaaookfaaSessC0
import Derived.Test.YtcmjpjhaaookfaaBitsKit
import Derived.Test.YtcmjpjhaaookfaaConstKit
namespace Go.Proofs.Ytcmjpjhaaookfaa
open Go.RowKit
set_option linter.unusedVariables false
/-- a row by hand -/
def RowOk9 (s q : Int) (ok : Bool) : Prop := Tb.look [] s q = if ok = true then ⟨0, [], 0, 0⟩ else ⟨10, [], 0, 2⟩
theorem blk_at9 (w : World) (cs : Array Value) (t : TypeId) {g : Nat} (hg : w.heap.size = g) : Blk (w.alloc (.cells cs t)) g t cs := by subst hg; exact Blk.new w t cs
set_option maxHeartbeats 2000000 in
set_option maxRecDepth 100000 in
theorem sessBad_core (hL : LookC9) (hA : AwakeC9) (a0 : Int) (w : World) :
    Calls Try.prog 8 #[.int .i64 a0] w fun e w' => e = .returned (.bool true) ∧ Below w.heap.size w w' := by
  have e1 := and_255 a0
  have h9 : (a0 % 256).tmod 9 = 0 ∨ (a0 % 256).tmod 9 = 1 ∨ (a0 % 256).tmod 9 = 2 ∨ (a0 % 256).tmod 9 = 3 ∨ (a0 % 256).tmod 9 = 4 ∨ (a0 % 256).tmod 9 = 5 ∨ (a0 % 256).tmod 9 = 6 ∨ (a0 % 256).tmod 9 = 7 ∨ (a0 % 256).tmod 9 = 8 := by
    rw [Int.tmod_eq_emod_of_nonneg (by omega)]; omega
  have H9 := Lib.hid h9
  clear h9
  go_enter Try.func8, Try.ntmps8
  go_upto_region 2 with fail
  go_cut [4] from 17 to 24 (fun s4 wx => ∃ (g : Nat) (t : TypeId) (s q : Int) (ok : Bool), s4 = .pointer (some ⟨g, 0, none⟩) ∧ Blk wx g t #[.int .i64 s, .int .i64 q, .bool ok] ∧ RowOk9 s q ok ∧ Below w.heap.size w wx)
  case first =>
    rcases H9.out with hj | hj | hj | hj | hj | hj | hj | hj | hj
    · go_wp2_with fail
      go_meet
      exact ⟨_, _, 1, 1, true, rfl, blk_at9 _ _ _ (by simp), rfl, ((Below.refl _ _).alloc (Nat.le_refl _) _).alloc (by simp) _⟩
    · go_wp2_with fail
      go_meet
      exact ⟨_, _, 1073741824, 1073741824, true, rfl, blk_at9 _ _ _ (by simp), rfl, ((Below.refl _ _).alloc (Nat.le_refl _) _).alloc (by simp) _⟩
    · go_wp2_with fail
      go_meet
      exact ⟨_, _, 0, 1, false, rfl, blk_at9 _ _ _ (by simp), rfl, ((Below.refl _ _).alloc (Nat.le_refl _) _).alloc (by simp) _⟩
    · go_wp2_with fail
      go_meet
      exact ⟨_, _, 1, 0, false, rfl, blk_at9 _ _ _ (by simp), rfl, ((Below.refl _ _).alloc (Nat.le_refl _) _).alloc (by simp) _⟩
    · go_wp2_with fail
      go_meet
      exact ⟨_, _, -1, 1, false, rfl, blk_at9 _ _ _ (by simp), rfl, ((Below.refl _ _).alloc (Nat.le_refl _) _).alloc (by simp) _⟩
    · go_wp2_with fail
      go_meet
      exact ⟨_, _, 1, -1, false, rfl, blk_at9 _ _ _ (by simp), rfl, ((Below.refl _ _).alloc (Nat.le_refl _) _).alloc (by simp) _⟩
    · go_wp2_with fail
      go_meet
      exact ⟨_, _, 1073741825, 1, false, rfl, blk_at9 _ _ _ (by simp), rfl, ((Below.refl _ _).alloc (Nat.le_refl _) _).alloc (by simp) _⟩
    · go_wp2_with fail
      go_meet
      exact ⟨_, _, 1, 1073741825, false, rfl, blk_at9 _ _ _ (by simp), rfl, ((Below.refl _ _).alloc (Nat.le_refl _) _).alloc (by simp) _⟩
    · go_wp2_with fail
      go_meet
      exact ⟨_, _, -9223372036854775808, 9223372036854775807, false, rfl, blk_at9 _ _ _ (by simp), rfl, ((Below.refl _ _).alloc (Nat.le_refl _) _).alloc (by simp) _⟩
  case rest =>
    obtain ⟨g, t, s, q, ok, rfl, hk, hok, hb⟩ := hcut
    have HK := Lib.hid hk
    have HB := Lib.hid hb
    obtain ⟨x0, x1, x2, _, _, _⟩ := three hk
    clear hk hb e1 H9
    unfold RowOk9 at hok
    cases ok
    · go_wp2_with fail
      refine (hL.is (W := w) s q (e := 10) (v := []) (N := 0) (k := 2) hok Tb.Ok.nil (Nat.le_refl _) (RdL.nil wc w.heap.size none) HB.out).mono ?_
      rintro e w1 ⟨A1, c1, rfl, _, hB1, hb1⟩
      unfold resV
      simp only [List.length_nil]
      have HK1 := Lib.hid (HK.out.below (hb1.alloc hb1.size (.cells #[.int .i64 10, .slice A1 0 c1, .int .i64 0] 34)))
      have HR := Lib.hid (Blk.new w1 34 #[.int .i64 10, .slice A1 0 c1, .int .i64 0])
      have HB1 := Lib.hid (hB1.alloc hB1.size (.cells #[.int .i64 10, .slice A1 0 c1, .int .i64 0] 34))
      clear hB1 hb1
      obtain ⟨x0, x1, x2, _, _, _⟩ := three HK1.out
      obtain ⟨y0, y1, y2, _, _, _⟩ := three HR.out
      go_wp2_with fail
      refine (hA _).mono ?_
      rintro e w2 ⟨rfl, hb2⟩
      go_wp2_with fail
      go_ret
      exact ⟨rfl, HB1.out.trans (hb2.mono HB1.out.size)⟩
    · go_wp2_with fail
      refine (hL.is (W := w) s q (e := 0) (v := []) (N := 0) (k := 0) hok Tb.Ok.nil (Nat.le_refl _) (RdL.nil wc w.heap.size none) HB.out).mono ?_
      rintro e w1 ⟨A1, c1, rfl, _, hB1, hb1⟩
      unfold resV
      simp only [List.length_nil]
      have HK1 := Lib.hid (HK.out.below (hb1.alloc hb1.size (.cells #[.int .i64 0, .slice A1 0 c1, .int .i64 0] 34)))
      have HR := Lib.hid (Blk.new w1 34 #[.int .i64 0, .slice A1 0 c1, .int .i64 0])
      have HB1 := Lib.hid (hB1.alloc hB1.size (.cells #[.int .i64 0, .slice A1 0 c1, .int .i64 0] 34))
      clear hB1 hb1
      obtain ⟨x0, x1, x2, _, _, _⟩ := three HK1.out
      obtain ⟨y0, y1, y2, _, _, _⟩ := three HR.out
      go_wp2_with fail
      refine (hA _).mono ?_
      rintro e w2 ⟨rfl, hb2⟩
      go_wp2_with fail
      go_ret
      exact ⟨rfl, HB1.out.trans (hb2.mono HB1.out.size)⟩
end Go.Proofs.Ytcmjpjhaaookfaa
