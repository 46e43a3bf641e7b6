/- ViewRef -/
import Derived.Test.YtneehnoolhadbaaGP04
import Derived.Test.YtneehnoolhadbaaGP05
import Derived.Test.YtneehnoolhadbaaGP06
import Derived.Deep.DeepCutAuto
import Derived.Deep.RegionLaw
import Derived.Deep.RegionWith
namespace Go.Proofs.Ytneehnoolhadbaa
open Go.RowKit
set_option linter.unusedVariables false
/-- integers that a call made -/
def MadeI (W w : World) (l : List Int) (en : Ending) (w' : World) : Prop :=
  ∃ A c, en = .returned (.slice A l.length c) ∧ OwnI W w' A l.length c l ∧ Below W.heap.size W w' ∧ Below w.heap.size w w'
theorem MadeI.of {W w w' : World} {l : List Int} {en : Ending} (hB : Below W.heap.size W w) (h : MadeI w w l en w') : MadeI W w l en w' := by
  obtain ⟨A, c, h1, h2, h3, h4⟩ := h
  exact ⟨A, c, h1, own_of hB.size h2, hB.trans (h3.mono hB.size), h4⟩
namespace Vw
/-- who is in a mask of those below k -/
def upto (m : Int) (k : Nat) : List Int := ((List.range k).filter (bit m)).map Int.ofNat
def mem (m : Int) : List Int := (members m).map Int.ofNat
theorem upto_len (m : Int) (k : Nat) : (upto m k).length ≤ k := by
  unfold upto
  rw [List.length_map]
  have := List.length_filter_le (bit m) (List.range k)
  simpa using this
theorem upto_yes {m : Int} {k : Nat} (h : m / 2 ^ k % 2 = 1) : upto m (k + 1) = upto m k ++ [(k : Int)] := by
  unfold upto
  have hb : bit m k = true := by unfold bit; rw [h]; rfl
  rw [List.range_succ, List.filter_append, List.map_append, List.filter_cons_of_pos hb]; rfl
theorem upto_no {m : Int} {k : Nat} (h : m / 2 ^ k % 2 = 0) : upto m (k + 1) = upto m k := by
  unfold upto
  have hb : ¬ bit m k = true := by unfold bit; rw [h]; simp
  rw [List.range_succ, List.filter_append, List.map_append, List.filter_cons_of_neg hb]; simp
end Vw
set_option maxRecDepth 100000 in
theorem refMembers_raw (w : World) (m : Int) (h : -9223372036854775808 ≤ m ∧ m ≤ 9223372036854775807) :
    Calls Try.prog 12 #[.int .i64 m] w (MadeI w w (Vw.mem m)) := by
  go_enter Try.func12, Try.ntmps12
  go_wp2
  go_loopw [3, 4] (fun o i wr => ∃ (k n : Nat) (A : Option Addr) (c : Nat), k ≤ 7 ∧ i = .int .i64 k ∧ o = .slice A n c ∧ Hid (n = (Vw.upto m k).length) ∧ Hid (OwnI w wr A n c (Vw.upto m k)) ∧ Hid (Below w.heap.size w wr)) (fun _ i _ => 7 - (intOf i).toNat)
  case atStart => exact ⟨0, 0, none, 0, by omega, rfl, rfl, Lib.hid rfl, Lib.hid (ownI_nil _ _), Lib.hid (Below.refl _ _)⟩
  case round =>
    obtain ⟨k, n, A, c, hk, rfl, rfl, HN, HO, HB⟩ := hrel
    by_cases hlt : k < 7
    · rcases Int.emod_two_eq (m / 2 ^ k) with h0 | h1
      · have HZ := Lib.hid h0
        have ha : bits .and .i64 (m / 2 ^ k) 1 = 0 := by rw [and_1]; exact h0
        clear h0
        go_wp2
        go_roundw
        case rel => exact ⟨k + 1, n, A, c, by omega, by go_num, rfl, Lib.hid (by rw [Vw.upto_no HZ.out]; exact HN.out), Lib.hid (by rw [Vw.upto_no HZ.out]; exact HO.out), HB⟩
        case measure => simp [intOf]; omega
      · have HZ := Lib.hid h1
        have ha : bits .and .i64 (m / 2 ^ k) 1 = 1 := by rw [and_1]; exact h1
        have hn7 : n ≤ 7 := by have := Vw.upto_len m k; have := HN.out; omega
        clear h1
        go_wp2_with (first
          | (at_builtin
             refine wpList_append_cells (W := w) cellI (.tmp 15) (.tmp 17) rfl (by rfl) rfl (ownsRow_below HO.out ((Below.refl _ _).alloc (Nat.le_refl _) _)) rfl (Rd.oneAt _ _ _ (by simp)) (by intro u hu; simp at hu; subst hu; rfl) (by omega) (by omega) (HB.out.alloc HB.out.size _) ?_
             intro A1 c1 w1 hown1 hB1 hg1)
          | fail)
        go_roundw
        case rel => exact ⟨k + 1, n + 1, A1, c1, by omega, by go_num, rfl, Lib.hid (by rw [Vw.upto_yes HZ.out, List.length_append]; have := HN.out; simp; omega), Lib.hid (by rw [Vw.upto_yes HZ.out]; simpa [OwnI, iv] using hown1), Lib.hid hB1⟩
        case measure => simp [intOf]; omega
    · obtain rfl : k = 7 := by omega
      have hn := HN.out
      subst hn
      go_wp2
      go_ret
      exact ⟨A, c, rfl, HO.out, HB.out, HB.out⟩
theorem refMembers_any {W w : World} (m : Int) (h : -9223372036854775808 ≤ m ∧ m ≤ 9223372036854775807) (hB : Below W.heap.size W w) :
    Calls Try.prog 12 #[.int .i64 m] w (MadeI W w (Vw.mem m)) :=
  (refMembers_raw w m h).mono fun e w' h => MadeI.of hB h
end Go.Proofs.Ytneehnoolhadbaa

