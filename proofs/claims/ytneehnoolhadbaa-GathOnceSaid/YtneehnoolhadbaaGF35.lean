/- ViewCode2 -/
import Derived.Test.YtneehnoolhadbaaGF34
namespace Go.Proofs.Ytneehnoolhadbaa
open Go.RowKit
set_option linter.unusedVariables false
set_option maxRecDepth 100000 in
theorem members14 : MembersC14 := by
  intro w m h
  have h' := h
  obtain ⟨h1, h2⟩ := h
  go_enter Try.func33, Try.ntmps33
  go_wp2
  go_loopw [3, 5] (fun o i wr => ∃ (k n : Nat) (A : Option Addr) (c : Nat), k ≤ 7 ∧ i = .int .i64 k ∧ o = .slice A n c ∧ Hid (n = (Vw.upto m k).length) ∧ Hid (OwnI w wr A n c (Vw.upto m k)) ∧ Hid (Below w.heap.size w wr)) (fun _ i _ => 7 - (intOf i).toNat)
  case atStart => exact ⟨0, 0, none, 0, by omega, rfl, rfl, Lib.hid rfl, Lib.hid (ownI_nil _ _), Lib.hid (Below.refl _ _)⟩
  case round =>
    obtain ⟨k, n, A, c, hk, rfl, rfl, HN, HO, HB⟩ := hrel
    by_cases hlt : k < 7
    · have HC := vhas_any wr m k h' (by omega)
      rcases Int.emod_two_eq (m / 2 ^ k) with h0 | h1
      · have HZ := Lib.hid h0
        rw [show Vw.bit m k = false by unfold Vw.bit; rw [h0]; rfl] at HC
        clear h0
        go_wp2_with (first | (go_at_call 40; refine HC.mono ?_; rintro e w1 ⟨rfl, rfl⟩) | fail)
        go_roundw
        case rel => exact ⟨k + 1, n, A, c, by omega, by go_num, rfl, Lib.hid (by rw [Vw.upto_no HZ.out]; exact HN.out), Lib.hid (by rw [Vw.upto_no HZ.out]; exact HO.out), HB⟩
        case measure => simp [intOf]; omega
      · have HZ := Lib.hid h1
        rw [show Vw.bit m k = true by unfold Vw.bit; rw [h1]; rfl] at HC
        have hn7 : n ≤ 7 := by have := Vw.upto_len m k; have := HN.out; omega
        clear h1
        go_wp2_with (first
          | (go_at_call 40; refine HC.mono ?_; rintro e w1 ⟨rfl, rfl⟩)
          | (at_builtin
             refine wpList_append_cells (W := w) cellI (.tmp 11) (.tmp 13) rfl (by rfl) rfl (ownsRow_below HO.out ((Below.refl _ _).alloc (Nat.le_refl _) _)) rfl (Rd.oneAt _ _ _ (by simp)) (by intro u hu; simp at hu; subst hu; rfl) (by omega) (by omega) (HB.out.alloc HB.out.size _) ?_
             intro A1 c1 w1 hown1 hB1 hg1)
          | fail)
        go_roundw
        case rel => exact ⟨k + 1, n + 1, A1, c1, by omega, by go_num, rfl, Lib.hid (by rw [Vw.upto_yes HZ.out, List.length_append]; have := HN.out; simp; omega), Lib.hid (by rw [Vw.upto_yes HZ.out]; simpa [OwnI, iv] using hown1), Lib.hid hB1⟩
        case measure => simp [intOf]; omega
    · obtain rfl : k = 7 := by omega
      have hn := HN.out
      subst hn
      go_wp2
      go_ret
      exact ⟨A, c, rfl, HO.out, HB.out, HB.out⟩
end Go.Proofs.Ytneehnoolhadbaa

