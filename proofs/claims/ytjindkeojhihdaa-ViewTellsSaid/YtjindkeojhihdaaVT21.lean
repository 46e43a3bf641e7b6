/- ViewCode2 -/
import Derived.Test.YtjindkeojhihdaaVT17
namespace Go.Proofs.Ytjindkeojhihdaa
open Go.RowKit
set_option linter.unusedVariables false
set_option maxRecDepth 100000 in
theorem members14 : MembersC14 := by
  intro w m h
  have h' := h
  obtain ⟨h1, h2⟩ := h
  go_enter Try.func10, Try.ntmps10
  go_wp2
  go_loopw [3, 5] (fun o i wr => ∃ (k n : Nat) (A : Option Addr) (c : Nat), k ≤ 7 ∧ i = .int .i64 k ∧ o = .slice A n c ∧ Hid (n = (Vw.upto m k).length) ∧ Hid (OwnI w wr A n c (Vw.upto m k)) ∧ Hid (Below w.heap.size w wr)) (fun _ i _ => 7 - (intOf i).toNat)
  case atStart => exact ⟨0, 0, none, 0, by omega, rfl, rfl, Lib.hid rfl, Lib.hid (ownI_nil _ _), Lib.hid (Below.refl _ _)⟩
  case round =>
    obtain ⟨k, n, A, c, hk, rfl, rfl, HN, HO, HB⟩ := hrel
    by_cases hlt : k < 7
    · have HC := vhas_any wr m k h' (by omega)
      rcases Int.emod_two_eq (m / 2 ^ k) with h0 | h1
      · have HZ := Lib.hid h0
        rw [show Vw.bit m k = false by unfold Vw.bit; rw [h0]; rfl] at HC
        clear h0
        go_wp2_with (first | (go_at_call 29; refine HC.mono ?_; rintro e w1 ⟨rfl, rfl⟩) | fail)
        go_roundw
        case rel => exact ⟨k + 1, n, A, c, by omega, by go_num, rfl, Lib.hid (by rw [Vw.upto_no HZ.out]; exact HN.out), Lib.hid (by rw [Vw.upto_no HZ.out]; exact HO.out), HB⟩
        case measure => simp [intOf]; omega
      · have HZ := Lib.hid h1
        rw [show Vw.bit m k = true by unfold Vw.bit; rw [h1]; rfl] at HC
        have hn7 : n ≤ 7 := by have := Vw.upto_len m k; have := HN.out; omega
        clear h1
        go_wp2_with (first
          | (go_at_call 29; refine HC.mono ?_; rintro e w1 ⟨rfl, rfl⟩)
          | (at_builtin
             refine wpList_append_cells (W := w) cellI (.tmp 11) (.tmp 13) rfl (by rfl) rfl (ownsRow_below HO.out ((Below.refl _ _).alloc (Nat.le_refl _) _)) rfl (Rd.oneAt _ _ _ (by simp)) (by intro u hu; simp at hu; subst hu; rfl) (by omega) (by omega) (HB.out.alloc HB.out.size _) ?_
             intro A1 c1 w1 hown1 hB1 hg1)
          | fail)
        go_roundw
        case rel => exact ⟨k + 1, n + 1, A1, c1, by omega, by go_num, rfl, Lib.hid (by rw [Vw.upto_yes HZ.out, List.length_append]; have := HN.out; simp; omega), Lib.hid (by rw [Vw.upto_yes HZ.out]; simpa [OwnI, iv] using hown1), Lib.hid hB1⟩
        case measure => simp [intOf]; omega
    · obtain rfl : k = 7 := by omega
      have hn := HN.out
      subst hn
      go_wp2
      go_ret
      exact ⟨A, c, rfl, HO.out, HB.out, HB.out⟩
set_option maxRecDepth 100000 in
theorem after14 : AfterC14 := by
  intro w m x h hx
  obtain ⟨n, hn0⟩ : ∃ n, (Vw.mem m).length = n := ⟨_, rfl⟩
  have hn7 : n ≤ 7 := by have := Vw.members_len m; rw [Vw.mem_len] at hn0; omega
  have HL := Lib.hid hn0
  have HC := members14 w m h
  obtain ⟨x1, x2⟩ := hx
  unfold MadeI at HC
  rw [hn0] at HC
  clear hn0
  go_enter Try.func20, Try.ntmps20
  go_wp2_with (first | (go_at_call 10; refine HC.mono ?_; rintro e w1 ⟨A1, c1, rfl, ho, hB, hb⟩) | fail)
  have H := Lib.hid (Rd.own_ ho)
  have HB := Lib.hid hb
  clear ho hB hb HC
  go_loopw [12] (fun i wr => ∃ k : Nat, k ≤ n ∧ i = .int .i64 k ∧ Hid (∀ j y, j < k → (Vw.mem m)[j]? = some y → ¬ x < y) ∧ w1 = wr) (fun i _ => n - (intOf i).toNat)
  case atStart => exact ⟨0, Nat.zero_le _, rfl, Lib.hid (fun j y hj => absurd hj (by omega)), rfl⟩
  case round =>
    obtain ⟨k, hk, rfl, HS, rfl⟩ := hrel
    by_cases hlt : k < n
    · obtain ⟨z, hz⟩ : ∃ z, (Vw.mem m)[k]? = some z := ⟨_, List.getElem?_eq_getElem (by have := HL.out; omega)⟩
      obtain ⟨b, o, rfl, _⟩ := H.out.int_at hlt
      have hc := H.out.int_cell hlt hz
      have HZ := Lib.hid hz
      clear hz
      by_cases he : x < z
      · have HP := Lib.hid (Vw.after_found HZ.out he HS.out)
        go_wp2
        go_ret
        exact ⟨ret_int HP.out.symm, HB.out⟩
      · have HE := Lib.hid he
        have he' : z ≤ x := by omega
        clear he
        go_wp2
        go_roundw
        case rel =>
          refine ⟨k + 1, by omega, by go_num, Lib.hid (fun j y hj hy => ?_), trivial⟩
          rcases Nat.lt_or_ge j k with h1 | h1
          · exact HS.out j y h1 hy
          · obtain rfl : j = k := by omega
            rw [HZ.out] at hy
            injection hy with hy; rw [← hy]; exact HE.out
        case measure => simp [intOf]; omega
    · obtain rfl : k = n := by omega
      have hall : ∀ (j : Nat) y, (Vw.mem m)[j]? = some y → ¬ x < y := fun j y hy => HS.out j y (by have := HL.out; have := (List.getElem?_eq_some_iff.1 hy).1; omega) hy
      cases k with
      | zero =>
        have HP := Lib.hid (Vw.after_nil (id := x) HL.out)
        clear hall
        go_wp2
        go_ret
        exact ⟨ret_int HP.out.symm, HB.out⟩
      | succ k =>
        obtain ⟨z, hz⟩ : ∃ z, (Vw.mem m)[0]? = some z := ⟨_, List.getElem?_eq_getElem (by have := HL.out; omega)⟩
        obtain ⟨b, o, rfl, _⟩ := H.out.int_at (show 0 < k + 1 by omega)
        have hc := H.out.int_cell (show 0 < k + 1 by omega) hz
        simp only [Nat.add_zero] at hc
        have HP := Lib.hid (Vw.after_first hz hall)
        clear hz hall
        go_wp2
        go_ret
        exact ⟨ret_int HP.out.symm, HB.out⟩
end Go.Proofs.Ytjindkeojhihdaa

