/- ViewRef3 -/
import Derived.Test.YtjindkeojhihdaaVT12
namespace Go.Proofs.Ytjindkeojhihdaa
open Go.RowKit
set_option linter.unusedVariables false
namespace Vw
theorem mem_get {m z : Int} {k : Nat} (h : (mem m)[k]? = some z) : ∃ i : Nat, (members m)[k]? = some i ∧ (i : Int) = z := by
  unfold mem at h
  rw [List.getElem?_map, Option.map_eq_some_iff] at h
  exact h
theorem get_mem {m : Int} {i k : Nat} (h : (members m)[k]? = some i) : (mem m)[k]? = some (i : Int) := by
  unfold mem
  rw [List.getElem?_map, h]; rfl
theorem after_found {m id z : Int} {k : Nat} (hk : (mem m)[k]? = some z) (hz : id < z) (hn : ∀ j y, j < k → (mem m)[j]? = some y → ¬ id < y) : after m id = z := by
  obtain ⟨i, hi, rfl⟩ := mem_get hk
  obtain ⟨hl, he⟩ := List.getElem?_eq_some_iff.1 hi
  have : (members m).find? (fun (i : Nat) => decide (id < (i : Int))) = some i := by
    rw [List.find?_eq_some_iff_getElem]
    refine ⟨by simpa using hz, k, hl, he, fun j hj => ?_⟩
    have := hn j _ hj (get_mem (List.getElem?_eq_getElem (by omega)))
    simpa using this
  unfold after above
  rw [this]
theorem after_none {m id : Int} (hn : ∀ (j : Nat) y, (mem m)[j]? = some y → ¬ id < y) : (members m).find? (fun (i : Nat) => decide (id < (i : Int))) = none := by
  rw [List.find?_eq_none]
  intro i hi
  obtain ⟨j, hj, rfl⟩ := List.getElem_of_mem hi
  have := hn j _ (get_mem (List.getElem?_eq_getElem hj))
  simpa using this
theorem after_first {m id z : Int} (h0 : (mem m)[0]? = some z) (hn : ∀ (j : Nat) y, (mem m)[j]? = some y → ¬ id < y) : after m id = z := by
  obtain ⟨i, hi, rfl⟩ := mem_get h0
  unfold after above
  rw [after_none hn]
  cases h : members m with
  | nil => rw [h] at hi; cases hi
  | cons x t => rw [h] at hi; injection hi with hi; rw [hi]
theorem after_nil {m id : Int} (h0 : (mem m).length = 0) : after m id = -1 := by
  have : members m = [] := List.eq_nil_of_length_eq_zero (by rw [← mem_len]; exact h0)
  unfold after above
  rw [this]; rfl
end Vw
set_option maxRecDepth 100000 in
theorem refAfter_any (w : World) (m x : Int) (h : -9223372036854775808 ≤ m ∧ m ≤ 9223372036854775807) (hn : -9223372036854775808 ≤ x ∧ x ≤ 9223372036854775807) :
    Calls Try.prog 21 #[.int .i64 m, .int .i64 x] w fun e w' => e = .returned (.int .i64 (Vw.after m x)) ∧ Below w.heap.size w w' := by
  obtain ⟨n, hn0⟩ : ∃ n, (Vw.mem m).length = n := ⟨_, rfl⟩
  have hn7 : n ≤ 7 := by have := Vw.members_len m; rw [Vw.mem_len] at hn0; omega
  have HL := Lib.hid hn0
  have HC := refMembers_any (W := w) (w := w) m h (Below.refl _ _)
  unfold MadeI at HC
  rw [hn0] at HC
  clear hn0
  go_enter Try.func21, Try.ntmps21
  go_wp2_with (first | (go_at_call 18; refine HC.mono ?_; rintro e w1 ⟨A1, c1, rfl, ho, hB, hb⟩) | fail)
  have H := Lib.hid (Rd.own_ ho)
  have HB := Lib.hid hb
  clear ho hB hb HC
  go_loopw [6] (fun i wr => ∃ k : Nat, k ≤ n ∧ i = .int .i64 k ∧ Hid (∀ j y, j < k → (Vw.mem m)[j]? = some y → ¬ x < y) ∧ w1 = wr) (fun i _ => n - (intOf i).toNat)
  case atStart => exact ⟨0, Nat.zero_le _, rfl, Lib.hid (fun j y hj => absurd hj (by omega)), rfl⟩
  case round =>
    obtain ⟨k, hk, rfl, HS, rfl⟩ := hrel
    by_cases hlt : k < n
    · obtain ⟨z, hz⟩ : ∃ z, (Vw.mem m)[k]? = some z := ⟨_, List.getElem?_eq_getElem (by have := HL.out; omega)⟩
      obtain ⟨b, o, rfl, _⟩ := H.out.int_at hlt
      have hc := H.out.int_cell hlt hz
      have HZ := Lib.hid hz
      clear hz
      by_cases he : x < z
      · have HP := Lib.hid (Vw.after_found HZ.out he HS.out)
        go_wp2
        go_ret
        exact ⟨ret_int HP.out.symm, HB.out⟩
      · have HE := Lib.hid he
        have he' : z ≤ x := by omega
        clear he
        go_wp2
        go_roundw
        case rel =>
          refine ⟨k + 1, by omega, by go_num, Lib.hid (fun j y hj hy => ?_), trivial⟩
          rcases Nat.lt_or_ge j k with h1 | h1
          · exact HS.out j y h1 hy
          · obtain rfl : j = k := by omega
            rw [HZ.out] at hy
            injection hy with hy; rw [← hy]; exact HE.out
        case measure => simp [intOf]; omega
    · obtain rfl : k = n := by omega
      have hall : ∀ (j : Nat) y, (Vw.mem m)[j]? = some y → ¬ x < y := fun j y hy => HS.out j y (by have := HL.out; have := (List.getElem?_eq_some_iff.1 hy).1; omega) hy
      cases k with
      | zero =>
        have HP := Lib.hid (Vw.after_nil (id := x) HL.out)
        clear hall
        go_wp2
        go_ret
        exact ⟨ret_int HP.out.symm, HB.out⟩
      | succ k =>
        obtain ⟨z, hz⟩ : ∃ z, (Vw.mem m)[0]? = some z := ⟨_, List.getElem?_eq_getElem (by have := HL.out; omega)⟩
        obtain ⟨b, o, rfl, _⟩ := H.out.int_at (show 0 < k + 1 by omega)
        have hc := H.out.int_cell (show 0 < k + 1 by omega) hz
        simp only [Nat.add_zero] at hc
        have HP := Lib.hid (Vw.after_first hz hall)
        clear hz hall
        go_wp2
        go_ret
        exact ⟨ret_int HP.out.symm, HB.out⟩
end Go.Proofs.Ytjindkeojhihdaa

