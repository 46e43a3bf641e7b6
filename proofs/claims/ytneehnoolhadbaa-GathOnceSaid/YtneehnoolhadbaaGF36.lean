/- GathCode2 -/
import Derived.Test.YtneehnoolhadbaaGF33
import Derived.Test.YtneehnoolhadbaaGF35
namespace Go.Proofs.Ytneehnoolhadbaa
open Go.RowKit
set_option linter.unusedVariables false
set_option linter.unusedSimpArgs false
section
variable {W w : World} {S : Nat → Prop} {b : Nat} {g : Gm}
theorem gall_any (h : GthAt W w S b g) {r : Bool} (hr : g.all = r) :
    Calls Try.prog 13 #[.pointer (some ⟨b, 0, none⟩)] w fun e w' => e = .returned (.bool r) ∧ Below w.heap.size w w' := by
  obtain ⟨x, hx⟩ : ∃ x, g.lacking = x := ⟨_, rfl⟩
  have HC := Lib.hid (glack_any h hx)
  have HR : Hid (((x : Int) == 0) = r) := Lib.hid (by rw [← hr, ← hx]; unfold Gm.all; rw [show (((g.lacking : Nat) : Int) == 0) = decide (((g.lacking : Nat) : Int) = 0) by rfl]; exact decide_eq_decide.2 (by omega))
  clear h hx hr
  go_enter Try.func13, Try.ntmps13
  go_wp2_with (first | (go_at_call 32; refine HC.out.mono ?_; rintro e w1 ⟨rfl, hb⟩) | fail)
  go_ret
  exact ⟨ret_bool HR.out, hb⟩
theorem gabsent_any (h : GthAt W w S b g) {l : List Int} (hl : Vw.mem (g.lacking : Int) = l) :
    Calls Try.prog 11 #[.pointer (some ⟨b, 0, none⟩)] w (MadeI w w l) := by
  obtain ⟨x, hx⟩ : ∃ x, g.lacking = x := ⟨_, rfl⟩
  have HC := Lib.hid (glack_any h hx)
  have hx7 : x < 128 := by rw [← hx]; exact h.ok.lack_lt
  rw [hx] at hl
  have HL := Lib.hid hl
  clear h hx hl
  go_enter Try.func11, Try.ntmps11
  go_wp2_with fail
  refine HC.out.mono ?_
  rintro e w1 ⟨rfl, hb1⟩
  have HB := Lib.hid hb1
  clear hb1
  go_wp2_with fail
  refine (members14 w1 (x : Int) ⟨by omega, by omega⟩).mono ?_
  rw [HL.out]
  rintro e w2 ⟨A2, c2, rfl, ho, hB, hb⟩
  have HO := Lib.hid ho
  have HB2 := Lib.hid hb
  clear ho hB hb
  go_wp2_with fail
  go_ret
  have h3 := HB.out.trans (HB2.out.mono HB.out.size)
  exact ⟨A2, c2, rfl, own_of HB.out.size HO.out, h3, h3⟩
theorem gunr_any (h : GthAt W w S b g) {l : List Int} (hl : Vw.mem (g.unready : Int) = l) :
    Calls Try.prog 17 #[.pointer (some ⟨b, 0, none⟩)] w (MadeI w w l) := by
  obtain ⟨x, hx⟩ : ∃ x, g.unready = x := ⟨_, rfl⟩
  have HC := Lib.hid (gunready_any h hx)
  have hx7 : x < 128 := by rw [← hx]; exact h.ok.un_lt
  rw [hx] at hl
  have HL := Lib.hid hl
  clear h hx hl
  go_enter Try.func17, Try.ntmps17
  go_wp2_with fail
  refine HC.out.mono ?_
  rintro e w1 ⟨rfl, hb1⟩
  have HB := Lib.hid hb1
  clear hb1
  go_wp2_with fail
  refine (members14 w1 (x : Int) ⟨by omega, by omega⟩).mono ?_
  rw [HL.out]
  rintro e w2 ⟨A2, c2, rfl, ho, hB, hb⟩
  have HO := Lib.hid ho
  have HB2 := Lib.hid hb
  clear ho hB hb
  go_wp2_with fail
  go_ret
  have h3 := HB.out.trans (HB2.out.mono HB.out.size)
  exact ⟨A2, c2, rfl, own_of HB.out.size HO.out, h3, h3⟩
theorem gdone_any (h : GthAt W w S b g) {r : Bool} (hr : g.done = r) :
    Calls Try.prog 15 #[.pointer (some ⟨b, 0, none⟩)] w fun e w' => e = .returned (.bool r) ∧ Below w.heap.size w w' := by
  obtain ⟨x, hx⟩ : ∃ x, g.unready = x := ⟨_, rfl⟩
  have HC := Lib.hid (gunready_any h hx)
  obtain ⟨su, hsu⟩ : ∃ x, g.com.isSome = x := ⟨_, rfl⟩
  have hR : (su && ((x : Int) == 0)) = r := by rw [← hr, ← hx, ← hsu]; unfold Gm.done; rw [show (((g.unready : Nat) : Int) == 0) = decide (((g.unready : Nat) : Int) = 0) by rfl]; congr 1; exact decide_eq_decide.2 (by omega)
  have c29 : w.cell? ⟨b, 29, none⟩ = some (.bool su) := by
    obtain ⟨A, k, c, es, m0, m1, m3, m5, m7, m8, h1, rfl⟩ := h
    have := h1.blk.cell 29
    simpa [gthC, hsu] using this
  have HR := Lib.hid hR
  clear h hx hr hsu hR
  cases su with
  | true =>
    go_enter Try.func15, Try.ntmps15
    go_wp2_with (first | (go_at_call 35; refine HC.out.mono ?_; rintro e w1 ⟨rfl, hb⟩) | fail)
    go_ret
    exact ⟨ret_bool (by rw [← HR.out]; rfl), hb⟩
  | false =>
    go_enter Try.func15, Try.ntmps15
    go_wp2_with fail
    go_ret
    exact ⟨ret_bool (by rw [← HR.out]; rfl), Below.refl _ _⟩
end
end Go.Proofs.Ytneehnoolhadbaa

