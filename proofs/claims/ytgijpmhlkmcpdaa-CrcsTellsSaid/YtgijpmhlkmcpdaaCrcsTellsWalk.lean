/- CrcsTells: the walk. -/
import Derived.Test.YtgijpmhlkmcpdaaCrcAwake
import Derived.Test.YtgijpmhlkmcpdaaCrcRef
namespace Go.Proofs.Ytgijpmhlkmcpdaa
open Go.RowKit
set_option linter.unusedVariables false
theorem crcsTells_walk (a0 : Option Addr) (len0 cap0 : Nat) (z0 : List Int) (a1 : Int) (a2 : Int) (w : World) (w0 : IsRow .u8 w a0 len0 cap0 z0) (w1 : (Lit.int .i64 a1).wf = true) (w2 : (Lit.int .u8 a2).wf = true) :
    Calls Try.prog 5 #[.slice a0 len0 cap0, .int .i64 a1, .int .u8 a2] w fun e w' => e = .returned (.bool true) ∧ Below w.heap.size w w' := by
  obtain ⟨l, hl, h, hle, hcap⟩ := w0.rd
  obtain ⟨x, rfl, hx⟩ := u8_nat w2
  have hn : len0 ≤ maxLen := Nat.le_trans hle hcap
  have hn' : len0 ≤ 9223372036854775807 := hn
  obtain ⟨c, hc, hcu⟩ : ∃ c : Nat, IntKind.u32.wrap a1 = (c : Int) ∧ Crc.U32 c := ⟨(a1 % 4294967296).toNat, by rw [IntKind.wrap_u32']; omega, by unfold Crc.U32; omega⟩
  have hcw := Lib.hid w1
  clear w1 w2 w0 hle hcap
  by_cases hlt : 500 < len0
  · go_enter Try.func5, Try.ntmps5
    go_wp2_with (go_at_call 9; refine (awake_any _).mono ?_; rintro e w1 ⟨rfl, hb⟩)
    go_ret
    exact ⟨rfl, hb⟩
  · have H := Lib.hid h
    clear h
    go_enter Try.func5, Try.ntmps5
    go_wp2_with fail
    refine (sum_any l hl _ _ _ _ hn _ H.out).mono ?_
    rintro e w1 ⟨rfl, rfl⟩
    go_wp2_with fail
    refine (refsum_any l hl _ _ _ _ hn _ H.out).mono ?_
    rintro e w1 ⟨rfl, rfl⟩
    go_wp2_with fail
    refine (next_any c x hcu hx _).mono ?_
    rintro e w1 ⟨rfl, rfl⟩
    go_wp2_with fail
    refine (refnext_any c x hcu hx _).mono ?_
    rintro e w1 ⟨rfl, rfl⟩
    go_wp2_with fail
    refine (awake_any _).mono ?_
    rintro e w1 ⟨rfl, hb⟩
    go_wp2
    go_ret
    exact ⟨rfl, hb⟩
end Go.Proofs.Ytgijpmhlkmcpdaa
