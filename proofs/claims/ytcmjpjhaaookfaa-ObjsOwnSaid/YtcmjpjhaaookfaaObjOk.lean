/- hocketref4.Ok. -/
import Derived.Test.YtcmjpjhaaookfaaObjKit
namespace Go.Proofs.Ytcmjpjhaaookfaa
open Go.RowKit
set_option linter.unusedVariables false
def Cm.ok (c : Cm) : Bool := decide (1 ≤ c.kind ∧ c.kind ≤ 11 ∧ 0 ≤ c.who ∧ c.who ≤ 999 ∧ c.key.length ≤ 32 ∧ c.val.length ≤ 32 ∧ c.old.length ≤ 32)
set_option maxRecDepth 100000 in
set_option maxHeartbeats 2000000 in
theorem refOk_any (w : World) (ca : CA) (c : Cm) :
    Calls Try.prog 20 #[cmdV ca c] w fun e w' => e = .returned (.bool c.ok) ∧ Below w.heap.size w w' := by
  have b0 : Below w.heap.size w (w.alloc (.cells (cmdC ca c) 24)) := (Below.refl _ _).alloc (Nat.le_refl _) _
  obtain ⟨Ak, ck, Av, cv, Ao, co⟩ := ca
  obtain ⟨kind, who, key, val, old⟩ := c
  unfold cmdV
  simp only [cmdC] at b0 ⊢
  have bad : ¬ (1 ≤ kind ∧ kind ≤ 11 ∧ 0 ≤ who ∧ who ≤ 999 ∧ key.length ≤ 32 ∧ val.length ≤ 32 ∧ old.length ≤ 32) → Cm.ok ⟨kind, who, key, val, old⟩ = false := fun h => decide_eq_false h
  have good : (1 ≤ kind ∧ kind ≤ 11 ∧ 0 ≤ who ∧ who ≤ 999 ∧ key.length ≤ 32 ∧ val.length ≤ 32 ∧ old.length ≤ 32) → Cm.ok ⟨kind, who, key, val, old⟩ = true := fun h => decide_eq_true h
  by_cases h1 : 1 ≤ kind
  · by_cases h2 : kind ≤ 11
    · by_cases h3 : 0 ≤ who
      · by_cases h4 : who ≤ 999
        · by_cases h5 : (key.length : Int) ≤ 32
          · by_cases h6 : (val.length : Int) ≤ 32
            · by_cases h7 : (old.length : Int) ≤ 32
              · rw [good (by omega)]
                clear bad good
                go_enter Try.func20, Try.ntmps20
                go_wp2_with fail
                go_ret
                exact ⟨rfl, b0⟩
              · rw [bad (by omega)]
                clear bad good
                go_enter Try.func20, Try.ntmps20
                go_wp2_with fail
                go_ret
                exact ⟨rfl, b0⟩
            · rw [bad (by omega)]
              clear bad good
              go_enter Try.func20, Try.ntmps20
              go_wp2_with fail
              go_ret
              exact ⟨rfl, b0⟩
          · rw [bad (by omega)]
            clear bad good
            go_enter Try.func20, Try.ntmps20
            go_wp2_with fail
            go_ret
            exact ⟨rfl, b0⟩
        · rw [bad (by omega)]
          clear bad good
          go_enter Try.func20, Try.ntmps20
          go_wp2_with fail
          go_ret
          exact ⟨rfl, b0⟩
      · rw [bad (by omega)]
        clear bad good
        go_enter Try.func20, Try.ntmps20
        go_wp2_with fail
        go_ret
        exact ⟨rfl, b0⟩
    · rw [bad (by omega)]
      clear bad good
      go_enter Try.func20, Try.ntmps20
      go_wp2_with fail
      go_ret
      exact ⟨rfl, b0⟩
  · rw [bad (by omega)]
    clear bad good
    go_enter Try.func20, Try.ntmps20
    go_wp2_with fail
    go_ret
    exact ⟨rfl, b0⟩
end Go.Proofs.Ytcmjpjhaaookfaa
