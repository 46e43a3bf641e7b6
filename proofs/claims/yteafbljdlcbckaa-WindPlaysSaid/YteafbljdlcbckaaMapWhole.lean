/- 'whole': how far a map goes on without a gap. -/
import Derived.Test.YteafbljdlcbckaaWindTI
import Derived.Maps.OwnSet
namespace Go.Proofs.Yteafbljdlcbckaa
open Go.RowKit Go.Maps
set_option linter.unusedVariables false
namespace Mw
open WI
theorem law : Keyed Try.prog 3 := int_keyed Try.underlying3
theorem zeroI (w : World) : (zeroValue 3).run Try.prog w = .ok (.int .i64 0) w := by kernel_rfl
/-- the map tells what the window's slots hold -/
structure Tie (D : DataW Unit) (fr : Nat) (ss : List (Option Int)) : Prop where
  has : ∀ i : Int, (Lit.int .i64 i).wf = true → Maps.has D (.int .i64 i) = Wd.hasB fr ss i
  val : ∀ (k : Nat) (v : Int), ss[k]? = some (some v) → D.atKey (.int .i64 ((fr + 1 + k : Nat) : Int)) (.lit (.int .i64 0)) = .lit (.int .i64 v)
abbrev own (w : World) (B n : Nat) (D : DataW Unit) : Prop := w.ownsMap Try.prog 3 (plainElem Try.prog 3) B n D
set_option maxRecDepth 100000 in
theorem whole_any (w : World) (bf bh B n : Nat) (D : DataW Unit) (fr : Nat) (ss : List (Option Int)) (hf : w.cell? ⟨bf, 0, none⟩ = some (.int .i64 (fr : Int))) (hh : w.cell? ⟨bh, 0, none⟩ = some (.map (some B)))
    (hown : own w B n D) (hd : Tie D fr ss) (hfit : Fit (fr + ss.length)) :
    Calls Try.prog 6 #[.pointer (some ⟨bf, 0, none⟩), .pointer (some ⟨bh, 0, none⟩)] w fun e w' => e = .returned (.int .i64 ((fr + Wd.lead ss : Nat) : Int)) ∧ w' = w := by
  have hl := Wd.lead_le ss
  have hft := hfit.out
  have HD := Lib.hid hd
  have HL := Lib.hid (show fr + Wd.lead ss ≤ fr + ss.length ∧ fr + ss.length ≤ 2000000000000 by omega)
  clear hd hfit hl hft
  go_enter Try.func6, Try.ntmps6
  go_wp2
  go_loopw [3] (fun i wr => ∃ k : Nat, k ≤ Wd.lead ss ∧ i = .int .i64 ((fr + k : Nat) : Int) ∧ wr = w) (fun i _ => 3000000000000 - (intOf i).toNat)
  case atStart => exact ⟨0, by omega, rfl, rfl⟩
  case round =>
    obtain ⟨k, hk, rfl, rfl⟩ := hrel
    have hw : wrap64 ((fr : Int) + (k : Int) + 1) = ((fr + k : Nat) : Int) + 1 := by
      have h1 := HL.out
      unfold wrap64
      omega
    have hkey := keyOf_int_mk (P := Try.prog) Try.underlying3 (wrap64_wf ((fr : Int) + (k : Int) + 1))
    obtain ⟨o, ho⟩ : ∃ o, Maps.has D (.int .i64 (wrap64 ((fr : Int) + (k : Int) + 1))) = o := ⟨_, rfl⟩
    have HO : Hid (o = decide (k < Wd.lead ss)) := Lib.hid (by rw [← ho, HD.out.has _ (wrap64_wf _), hw, Wd.hasB_next hk])
    have HW := Lib.hid hw
    clear hw
    by_cases hlt : k < Wd.lead ss
    · have HE : o = true := by rw [HO.out]; simpa using hlt
      subst HE
      clear HO
      go_wp2_with (first
        | (at_lookup; refine wpList_lookup_own_ok_int _ rfl _ _ 28 rfl 3 3 .i64 law Try.underlying28 Try.underlying3 (zeroI _) B n D rfl hown _ _ rfl hkey ?_; intro c hat hwc)
        | go_in)
      go_roundw
      case rel => exact ⟨k + 1, by omega, by rw [HW.out]; simp only [Value.int.injEq, true_and]; omega, trivial⟩
      case measure => rw [HW.out]; have := HL.out; simp [intOf]; omega
    · have HE : o = false := by rw [HO.out]; simpa using hlt
      subst HE
      clear HO
      go_wp2_with (first
        | (at_lookup; refine wpList_lookup_own_ok_int _ rfl _ _ 28 rfl 3 3 .i64 law Try.underlying28 Try.underlying3 (zeroI _) B n D rfl hown _ _ rfl hkey ?_; intro c hat hwc)
        | go_in)
      go_ret
      have hk' : k = Wd.lead ss := by omega
      subst hk'
      exact ⟨by simp, rfl⟩
end Mw
end Go.Proofs.Yteafbljdlcbckaa
