/- TknSort -/
import Derived.Test.YtbgagmpifaakgaaTF04
import Derived.Test.YtbgagmpifaakgaaTF16
import Derived.Test.YtbgagmpifaakgaaTF17
import Derived.BigQuiet
import Derived.Deep.CutBlock
import Derived.Deep.DeepCutAuto
import Derived.Deep.RegionLaw
import Derived.Deep.RegionWith
namespace Go.Proofs.Ytbgagmpifaakgaa
open Go.RowKit
set_option linter.unusedVariables false
theorem cmpNaN (w : World) (x : Int) : Calls Try.prog 43 #[.int .i64 x] w fun e w' => e = .returned (.bool false) ∧ w' = w := by
  go_enter Try.func43, Try.ntmps43
  go_wp2
  go_ret
  exact ⟨by simp, rfl⟩
theorem slNaN (w : World) (x : Int) : Calls Try.prog 36 #[.int .i64 x] w fun e w' => e = .returned (.bool false) ∧ w' = w := by
  go_enter Try.func36, Try.ntmps36
  go_wp2
  go_ret
  exact ⟨by simp, rfl⟩
theorem lessI (w : World) (x y : Int) : Calls Try.prog 35 #[.int .i64 x, .int .i64 y] w fun e w' => e = .returned (.bool (decide (x < y))) ∧ w' = w := by
  go_enter Try.func35, Try.ntmps35
  go_wp2_with (go_at_call 43; refine (cmpNaN _ _).mono ?_; rintro e w' ⟨rfl, rfl⟩)
  go_ret
  exact ⟨rfl, rfl⟩
/-- all in order -/
def Ord (l : List Int) : Prop := ∀ (p q : Nat) (a b : Int), p < q → l[p]? = some a → l[q]? = some b → a ≤ b
theorem mem_split {l : List Int} {x : Int} {i : Nat} (hs : Ord l) (h1 : ∀ (k : Nat) (a : Int), k < i → l[k]? = some a → a < x) (h2 : ∀ (k : Nat) (a : Int), i ≤ k → l[k]? = some a → x ≤ a) : (x ∈ l) ↔ l[i]? = some x := by
  constructor
  · intro h
    obtain ⟨k, hk⟩ := List.mem_iff_getElem?.1 h
    have hki : i ≤ k := by
      rcases Nat.lt_or_ge k i with h | h
      · have := h1 k x h hk; omega
      · exact h
    rcases Nat.eq_or_lt_of_le hki with h | h
    · rw [h]; exact hk
    · obtain ⟨a, ha⟩ : ∃ a, l[i]? = some a := ⟨_, List.getElem?_eq_getElem (by have := (List.getElem?_eq_some_iff.1 hk).1; omega)⟩
      have e1 := h2 i a (Nat.le_refl _) ha
      have e2 := hs i k a x h ha hk
      rw [ha]; congr 1; omega
  · intro h; exact List.mem_of_getElem? h
set_option maxRecDepth 100000 in
theorem searchI (w : World) {A : Option Addr} {n c B : Nat} {l : List Int} (x : Int) (h : Rd w B A n (iv l)) (hn : n ≤ 100000) (hs : Ord l) :
    Calls Try.prog 28 #[.slice A n c, .int .i64 x] w fun e w' => (∃ i : Int, e = .returned (.tuple #[.int .i64 i, .bool (decide (x ∈ l))])) ∧ w' = w := by
  have hl : l.length = n := by have := h.1; rwa [iv_length] at this
  have HL := Lib.hid hl
  have H := Lib.hid h
  have HS := Lib.hid hs
  clear h hl hs
  go_enter Try.func28, Try.ntmps28
  go_wp2_with fail
  go_loopw [7, 8] (fun s7 s8 wr => ∃ i j : Nat, s7 = .int .i64 (i : Int) ∧ s8 = .int .i64 (j : Int) ∧ i ≤ j ∧ j ≤ n ∧ Hid (∀ (k : Nat) (a : Int), k < i → l[k]? = some a → a < x) ∧ Hid (∀ (k : Nat) (a : Int), j ≤ k → l[k]? = some a → x ≤ a) ∧ wr = w) (fun s7 s8 _ => (intOf s8 - intOf s7).toNat)
  case atStart => exact ⟨0, n, rfl, rfl, Nat.zero_le _, Nat.le_refl _, Lib.hid (fun k a hk => absurd hk (by omega)), Lib.hid (fun k a hk ha => absurd (List.getElem?_eq_some_iff.1 ha).1 (by have := HL.out; omega)), rfl⟩
  case round =>
    obtain ⟨i, j, rfl, rfl, hij, hj, H1, H2, rfl⟩ := hrel
    by_cases hlt : i < j
    · obtain ⟨m, hm⟩ : ∃ m : Nat, (i + j) / 2 = m := ⟨_, rfl⟩
      have hmi : i ≤ m ∧ m < j := by omega
      obtain ⟨hmi, hmj⟩ := hmi
      obtain ⟨z, hz⟩ : ∃ z, l[m]? = some z := ⟨_, List.getElem?_eq_getElem (by have := HL.out; omega)⟩
      obtain ⟨b, o, rfl, _⟩ := H.out.int_at (k := m) (by omega)
      have hc := H.out.int_cell (k := m) (by omega) hz
      have e1 : IntKind.i64.wrap ((i : Int) + (j : Int)) = (i : Int) + (j : Int) := IntWalk.i64_in _ (by omega)
      have e2 : IntKind.u64.wrap ((i : Int) + (j : Int)) = (i : Int) + (j : Int) := by rw [IntWalk.u64_in] <;> omega
      have e3 : IntKind.i64.wrap (m : Int) = (m : Int) := IntWalk.i64_in _ (by omega)
      have e4 : IntKind.i64.wrap ((m : Int) + 1) = (m : Int) + 1 := IntWalk.i64_in _ (by omega)
      have e5 : ((i : Int) + (j : Int)) / 2 = (m : Int) := by omega
      have hmn : m < n := by omega
      have HZ := Lib.hid hz
      have HM := Lib.hid hm
      have hdv : (2 : Int) ^ 1 = 2 := by decide
      clear hz hm
      by_cases hx : z < x
      · go_wp2_with (go_at_call 35; refine (lessI _ _ _).mono ?_; rintro e w' ⟨rfl, rfl⟩)
        go_roundw
        case rel =>
          refine ⟨m + 1, j, by go_num, rfl, by omega, hj, Lib.hid (fun k a hk ha => ?_), H2, trivial⟩
          rcases Nat.lt_or_ge k m with h | h
          · have := HS.out k m a z h ha HZ.out; omega
          · obtain rfl : k = m := by omega
            rw [HZ.out] at ha; cases ha; exact hx
        case measure => simp [intOf]; omega
      · go_wp2_with (go_at_call 35; refine (lessI _ _ _).mono ?_; rintro e w' ⟨rfl, rfl⟩)
        go_roundw
        case rel =>
          refine ⟨i, m, rfl, rfl, by omega, by omega, H1, Lib.hid (fun k a hk ha => ?_), trivial⟩
          rcases Nat.eq_or_lt_of_le hk with h | h
          · subst h; rw [HZ.out] at ha; cases ha; omega
          · have := HS.out m k z a h HZ.out ha; omega
        case measure => simp [intOf]; omega
    · obtain rfl : i = j := by omega
      have HX := Lib.hid (mem_split HS.out H1.out H2.out)
      by_cases hin : i < n
      · obtain ⟨z, hz⟩ : ∃ z, l[i]? = some z := ⟨_, List.getElem?_eq_getElem (by have := HL.out; omega)⟩
        obtain ⟨b, o, rfl, _⟩ := H.out.int_at hin
        have hc := H.out.int_cell hin hz
        have HZ := Lib.hid hz
        clear hz
        by_cases hzx : z = x
        · subst hzx
          have HD := Lib.hid (show decide (z ∈ l) = true from decide_eq_true (HX.out.2 HZ.out))
          go_wp2_with (go_at_call 36; refine (slNaN _ _).mono ?_; rintro e w' ⟨rfl, rfl⟩)
          go_ret2
          exact ⟨⟨(i : Int), by rw [HD.out]; rfl⟩, rfl⟩
        · have hzx' : (z == x) = false := by simpa using hzx
          have HD := Lib.hid (show decide (x ∈ l) = false from decide_eq_false (fun h => by have := HX.out.1 h; rw [HZ.out] at this; cases this; exact hzx rfl))
          clear hzx
          go_wp2_with (go_at_call 36; refine (slNaN _ _).mono ?_; rintro e w' ⟨rfl, rfl⟩)
          go_ret2
          exact ⟨⟨(i : Int), by rw [HD.out]; rfl⟩, rfl⟩
      · have HD := Lib.hid (show decide (x ∈ l) = false from decide_eq_false (fun h => by have := (List.getElem?_eq_some_iff.1 (HX.out.1 h)).1; have := HL.out; omega))
        go_wp2_with (go_at_call 36; refine (slNaN _ _).mono ?_; rintro e w' ⟨rfl, rfl⟩)
        go_ret2
        exact ⟨⟨(i : Int), by rw [HD.out]; rfl⟩, rfl⟩
end Go.Proofs.Ytbgagmpifaakgaa

