/- The contracts of the code: objs' isKind, isWho, isKnown, Ok. The contracts of the code: slices.Equal of ints, slices.EqualFunc of rows and of pairs, objs' samePair, Same, SameResult. The contracts of the code: objs' Same, SameResult. -/
import Derived.Test.YtclbhcbeocapgaaObjOk
import Derived.Test.YtclbhcbeocapgaaObjSame
import Derived.Test.YtclbhcbeocapgaaRegsWalks
import Derived.WalkSmall
import Derived.Deep.QuietTactic
import Derived.BigQuiet
namespace Go.Proofs.Ytclbhcbeocapgaa
open Go.RowKit
set_option linter.unusedVariables false
theorem isKind_any (w : World) (k : Int) : Calls Try.prog 32 #[.int .i64 k] w fun e w' => e = .returned (.bool (decide (1 ≤ k ∧ k ≤ 11))) ∧ w' = w := by
  by_cases h1 : 1 ≤ k
  · by_cases h2 : k ≤ 11
    · rw [decide_eq_true (show 1 ≤ k ∧ k ≤ 11 from ⟨h1, h2⟩)]
      go_enter Try.func32, Try.ntmps32
      go_wp2_with fail
      go_ret
      exact ⟨rfl, rfl⟩
    · rw [decide_eq_false (show ¬ (1 ≤ k ∧ k ≤ 11) by omega)]
      go_enter Try.func32, Try.ntmps32
      go_wp2_with fail
      go_ret
      exact ⟨rfl, rfl⟩
  · rw [decide_eq_false (show ¬ (1 ≤ k ∧ k ≤ 11) by omega)]
    go_enter Try.func32, Try.ntmps32
    go_wp2_with fail
    go_ret
    exact ⟨rfl, rfl⟩
theorem isWho_any (w : World) (k : Int) : Calls Try.prog 33 #[.int .i64 k] w fun e w' => e = .returned (.bool (decide (0 ≤ k ∧ k ≤ 999))) ∧ w' = w := by
  by_cases h1 : 0 ≤ k
  · by_cases h2 : k ≤ 999
    · rw [decide_eq_true (show 0 ≤ k ∧ k ≤ 999 from ⟨h1, h2⟩)]
      go_enter Try.func33, Try.ntmps33
      go_wp2_with fail
      go_ret
      exact ⟨rfl, rfl⟩
    · rw [decide_eq_false (show ¬ (0 ≤ k ∧ k ≤ 999) by omega)]
      go_enter Try.func33, Try.ntmps33
      go_wp2_with fail
      go_ret
      exact ⟨rfl, rfl⟩
  · rw [decide_eq_false (show ¬ (0 ≤ k ∧ k ≤ 999) by omega)]
    go_enter Try.func33, Try.ntmps33
    go_wp2_with fail
    go_ret
    exact ⟨rfl, rfl⟩
theorem isKind_yes (w : World) {k : Int} (h : 1 ≤ k ∧ k ≤ 11) : Calls Try.prog 32 #[.int .i64 k] w fun e w' => e = .returned (.bool true) ∧ w' = w := by
  have := isKind_any w k; rwa [decide_eq_true h] at this
theorem isKind_no (w : World) {k : Int} (h : ¬ (1 ≤ k ∧ k ≤ 11)) : Calls Try.prog 32 #[.int .i64 k] w fun e w' => e = .returned (.bool false) ∧ w' = w := by
  have := isKind_any w k; rwa [decide_eq_false h] at this
theorem isWho_yes (w : World) {k : Int} (h : 0 ≤ k ∧ k ≤ 999) : Calls Try.prog 33 #[.int .i64 k] w fun e w' => e = .returned (.bool true) ∧ w' = w := by
  have := isWho_any w k; rwa [decide_eq_true h] at this
theorem isWho_no (w : World) {k : Int} (h : ¬ (0 ≤ k ∧ k ≤ 999)) : Calls Try.prog 33 #[.int .i64 k] w fun e w' => e = .returned (.bool false) ∧ w' = w := by
  have := isWho_any w k; rwa [decide_eq_false h] at this
/-- may a command be handed on? -/
def Cm.known (c : Cm) : Bool := decide (1 ≤ c.kind ∧ c.kind ≤ 11 ∧ (c.kind = 6 ∨ c.kind = 7 → 0 ≤ c.who ∧ c.who ≤ 999))
set_option maxRecDepth 100000 in
set_option maxHeartbeats 2000000 in
theorem ok8 (w : World) (ca : CA) (c : Cm) : Calls Try.prog 8 #[cmdV ca c] w fun e w' => e = .returned (.bool c.ok) ∧ Below w.heap.size w w' := by
  have b0 : Below w.heap.size w (w.alloc (.cells (cmdC ca c) 24)) := (Below.refl _ _).alloc (Nat.le_refl _) _
  obtain ⟨Ak, ck, Av, cv, Ao, co⟩ := ca
  obtain ⟨kind, who, key, val, old⟩ := c
  unfold cmdV
  simp only [cmdC] at b0 ⊢
  have bad : ¬ (1 ≤ kind ∧ kind ≤ 11 ∧ 0 ≤ who ∧ who ≤ 999 ∧ key.length ≤ 32 ∧ val.length ≤ 32 ∧ old.length ≤ 32) → Cm.ok ⟨kind, who, key, val, old⟩ = false := fun h => decide_eq_false h
  have good : (1 ≤ kind ∧ kind ≤ 11 ∧ 0 ≤ who ∧ who ≤ 999 ∧ key.length ≤ 32 ∧ val.length ≤ 32 ∧ old.length ≤ 32) → Cm.ok ⟨kind, who, key, val, old⟩ = true := fun h => decide_eq_true h
  by_cases h1 : 1 ≤ kind ∧ kind ≤ 11
  · have HK := Lib.hid (fun w => isKind_yes w h1)
    by_cases h2 : 0 ≤ who ∧ who ≤ 999
    · have HW := Lib.hid (fun w => isWho_yes w h2)
      by_cases h5 : (key.length : Int) ≤ 32
      · by_cases h6 : (val.length : Int) ≤ 32
        · by_cases h7 : (old.length : Int) ≤ 32
          · rw [good (by omega)]
            clear bad good h1 h2
            go_enter Try.func8, Try.ntmps8
            go_wp2_with (first
              | (go_at_call 32; refine (HK.out _).mono ?_; rintro e w1 ⟨rfl, rfl⟩)
              | (go_at_call 33; refine (HW.out _).mono ?_; rintro e w1 ⟨rfl, rfl⟩)
              | fail)
            go_ret
            exact ⟨rfl, b0⟩
          · rw [bad (by omega)]
            clear bad good h1 h2
            go_enter Try.func8, Try.ntmps8
            go_wp2_with (first
              | (go_at_call 32; refine (HK.out _).mono ?_; rintro e w1 ⟨rfl, rfl⟩)
              | (go_at_call 33; refine (HW.out _).mono ?_; rintro e w1 ⟨rfl, rfl⟩)
              | fail)
            go_ret
            exact ⟨ret_bool (decide_eq_false (by omega)), b0⟩
        · rw [bad (by omega)]
          clear bad good h1 h2
          go_enter Try.func8, Try.ntmps8
          go_wp2_with (first
            | (go_at_call 32; refine (HK.out _).mono ?_; rintro e w1 ⟨rfl, rfl⟩)
            | (go_at_call 33; refine (HW.out _).mono ?_; rintro e w1 ⟨rfl, rfl⟩)
            | fail)
          go_ret
          exact ⟨rfl, b0⟩
      · rw [bad (by omega)]
        clear bad good h1 h2
        go_enter Try.func8, Try.ntmps8
        go_wp2_with (first
          | (go_at_call 32; refine (HK.out _).mono ?_; rintro e w1 ⟨rfl, rfl⟩)
          | (go_at_call 33; refine (HW.out _).mono ?_; rintro e w1 ⟨rfl, rfl⟩)
          | fail)
        go_ret
        exact ⟨rfl, b0⟩
    · have HW := Lib.hid (fun w => isWho_no w h2)
      rw [bad (by omega)]
      clear bad good h1 h2
      go_enter Try.func8, Try.ntmps8
      go_wp2_with (first
        | (go_at_call 32; refine (HK.out _).mono ?_; rintro e w1 ⟨rfl, rfl⟩)
        | (go_at_call 33; refine (HW.out _).mono ?_; rintro e w1 ⟨rfl, rfl⟩)
        | fail)
      go_ret
      exact ⟨rfl, b0⟩
  · have HK := Lib.hid (fun w => isKind_no w h1)
    rw [bad (by omega)]
    clear bad good h1
    go_enter Try.func8, Try.ntmps8
    go_wp2_with (first
      | (go_at_call 32; refine (HK.out _).mono ?_; rintro e w1 ⟨rfl, rfl⟩)
      | fail)
    go_ret
    exact ⟨rfl, b0⟩
set_option maxRecDepth 100000 in
set_option maxHeartbeats 2000000 in
theorem isKnown_any (w : World) (ca : CA) (c : Cm) : Calls Try.prog 20 #[cmdV ca c] w fun e w' => e = .returned (.bool c.known) ∧ Below w.heap.size w w' := by
  have b0 : Below w.heap.size w (w.alloc (.cells (cmdC ca c) 24)) := (Below.refl _ _).alloc (Nat.le_refl _) _
  obtain ⟨Ak, ck, Av, cv, Ao, co⟩ := ca
  obtain ⟨kind, who, key, val, old⟩ := c
  unfold cmdV
  simp only [cmdC] at b0 ⊢
  have bad : ¬ (1 ≤ kind ∧ kind ≤ 11 ∧ (kind = 6 ∨ kind = 7 → 0 ≤ who ∧ who ≤ 999)) → Cm.known ⟨kind, who, key, val, old⟩ = false := fun h => decide_eq_false h
  have good : (1 ≤ kind ∧ kind ≤ 11 ∧ (kind = 6 ∨ kind = 7 → 0 ≤ who ∧ who ≤ 999)) → Cm.known ⟨kind, who, key, val, old⟩ = true := fun h => decide_eq_true h
  by_cases h1 : 1 ≤ kind ∧ kind ≤ 11
  · have HK := Lib.hid (fun w => isKind_yes w h1)
    by_cases h2 : 0 ≤ who ∧ who ≤ 999
    · have HW := Lib.hid (fun w => isWho_yes w h2)
      rw [good ⟨h1.1, h1.2, fun _ => h2⟩]
      clear bad good
      by_cases h6 : kind = 6
      · subst h6
        clear h1 h2
        go_enter Try.func20, Try.ntmps20
        go_wp2_with (first
          | (go_at_call 32; refine (HK.out _).mono ?_; rintro e w1 ⟨rfl, rfl⟩)
          | (go_at_call 33; refine (HW.out _).mono ?_; rintro e w1 ⟨rfl, rfl⟩)
          | fail)
        go_ret
        exact ⟨rfl, b0⟩
      · have k6 : (kind == 6) = false := by simp; omega
        clear h1 h2 h6
        go_enter Try.func20, Try.ntmps20
        go_wp2_with (first
          | (go_at_call 32; refine (HK.out _).mono ?_; rintro e w1 ⟨rfl, rfl⟩)
          | (go_at_call 33; refine (HW.out _).mono ?_; rintro e w1 ⟨rfl, rfl⟩)
          | fail)
        go_ret
        exact ⟨rfl, b0⟩
    · have HW := Lib.hid (fun w => isWho_no w h2)
      by_cases h6 : kind = 6
      · rw [bad (by omega)]
        subst h6
        clear h1 h2 bad good
        go_enter Try.func20, Try.ntmps20
        go_wp2_with (first
          | (go_at_call 32; refine (HK.out _).mono ?_; rintro e w1 ⟨rfl, rfl⟩)
          | (go_at_call 33; refine (HW.out _).mono ?_; rintro e w1 ⟨rfl, rfl⟩)
          | fail)
        go_ret
        exact ⟨rfl, b0⟩
      · have k6 : (kind == 6) = false := by simp; omega
        by_cases h7 : kind = 7
        · rw [bad (by omega)]
          subst h7
          clear h1 h2 bad good
          go_enter Try.func20, Try.ntmps20
          go_wp2_with (first
            | (go_at_call 32; refine (HK.out _).mono ?_; rintro e w1 ⟨rfl, rfl⟩)
            | (go_at_call 33; refine (HW.out _).mono ?_; rintro e w1 ⟨rfl, rfl⟩)
            | fail)
          go_ret
          exact ⟨rfl, b0⟩
        · have k7 : (kind == 7) = false := by simp; omega
          rw [good ⟨h1.1, h1.2, fun h => by omega⟩]
          clear h1 h2 h6 h7 bad good
          go_enter Try.func20, Try.ntmps20
          go_wp2_with (first
            | (go_at_call 32; refine (HK.out _).mono ?_; rintro e w1 ⟨rfl, rfl⟩)
            | (go_at_call 33; refine (HW.out _).mono ?_; rintro e w1 ⟨rfl, rfl⟩)
            | fail)
          go_ret
          exact ⟨rfl, b0⟩
  · have HK := Lib.hid (fun w => isKind_no w h1)
    rw [bad (by omega)]
    clear h1 bad good
    by_cases h6 : kind = 6
    · subst h6
      go_enter Try.func20, Try.ntmps20
      go_wp2_with (first
        | (go_at_call 32; refine (HK.out _).mono ?_; rintro e w1 ⟨rfl, rfl⟩)
        | fail)
      go_ret
      exact ⟨rfl, b0⟩
    · have k6 : (kind == 6) = false := by simp; omega
      clear h6
      go_enter Try.func20, Try.ntmps20
      go_wp2_with (first
        | (go_at_call 32; refine (HK.out _).mono ?_; rintro e w1 ⟨rfl, rfl⟩)
        | fail)
      go_ret
      exact ⟨rfl, b0⟩
end Go.Proofs.Ytclbhcbeocapgaa
namespace Go.Proofs.Ytclbhcbeocapgaa
open Go.RowKit
set_option linter.unusedVariables false
set_option maxHeartbeats 1000000 in
theorem equalI_any (w : World) (A A' : Option Addr) (n c n' c' B B' : Nat) (zs zs' : List Int) (h : Rd w B A n (iv zs)) (h' : Rd w B' A' n' (iv zs')) (hn : n ≤ maxLen) (hn' : n' ≤ maxLen) :
    Calls Try.prog 53 #[.slice A n c, .slice A' n' c'] w fun e w' => e = .returned (.bool (decide (zs = zs'))) ∧ Below w.heap.size w w' := by
  have hl : zs.length = n := by have := h.1; rwa [iv_length] at this
  have hl' : zs'.length = n' := by have := h'.1; rwa [iv_length] at this
  unfold maxLen at hn hn'
  by_cases hne : n = n'
  · subst hne
    have HN : Hid (n ≤ 9223372036854775807) := Lib.hid (by omega)
    have HL := Lib.hid hl
    have HL' := Lib.hid hl'
    have H := Lib.hid h
    have H' := Lib.hid h'
    clear h h' hl hl' hn hn'
    go_enter Try.func53, Try.ntmps53
    go_wp2
    go_loopw [5, 13] (fun _ i wr => ∃ k : Nat, k ≤ n ∧ i = .int .i64 k ∧ (∀ j, j < k → zs[j]? = zs'[j]?) ∧ ∃ m, wr = w.drewN m) (fun _ i _ => n - (intOf i).toNat)
    case atStart => exact ⟨0, Nat.zero_le _, rfl, fun j hj => absurd hj (by omega), 0, rfl⟩
    case round =>
      obtain ⟨k, hk, rfl, hs, m, hm⟩ := hrel
      have hkm : (k : Int) ≤ 9223372036854775806 ∨ k = n := by have := HN.out; omega
      by_cases hlt : k < n
      · obtain ⟨z, hz⟩ : ∃ z, zs[k]? = some z := ⟨_, List.getElem?_eq_getElem (by have := HL.out; omega)⟩
        obtain ⟨z', hz'⟩ : ∃ z, zs'[k]? = some z := ⟨_, List.getElem?_eq_getElem (by have := HL'.out; omega)⟩
        obtain ⟨b, o, rfl, _⟩ := H.out.int_at hlt
        obtain ⟨b', o', rfl, _⟩ := H'.out.int_at hlt
        have hc : wr.cell? ⟨b, o + k, none⟩ = some (.int .i64 z) := by rw [hm]; exact H.out.int_cell hlt hz
        have hc' : wr.cell? ⟨b', o' + k, none⟩ = some (.int .i64 z') := by rw [hm]; exact H'.out.int_cell hlt hz'
        have hv : IntKind.i64.wrap ((k : Int) + 1) = (k : Int) + 1 := IntWalk.i64_in _ (by have := HN.out; omega)
        have HS := Lib.hid hs
        have HZ := Lib.hid hz
        have HZ' := Lib.hid hz'
        have HM := Lib.hid hm
        clear hs hz hz' hm hkm
        by_cases he : z = z'
        · subst he
          go_wp2
          go_quiet (fail)
          go_wp2
          go_roundw
          case rel =>
            refine ⟨k + 1, by omega, by go_num, fun j hj => ?_, m + nq, by rw [HM.out, World.drewN_drewN]⟩
            rcases Nat.lt_or_ge j k with h1 | h1
            · exact HS.out j h1
            · obtain rfl : j = k := by omega
              rw [HZ.out, HZ'.out]
          case measure => simp [intOf]; omega
        · have he' : (z == z') = false := by simpa using he
          have he2 : (z != z') = true := by simpa using he
          have HE := Lib.hid (show decide (zs = zs') = false by
            rw [decide_eq_false_iff_not]
            rintro rfl
            have h1 := HZ.out
            rw [HZ'.out] at h1
            injection h1 with h1
            exact he h1.symm)
          clear he
          go_wp2
          go_quiet (fail)
          go_wp2
          go_ret
          exact ⟨ret_bool HE.out.symm, by rw [HM.out, World.drewN_drewN]; exact belowN_d _⟩
      · have hkn : k = n := by omega
        have HE := Lib.hid (show decide (zs = zs') = true by
          rw [decide_eq_true_iff]
          apply List.ext_getElem?
          intro j
          rcases Nat.lt_or_ge j n with h1 | h1
          · exact hs j (by omega)
          · rw [List.getElem?_eq_none (by have := HL.out; omega), List.getElem?_eq_none (by have := HL'.out; omega)])
        have HM := Lib.hid hm
        clear hs hkn hm hkm
        go_wp2
        go_ret
        exact ⟨ret_bool HE.out.symm, by rw [HM.out]; exact belowN_d m⟩
  · have HE := Lib.hid (show decide (zs = zs') = false by
      rw [decide_eq_false_iff_not]; rintro rfl; omega)
    have hd : ((n : Int) == (n' : Int)) = false := by simp; omega
    have hd2 : ((n : Int) != (n' : Int)) = true := by simp; omega
    clear h h' hl hl' hn hn' hne
    go_enter Try.func53, Try.ntmps53
    go_wp2
    go_ret
    exact ⟨ret_bool HE.out.symm, Below.refl _ _⟩
set_option maxHeartbeats 1000000 in
set_option maxRecDepth 100000 in
theorem equalQ_any (w : World) {A A' : Option Addr} {n c n' c' B B' : Nat} {qs qs' : List (List Nat)} (hb : BytesL qs) (hb' : BytesL qs') (h : RdQ w B A n qs) (h' : RdQ w B' A' n' qs') (hn : n ≤ maxLen) (hn' : n' ≤ maxLen) :
    Calls Try.prog 52 #[.slice A n c, .slice A' n' c', .func (.func 51) #[] #[]] w fun e w' => e = .returned (.bool (decide (qs = qs'))) ∧ Below w.heap.size w w' := by
  have hl : qs.length = n := h.length
  have hl' : qs'.length = n' := h'.length
  unfold maxLen at hn hn'
  by_cases hne : n = n'
  · subst hne
    have HN : Hid (n ≤ 9223372036854775807) := Lib.hid (by omega)
    have HL := Lib.hid hl
    have HL' := Lib.hid hl'
    have H := Lib.hid h
    have H' := Lib.hid h'
    have HBY := Lib.hid hb
    have HBY' := Lib.hid hb'
    clear h h' hl hl' hn hn' hb hb'
    go_enter Try.func52, Try.ntmps52
    go_wp2
    go_loopw [7, 8, 9, 17] (fun _ _ _ i wr => ∃ k : Nat, k ≤ n ∧ i = .int .i64 k ∧ Hid (∀ j, j < k → qs[j]? = qs'[j]?) ∧ w = wr) (fun _ _ _ i _ => n - (intOf i).toNat)
    case atStart => exact ⟨0, Nat.zero_le _, rfl, Lib.hid (fun j hj => absurd hj (by omega)), rfl⟩
    case round =>
      obtain ⟨k, hk, rfl, HS, rfl⟩ := hrel
      have hkm : (k : Int) ≤ 9223372036854775806 ∨ k = n := by have := HN.out; omega
      by_cases hlt : k < n
      · obtain ⟨b, o, l, A1, c1, rfl, hz, hc, hr1⟩ := H.out.at hlt
        obtain ⟨b', o', l', A2, c2, rfl, hz', hc', hr2⟩ := H'.out.at hlt
        have hv : IntKind.i64.wrap ((k : Int) + 1) = (k : Int) + 1 := IntWalk.i64_in _ (by have := HN.out; omega)
        have HC := Lib.hid (equal_any w A1 A2 l.length c1 l'.length c2 _ _ l l' (HBY.out l (List.mem_of_getElem? hz)) (HBY'.out l' (List.mem_of_getElem? hz')) hr1 hr2)
        have HZ := Lib.hid hz
        have HZ' := Lib.hid hz'
        clear hz hz' hkm hr1 hr2
        by_cases he : l = l'
        · have HD := Lib.hid (decide_eq_true he)
          have HE := Lib.hid he
          clear he
          go_wp2_with (first
            | (go_at_call 51; refine HC.out.mono ?_; rw [HD.out]; rintro e w2 ⟨rfl, rfl⟩)
            | fail)
          go_roundw
          case rel =>
            refine ⟨k + 1, by omega, by go_num, Lib.hid (fun j hj => ?_), by first | trivial | rfl⟩
            rcases Nat.lt_or_ge j k with h1 | h1
            · exact HS.out j h1
            · obtain rfl : j = k := by omega
              rw [HZ.out, HZ'.out, HE.out]
          case measure => simp [intOf]; omega
        · have HD := Lib.hid (decide_eq_false he)
          have HE := Lib.hid (show decide (qs = qs') = false by
            rw [decide_eq_false_iff_not]
            rintro rfl
            have h1 := HZ.out
            rw [HZ'.out] at h1
            injection h1 with h1
            exact he h1.symm)
          clear he
          go_wp2_with (first
            | (go_at_call 51; refine HC.out.mono ?_; rw [HD.out]; rintro e w2 ⟨rfl, rfl⟩)
            | fail)
          go_ret
          exact ⟨ret_bool HE.out.symm, Below.refl _ _⟩
      · have hkn : k = n := by omega
        have HE := Lib.hid (show decide (qs = qs') = true by
          rw [decide_eq_true_iff]
          apply List.ext_getElem?
          intro j
          rcases Nat.lt_or_ge j n with h1 | h1
          · exact HS.out j (by omega)
          · rw [List.getElem?_eq_none (by have := HL.out; omega), List.getElem?_eq_none (by have := HL'.out; omega)])
        clear hkn hkm
        go_wp2
        go_ret
        exact ⟨ret_bool HE.out.symm, Below.refl _ _⟩
  · have HE := Lib.hid (show decide (qs = qs') = false by
      rw [decide_eq_false_iff_not]; rintro rfl; omega)
    have hd : ((n : Int) == (n' : Int)) = false := by simp; omega
    have hd2 : ((n : Int) != (n' : Int)) = true := by simp; omega
    clear h h' hl hl' hn hn' hne
    go_enter Try.func52, Try.ntmps52
    go_wp2
    go_ret
    exact ⟨ret_bool HE.out.symm, Below.refl _ _⟩
set_option maxHeartbeats 1000000 in
set_option maxRecDepth 100000 in
theorem samePair_any (w : World) {A1 A2 A3 A4 : Option Addr} {c1 c2 c3 c4 B : Nat} {p p' : Pr} (hb : (∀ x ∈ p.1, x < 256) ∧ ∀ x ∈ p.2, x < 256) (hb' : (∀ x ∈ p'.1, x < 256) ∧ ∀ x ∈ p'.2, x < 256)
    (h1 : Rd w B A1 p.1.length (bv p.1)) (h2 : Rd w B A2 p.2.length (bv p.2)) (h3 : Rd w B A3 p'.1.length (bv p'.1)) (h4 : Rd w B A4 p'.2.length (bv p'.2)) :
    Calls Try.prog 55 #[.agg #[.slice A1 p.1.length c1, .slice A2 p.2.length c2], .agg #[.slice A3 p'.1.length c3, .slice A4 p'.2.length c4]] w fun e w' => e = .returned (.bool (decide (p = p'))) ∧ Below w.heap.size w w' := by
  obtain ⟨wz, hwz⟩ : ∃ wz, (w.alloc (.cells #[.slice A1 p.1.length c1, .slice A2 p.2.length c2] 42)).alloc (.cells #[.slice A3 p'.1.length c3, .slice A4 p'.2.length c4] 42) = wz := ⟨_, rfl⟩
  have hbz : Below w.heap.size w wz := by rw [← hwz]; exact ((Below.refl _ _).alloc (Nat.le_refl _) _).alloc (by simp) _
  have HC1 := Lib.hid (equal_any wz A1 A3 p.1.length c1 p'.1.length c3 _ _ p.1 p'.1 hb.1 hb'.1 (h1.fit.below hbz) (h3.fit.below hbz))
  have HC2 := Lib.hid (equal_any wz A2 A4 p.2.length c2 p'.2.length c4 _ _ p.2 p'.2 hb.2 hb'.2 (h2.fit.below hbz) (h4.fit.below hbz))
  have HBZ := Lib.hid hbz
  have HW := Lib.hid hwz
  obtain ⟨g, hg⟩ : ∃ g, w.heap.size = g := ⟨_, rfl⟩
  have HG := Lib.hid hg
  have HV : Hid (Blk wz g 42 #[.slice A1 p.1.length c1, .slice A2 p.2.length c2] ∧ Blk wz (g + 1) 42 #[.slice A3 p'.1.length c3, .slice A4 p'.2.length c4]) := Lib.hid (by
    subst hg
    rw [← hwz]
    refine ⟨(Blk.new _ _ _).alloc _, ?_⟩
    have := Blk.new (w.alloc (.cells #[.slice A1 p.1.length c1, .slice A2 p.2.length c2] 42)) 42 #[.slice A3 p'.1.length c3, .slice A4 p'.2.length c4]
    rwa [World.size_alloc] at this)
  have HP : Hid (decide (p = p') = (decide (p.1 = p'.1) && decide (p.2 = p'.2))) := Lib.hid (by
    rw [Bool.eq_iff_iff]; simp only [decide_eq_true_eq, Bool.and_eq_true]; exact ⟨fun h => by rw [h]; exact ⟨rfl, rfl⟩, fun h => Prod.ext h.1 h.2⟩)
  clear hbz h1 h2 h3 h4 hb hb' hwz hg
  obtain ⟨q1, hq1⟩ : ∃ q, decide (p.1 = p'.1) = q := ⟨_, rfl⟩
  obtain ⟨q2, hq2⟩ : ∃ q, decide (p.2 = p'.2) = q := ⟨_, rfl⟩
  rw [hq1] at HC1 HP
  rw [hq2] at HC2 HP
  rw [HP.out]
  clear hq1 hq2 HP
  go_enter Try.func55, Try.ntmps55
  go_upto_region 1 with fail
  rw [HG.out]
  rw [HW.out]
  have hv := HV.out
  have x0 := hv.1.cell 0
  have x1 := hv.1.cell 1
  have x2 := hv.2.cell 0
  have x3 := hv.2.cell 1
  clear hv
  cases q1
  · go_wp2_with (first
      | (go_at_call 51; refine HC1.out.mono ?_; rintro e w2 ⟨rfl, rfl⟩)
      | fail)
    go_ret
    exact ⟨rfl, HBZ.out⟩
  · go_wp2_with (first
      | (go_at_call_of 51 A1; refine HC1.out.mono ?_; rintro e w2 ⟨rfl, rfl⟩)
      | (go_at_call_of 51 A2; refine HC2.out.mono ?_; rintro e w2 ⟨rfl, rfl⟩)
      | fail)
    go_ret
    exact ⟨by simp, HBZ.out⟩
set_option maxHeartbeats 2000000 in
set_option maxRecDepth 100000 in
theorem equalP_any (w : World) {A A' : Option Addr} {n c n' c' B B' : Nat} {ps ps' : List Pr} (hn : n ≤ 100000) (hn' : n' ≤ 100000) (hb : BytesP ps) (hb' : BytesP ps') (h : RdP w B A n ps) (h' : RdP w B' A' n' ps') :
    Calls Try.prog 54 #[.slice A n c, .slice A' n' c', .func (.func 55) #[] #[]] w fun e w' => e = .returned (.bool (decide (ps = ps'))) ∧ Below w.heap.size w w' := by
  have hl : ps.length = n := h.length
  have hl' : ps'.length = n' := h'.length
  by_cases hne : n = n'
  · subst hne
    have HL := Lib.hid hl
    have HL' := Lib.hid hl'
    have H := Lib.hid h.fit
    have H' := Lib.hid h'.fit
    have HB := Lib.hid hb
    have HB' := Lib.hid hb'
    clear h h' hl hl' hb hb'
    go_enter Try.func54, Try.ntmps54
    go_wp2_with fail
    go_loopw [7, 8, 9, 17] (fun _ _ _ i wr => ∃ j : Nat, j ≤ n ∧ i = .int .i64 j ∧ Hid (∀ i, i < j → ps[i]? = ps'[i]?) ∧ Hid (Below w.heap.size w wr)) (fun _ _ _ i _ => n - (intOf i).toNat)
    case atStart => exact ⟨0, Nat.zero_le _, rfl, Lib.hid (fun i hi => absurd hi (by omega)), Lib.hid (Below.refl _ _)⟩
    case round =>
      obtain ⟨j, hj, rfl, HS, HB0⟩ := hrel
      by_cases hlt : j < n
      · obtain ⟨b, o, p, A1, c1, A2, c2, rfl, hp, hcell1, hcell2, hrd1, hrd2⟩ := (H.out.below HB0.out).fit.at hlt
        obtain ⟨b', o', p', A3, c3, A4, c4, rfl, hp', hcell3, hcell4, hrd3, hrd4⟩ := (H'.out.below HB0.out).fit.at hlt
        have hlt3 := World.block_lt_of_cell? _ _ hcell3
        have hlt4 := World.block_lt_of_cell? _ _ hcell4
        have b1 : Below wr.heap.size wr (wr.alloc (.cells #[.slice A1 p.1.length c1, .slice A2 p.2.length c2] 42)) := (Below.refl _ _).alloc (Nat.le_refl _) _
        have hcell5 : (wr.alloc (.cells #[.slice A1 p.1.length c1, .slice A2 p.2.length c2] 42)).cell? ⟨b', o' + j * 2, none⟩ = some (.slice A3 p'.1.length c3) := (b1.cell (p := ⟨b', o' + j * 2, none⟩) hlt3).trans hcell3
        have hcell6 : (wr.alloc (.cells #[.slice A1 p.1.length c1, .slice A2 p.2.length c2] 42)).cell? ⟨b', o' + j * 2 + 1, none⟩ = some (.slice A4 p'.2.length c4) := (b1.cell (p := ⟨b', o' + j * 2 + 1, none⟩) hlt4).trans hcell4
        have b2 := b1.alloc b1.size (.cells #[.slice A3 p'.1.length c3, .slice A4 p'.2.length c4] 42)
        have HC := Lib.hid (samePair_any _ (c1 := c1) (c2 := c2) (c3 := c3) (c4 := c4) (HB.out p (List.mem_of_getElem? hp)) (HB'.out p' (List.mem_of_getElem? hp')) (hrd1.below b2) (hrd2.below b2) (hrd3.below b2) (hrd4.below b2))
        have HB2 := Lib.hid b2
        have HP := Lib.hid hp
        have HP' := Lib.hid hp'
        clear hp hp' hrd1 hrd2 hrd3 hrd4 hlt3 hlt4 hcell3 hcell4 b1 b2
        by_cases he : p = p'
        · have HD := Lib.hid (decide_eq_true he)
          have HE := Lib.hid he
          clear he
          go_wp2_with (first
            | (go_at_call 55; refine HC.out.mono ?_; rw [HD.out]; rintro e w2 ⟨rfl, hb2⟩)
            | fail)
          go_roundw
          case rel =>
            refine ⟨j + 1, by omega, by go_num, Lib.hid (fun i hi => ?_), Lib.hid (HB0.out.trans ((HB2.out.trans (hb2.mono HB2.out.size)).mono HB0.out.size))⟩
            rcases Nat.lt_or_ge i j with h1 | h1
            · exact HS.out i h1
            · obtain rfl : i = j := by omega
              rw [HP.out, HP'.out, HE.out]
          case measure => simp [intOf]; omega
        · have HD := Lib.hid (decide_eq_false he)
          have HE := Lib.hid (show decide (ps = ps') = false by
            rw [decide_eq_false_iff_not]
            rintro rfl
            have h1 := HP.out
            rw [HP'.out] at h1
            injection h1 with h1
            exact he h1.symm)
          clear he
          go_wp2_with (first
            | (go_at_call 55; refine HC.out.mono ?_; rw [HD.out]; rintro e w2 ⟨rfl, hb2⟩)
            | fail)
          go_ret
          exact ⟨ret_bool HE.out.symm, HB0.out.trans ((HB2.out.trans (hb2.mono HB2.out.size)).mono HB0.out.size)⟩
      · have HE := Lib.hid (show decide (ps = ps') = true by
          rw [decide_eq_true_iff]
          apply List.ext_getElem?
          intro i
          rcases Nat.lt_or_ge i n with h1 | h1
          · exact HS.out i (by omega)
          · rw [List.getElem?_eq_none (by have := HL.out; omega), List.getElem?_eq_none (by have := HL'.out; omega)])
        go_wp2_with fail
        go_ret
        exact ⟨ret_bool HE.out.symm, HB0.out⟩
  · have HE := Lib.hid (show decide (ps = ps') = false by rw [decide_eq_false_iff_not]; rintro rfl; omega)
    have hd : ((n : Int) == (n' : Int)) = false := by simp; omega
    have hd2 : ((n : Int) != (n' : Int)) = true := by simp; omega
    clear h h' hl hl' hne
    go_enter Try.func54, Try.ntmps54
    go_wp2_with fail
    go_ret
    exact ⟨ret_bool HE.out.symm, Below.refl _ _⟩
end Go.Proofs.Ytclbhcbeocapgaa
namespace Go.Proofs.Ytclbhcbeocapgaa
open Go.RowKit
set_option linter.unusedVariables false
set_option maxRecDepth 100000 in
set_option maxHeartbeats 2000000 in
theorem same8 (w : World) {a a' : OA} {s s' : Ob} {B B' : Nat} (hI : s.Inv) (hI' : s'.Inv) (h : RdO w B a s) (h' : RdO w B' a' s') :
    Calls Try.prog 14 #[objV a s, objV a' s'] w fun e w' => e = .returned (.bool (s.same s')) ∧ Below w.heap.size w w' := by
  obtain ⟨A0, c0, A1, c1, A2, c2, A3, c3⟩ := a
  obtain ⟨D0, d0, D1, d1, D2, d2, D3, d3⟩ := a'
  obtain ⟨wz, hwz⟩ : ∃ wz, (w.alloc (.cells (objC ⟨A0, c0, A1, c1, A2, c2, A3, c3⟩ s) 32)).alloc (.cells (objC ⟨D0, d0, D1, d1, D2, d2, D3, d3⟩ s') 32) = wz := ⟨_, rfl⟩
  have hbz : Below w.heap.size w wz := by rw [← hwz]; exact ((Below.refl _ _).alloc (Nat.le_refl _) _).alloc (by simp) _
  have H := Lib.hid (h.fit.below hbz)
  have H' := Lib.hid (h'.fit.below hbz)
  have HI := Lib.hid hI
  have HI' := Lib.hid hI'
  have HW := Lib.hid hwz
  have HBZ := Lib.hid hbz
  have m1 : s.q.length ≤ maxLen := by have := hI.ql; unfold maxLen; omega
  have m2 : s'.q.length ≤ maxLen := by have := hI'.ql; unfold maxLen; omega
  have m3 : s.lk.length ≤ maxLen := by have := hI.lkl; unfold maxLen; omega
  have m4 : s'.lk.length ≤ maxLen := by have := hI'.lkl; unfold maxLen; omega
  have m5 : s.mp.length ≤ 100000 := by have := hI.mp.few; omega
  have m6 : s'.mp.length ≤ 100000 := by have := hI'.mp.few; omega
  have C0 := Lib.hid (equal_any wz A0 D0 s.reg.length c0 s'.reg.length d0 _ _ s.reg s'.reg hI.regb hI'.regb H.out.r0 H'.out.r0)
  have C1 : Hid (∀ wx, Below wz.heap.size wz wx → Calls Try.prog 52 #[.slice A1 s.q.length c1, .slice D1 s'.q.length d1, .func (.func 51) #[] #[]] wx fun e w' => e = .returned (.bool (decide (s.q = s'.q))) ∧ Below wx.heap.size wx w') := Lib.hid (fun wx hb => equalQ_any wx hI.qb hI'.qb (H.out.r1.fit.below hb) (H'.out.r1.fit.below hb) m1 m2)
  have C2 : Hid (∀ wx, Below wz.heap.size wz wx → Calls Try.prog 53 #[.slice A2 s.lk.length c2, .slice D2 s'.lk.length d2] wx fun e w' => e = .returned (.bool (decide (s.lk = s'.lk))) ∧ Below wx.heap.size wx w') := Lib.hid (fun wx hb => equalI_any wx _ _ _ _ _ _ _ _ _ _ (H.out.r2.fit.below hb) (H'.out.r2.fit.below hb) m3 m4)
  have C3 : Hid (∀ wx, Below wz.heap.size wz wx → Calls Try.prog 54 #[.slice A3 s.mp.length c3, .slice D3 s'.mp.length d3, .func (.func 55) #[] #[]] wx fun e w' => e = .returned (.bool (decide (s.mp = s'.mp))) ∧ Below wx.heap.size wx w') := Lib.hid (fun wx hb => equalP_any wx m5 m6 hI.mp.byt hI'.mp.byt (H.out.r3.fit.below hb) (H'.out.r3.fit.below hb))
  have HV : Hid (Blk wz w.heap.size 32 (objC ⟨A0, c0, A1, c1, A2, c2, A3, c3⟩ s) ∧ Blk wz (w.heap.size + 1) 32 (objC ⟨D0, d0, D1, d1, D2, d2, D3, d3⟩ s')) := Lib.hid (by
    rw [← hwz]
    refine ⟨(Blk.new _ _ _).alloc _, ?_⟩
    have := Blk.new (w.alloc (.cells (objC ⟨A0, c0, A1, c1, A2, c2, A3, c3⟩ s) 32)) 32 (objC ⟨D0, d0, D1, d1, D2, d2, D3, d3⟩ s')
    rwa [World.size_alloc] at this)
  clear h h' hI hI' hwz hbz m1 m2 m3 m4 m5 m6
  obtain ⟨p1, hp1⟩ : ∃ p, decide (s.reg = s'.reg) = p := ⟨_, rfl⟩
  obtain ⟨p2, hp2⟩ : ∃ p, decide (s.q = s'.q) = p := ⟨_, rfl⟩
  obtain ⟨p3, hp3⟩ : ∃ p, decide (s.lk = s'.lk) = p := ⟨_, rfl⟩
  obtain ⟨p4, hp4⟩ : ∃ p, decide (s.mp = s'.mp) = p := ⟨_, rfl⟩
  have HS := Lib.hid (show s.same s' = (p1 && (p2 && (p3 && p4))) by unfold Ob.same; rw [hp1, hp2, hp3, hp4])
  rw [hp1] at C0
  rw [hp2] at C1
  rw [hp3] at C2
  rw [hp4] at C3
  rw [HS.out]
  clear hp1 hp2 hp3 hp4 HS
  unfold objV
  simp only [objC] at HW HV ⊢
  go_enter Try.func14, Try.ntmps14
  go_upto_region 1 with fail
  rw [HW.out]
  obtain ⟨x0, x1, x2, x3, _, _, _, _⟩ := four HV.out.1
  obtain ⟨y0, y1, y2, y3, _, _, _, _⟩ := four HV.out.2
  cases p1
  case false =>
    go_wp2_with (first
      | (go_at_call 51; refine C0.out.mono ?_; rintro e w2 ⟨rfl, rfl⟩)
      | (go_at_call 52; refine (C1.out _ (Below.refl _ _)).mono ?_; rintro e w2 ⟨rfl, hb2⟩
         have hv2 := And.intro (HV.out.1.below hb2) (HV.out.2.below hb2)
         obtain ⟨x0, x1, x2, x3, _, _, _, _⟩ := four hv2.1
         obtain ⟨y0, y1, y2, y3, _, _, _, _⟩ := four hv2.2
         clear hv2)
      | (go_at_call 53; refine (C2.out _ hb2).mono ?_; rintro e w3 ⟨rfl, hb3⟩
         have hb3' := hb2.trans (hb3.mono hb2.size)
         have hv3 := And.intro (HV.out.1.below hb3') (HV.out.2.below hb3')
         obtain ⟨x0, x1, x2, x3, _, _, _, _⟩ := four hv3.1
         obtain ⟨y0, y1, y2, y3, _, _, _, _⟩ := four hv3.2
         clear hv3)
      | (go_at_call 54; refine (C3.out _ hb3').mono ?_; rintro e w4 ⟨rfl, hb4⟩)
      | fail)
    go_ret
    exact ⟨rfl, HBZ.out⟩
  case true =>
    cases p2
    case false =>
      go_wp2_with (first
        | (go_at_call 51; refine C0.out.mono ?_; rintro e w2 ⟨rfl, rfl⟩)
        | (go_at_call 52; refine (C1.out _ (Below.refl _ _)).mono ?_; rintro e w2 ⟨rfl, hb2⟩
           have hv2 := And.intro (HV.out.1.below hb2) (HV.out.2.below hb2)
           obtain ⟨x0, x1, x2, x3, _, _, _, _⟩ := four hv2.1
           obtain ⟨y0, y1, y2, y3, _, _, _, _⟩ := four hv2.2
           clear hv2)
        | (go_at_call 53; refine (C2.out _ hb2).mono ?_; rintro e w3 ⟨rfl, hb3⟩
           have hb3' := hb2.trans (hb3.mono hb2.size)
           have hv3 := And.intro (HV.out.1.below hb3') (HV.out.2.below hb3')
           obtain ⟨x0, x1, x2, x3, _, _, _, _⟩ := four hv3.1
           obtain ⟨y0, y1, y2, y3, _, _, _, _⟩ := four hv3.2
           clear hv3)
        | (go_at_call 54; refine (C3.out _ hb3').mono ?_; rintro e w4 ⟨rfl, hb4⟩)
        | fail)
      go_ret
      exact ⟨rfl, HBZ.out.trans (hb2.mono HBZ.out.size)⟩
    case true =>
      cases p3
      case false =>
        go_wp2_with (first
          | (go_at_call 51; refine C0.out.mono ?_; rintro e w2 ⟨rfl, rfl⟩)
          | (go_at_call 52; refine (C1.out _ (Below.refl _ _)).mono ?_; rintro e w2 ⟨rfl, hb2⟩
             have hv2 := And.intro (HV.out.1.below hb2) (HV.out.2.below hb2)
             obtain ⟨x0, x1, x2, x3, _, _, _, _⟩ := four hv2.1
             obtain ⟨y0, y1, y2, y3, _, _, _, _⟩ := four hv2.2
             clear hv2)
          | (go_at_call 53; refine (C2.out _ hb2).mono ?_; rintro e w3 ⟨rfl, hb3⟩
             have hb3' := hb2.trans (hb3.mono hb2.size)
             have hv3 := And.intro (HV.out.1.below hb3') (HV.out.2.below hb3')
             obtain ⟨x0, x1, x2, x3, _, _, _, _⟩ := four hv3.1
             obtain ⟨y0, y1, y2, y3, _, _, _, _⟩ := four hv3.2
             clear hv3)
          | (go_at_call 54; refine (C3.out _ hb3').mono ?_; rintro e w4 ⟨rfl, hb4⟩)
          | fail)
        go_ret
        exact ⟨rfl, HBZ.out.trans (hb3'.mono HBZ.out.size)⟩
      case true =>
        cases p4
        case false =>
          go_wp2_with (first
            | (go_at_call 51; refine C0.out.mono ?_; rintro e w2 ⟨rfl, rfl⟩)
            | (go_at_call 52; refine (C1.out _ (Below.refl _ _)).mono ?_; rintro e w2 ⟨rfl, hb2⟩
               have hv2 := And.intro (HV.out.1.below hb2) (HV.out.2.below hb2)
               obtain ⟨x0, x1, x2, x3, _, _, _, _⟩ := four hv2.1
               obtain ⟨y0, y1, y2, y3, _, _, _, _⟩ := four hv2.2
               clear hv2)
            | (go_at_call 53; refine (C2.out _ hb2).mono ?_; rintro e w3 ⟨rfl, hb3⟩
               have hb3' := hb2.trans (hb3.mono hb2.size)
               have hv3 := And.intro (HV.out.1.below hb3') (HV.out.2.below hb3')
               obtain ⟨x0, x1, x2, x3, _, _, _, _⟩ := four hv3.1
               obtain ⟨y0, y1, y2, y3, _, _, _, _⟩ := four hv3.2
               clear hv3)
            | (go_at_call 54; refine (C3.out _ hb3').mono ?_; rintro e w4 ⟨rfl, hb4⟩)
            | fail)
          go_ret
          exact ⟨rfl, (HBZ.out.trans (hb3'.mono HBZ.out.size)).trans (hb4.mono (by have h1 := HBZ.out.size; have h2 := hb3'.size; omega))⟩
        case true =>
          go_wp2_with (first
            | (go_at_call 51; refine C0.out.mono ?_; rintro e w2 ⟨rfl, rfl⟩)
            | (go_at_call 52; refine (C1.out _ (Below.refl _ _)).mono ?_; rintro e w2 ⟨rfl, hb2⟩
               have hv2 := And.intro (HV.out.1.below hb2) (HV.out.2.below hb2)
               obtain ⟨x0, x1, x2, x3, _, _, _, _⟩ := four hv2.1
               obtain ⟨y0, y1, y2, y3, _, _, _, _⟩ := four hv2.2
               clear hv2)
            | (go_at_call 53; refine (C2.out _ hb2).mono ?_; rintro e w3 ⟨rfl, hb3⟩
               have hb3' := hb2.trans (hb3.mono hb2.size)
               have hv3 := And.intro (HV.out.1.below hb3') (HV.out.2.below hb3')
               obtain ⟨x0, x1, x2, x3, _, _, _, _⟩ := four hv3.1
               obtain ⟨y0, y1, y2, y3, _, _, _, _⟩ := four hv3.2
               clear hv3)
            | (go_at_call 54; refine (C3.out _ hb3').mono ?_; rintro e w4 ⟨rfl, hb4⟩)
            | fail)
          go_ret
          exact ⟨rfl, (HBZ.out.trans (hb3'.mono HBZ.out.size)).trans (hb4.mono (by have h1 := HBZ.out.size; have h2 := hb3'.size; omega))⟩
set_option maxRecDepth 100000 in
set_option maxHeartbeats 2000000 in
theorem sameRes8 (w : World) {A A' : Option Addr} {n c n' c' B B' : Nat} {l l' : List Nat} (e e' N N' : Int) (hl : ∀ x ∈ l, x < 256) (hl' : ∀ x ∈ l', x < 256) (h : Rd w B A n (bv l)) (h' : Rd w B' A' n' (bv l')) :
    Calls Try.prog 16 #[resV e A n c N, resV e' A' n' c' N'] w fun en w' => en = .returned (.bool (decide (e = e') && decide (l = l') && decide (N = N'))) ∧ Below w.heap.size w w' := by
  obtain ⟨wz, hwz⟩ : ∃ wz, (w.alloc (.cells #[.int .i64 e, .slice A n c, .int .i64 N] 34)).alloc (.cells #[.int .i64 e', .slice A' n' c', .int .i64 N'] 34) = wz := ⟨_, rfl⟩
  have hbz : Below w.heap.size w wz := by rw [← hwz]; exact ((Below.refl _ _).alloc (Nat.le_refl _) _).alloc (by simp) _
  have HC := Lib.hid (equal_any wz A A' n c n' c' _ _ l l' hl hl' (h.fit.below hbz) (h'.fit.below hbz))
  have HBZ := Lib.hid hbz
  have HW := Lib.hid hwz
  obtain ⟨g, hg⟩ : ∃ g, w.heap.size = g := ⟨_, rfl⟩
  have HG := Lib.hid hg
  have HV : Hid (Blk wz g 34 #[.int .i64 e, .slice A n c, .int .i64 N] ∧ Blk wz (g + 1) 34 #[.int .i64 e', .slice A' n' c', .int .i64 N']) := Lib.hid (by
    subst hg
    rw [← hwz]
    refine ⟨(Blk.new _ _ _).alloc _, ?_⟩
    have := Blk.new (w.alloc (.cells #[.int .i64 e, .slice A n c, .int .i64 N] 34)) 34 #[.int .i64 e', .slice A' n' c', .int .i64 N']
    rwa [World.size_alloc] at this)
  clear hbz h h' hl hl' hwz hg
  obtain ⟨q2, hq2⟩ : ∃ q, decide (l = l') = q := ⟨_, rfl⟩
  rw [hq2] at HC ⊢
  clear hq2
  unfold resV
  by_cases h1 : e = e'
  · subst h1
    rw [decide_eq_true rfl]
    cases q2
    · go_enter Try.func16, Try.ntmps16
      go_upto_region 1 with fail
      rw [HG.out]
      rw [HW.out]
      obtain ⟨x0, x1, x2, _, _, _⟩ := three HV.out.1
      obtain ⟨y0, y1, y2, _, _, _⟩ := three HV.out.2
      go_wp2_with (first
        | (go_at_call 51; refine HC.out.mono ?_; rintro e w2 ⟨rfl, rfl⟩)
        | fail)
      go_ret
      exact ⟨rfl, HBZ.out⟩
    · by_cases h3 : N = N'
      · subst h3
        rw [decide_eq_true rfl]
        go_enter Try.func16, Try.ntmps16
        go_upto_region 1 with fail
        rw [HG.out]
        rw [HW.out]
        obtain ⟨x0, x1, x2, _, _, _⟩ := three HV.out.1
        obtain ⟨y0, y1, y2, _, _, _⟩ := three HV.out.2
        go_wp2_with (first
          | (go_at_call 51; refine HC.out.mono ?_; rintro e w2 ⟨rfl, rfl⟩)
          | fail)
        go_ret
        exact ⟨rfl, HBZ.out⟩
      · have k3 : (N == N') = false := by simpa using h3
        rw [decide_eq_false h3]
        clear  h3
        go_enter Try.func16, Try.ntmps16
        go_upto_region 1 with fail
        rw [HG.out]
        rw [HW.out]
        obtain ⟨x0, x1, x2, _, _, _⟩ := three HV.out.1
        obtain ⟨y0, y1, y2, _, _, _⟩ := three HV.out.2
        go_wp2_with (first
          | (go_at_call 51; refine HC.out.mono ?_; rintro e w2 ⟨rfl, rfl⟩)
          | fail)
        go_ret
        exact ⟨rfl, HBZ.out⟩
  · have k1 : (e == e') = false := by simpa using h1
    rw [decide_eq_false h1]
    clear h1
    go_enter Try.func16, Try.ntmps16
    go_upto_region 1 with fail
    rw [HG.out]
    rw [HW.out]
    obtain ⟨x0, x1, x2, _, _, _⟩ := three HV.out.1
    obtain ⟨y0, y1, y2, _, _, _⟩ := three HV.out.2
    go_wp2_with fail
    go_ret
    exact ⟨rfl, HBZ.out⟩
end Go.Proofs.Ytclbhcbeocapgaa
