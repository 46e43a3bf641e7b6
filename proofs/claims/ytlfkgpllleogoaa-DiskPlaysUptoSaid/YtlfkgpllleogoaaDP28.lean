/- RefUnfour -/
import Derived.Test.YtlfkgpllleogoaaDP27
namespace Go.Proofs.Ytlfkgpllleogoaa
open Go.RowKit
set_option linter.unusedVariables false
theorem u8_bne {x y : Nat} {D : Bool} (h : decide (x ≠ y) = D) : ((x : Int) != (y : Int)) = D := by
  rw [← h, Bool.eq_iff_iff]
  simp only [bne_iff_ne, ne_eq, decide_eq_true_eq]
  omega
set_option maxHeartbeats 4000000 in
set_option maxRecDepth 100000 in
theorem refUnfour_raw {w : World} {A : Option Addr} {n c B : Nat} {l : List Nat} (hl : ∀ x ∈ l, x < 256) (hn : l.length ≤ 2000000) (hc : n ≤ c ∧ c ≤ maxLen) (h : Rd w B A n (bv l)) : Calls Try.prog 55 #[.slice A n c] w (GotU w w (Fr.unf l)) := by
  have hln := h.length
  by_cases h4 : n < 4
  · have hu : Fr.unf l = none := by unfold Fr.unf; rw [if_pos (by omega)]
    rw [hu]
    clear hu h hl hn hln
    go_enter Try.func55, Try.ntmps55
    go_wp2
    go_ret2
    exact ⟨none, 0, rfl, own_nil _ _, Below.refl _ _, Below.refl _ _⟩
  · obtain ⟨x0, x1, x2, x3, D, rfl⟩ : ∃ x0 x1 x2 x3 D, l = x0 :: x1 :: x2 :: x3 :: D := by
      match l, hln with
      | x0 :: x1 :: x2 :: x3 :: D, _ => exact ⟨x0, x1, x2, x3, D, rfl⟩
      | [], e => simp at e; omega
      | [_], e => simp at e; omega
      | [_, _], e => simp at e; omega
      | [_, _, _], e => simp at e; omega
    obtain ⟨bl, o, rfl, _⟩ := h.bytes_at (k := 0) (by omega)
    have cell : ∀ k, (hk : k < n) → (x : Nat) → (x0 :: x1 :: x2 :: x3 :: D)[k]? = some x → w.cell? ⟨bl, o + k, none⟩ = some (.int .u8 (x : Int)) := fun k hk x hx => by
      obtain ⟨b', o', e, hk', hcell⟩ := h.bytes_at (k := k) hk
      injection e with e
      injection e with e1 e2
      subst e1; subst e2
      rw [hcell]
      rw [List.getElem?_eq_getElem hk'] at hx
      injection hx with hx
      rw [hx]
    have y0 : w.cell? ⟨bl, o, none⟩ = some (.int .u8 (x0 : Int)) := cell 0 (by omega) x0 rfl
    have y1 : w.cell? ⟨bl, o + 1, none⟩ = some (.int .u8 (x1 : Int)) := cell 1 (by omega) x1 rfl
    have y2 : w.cell? ⟨bl, o + 2, none⟩ = some (.int .u8 (x2 : Int)) := cell 2 (by omega) x2 rfl
    have y3 : w.cell? ⟨bl, o + 3, none⟩ = some (.int .u8 (x3 : Int)) := cell 3 (by omega) x3 rfl
    have HRD : Hid (Rd w w.heap.size (cutAt (some ⟨bl, o, none⟩) c 4) (n - 4) (bv D)) := Lib.hid (by
      have q := h.fit.drop (k := 4) (by omega) hc.1
      exact q)
    have HDB : Hid (∀ x ∈ D, x < 256) := Lib.hid (fun x hx => hl x (by simp [hx]))
    have HDL : Hid (D.length = n - 4) := Lib.hid (by simp at hln; omega)
    obtain ⟨s, hs⟩ : ∃ s, Crc.sum D = s := ⟨_, rfl⟩
    have hu : Fr.unf (x0 :: x1 :: x2 :: x3 :: D) = if [x0, x1, x2, x3] = Fr.four s then some D else none := by
      unfold Fr.unf
      rw [if_neg (by simp), ← hs]
      rfl
    have C := Lib.hid (refsum_any D HDB.out (cutAt (some ⟨bl, o, none⟩) c 4) (n - 4) (c - 4) w.heap.size (by unfold maxLen; have := HDL.out; simp at hn; omega) w HRD.out)
    rw [hs] at C
    obtain ⟨i9, hi1, hi2, hi3, hi4⟩ := info_parts byteT.info
    have hs2 : ∀ w : World, (Instr.slice 22 (.slice (some ⟨bl, o, none⟩) n c) (some (.int .i64 4)) none none).run Try.prog w = .ok (.slice (cutAt (some ⟨bl, o, none⟩) c 4) (n - 4) (c - 4)) w := fun w => run_slice_from (P := Try.prog) (t := 22) byteT.under hi1 hi3 (some ⟨bl, o, none⟩) n c 4 (by omega) w
    obtain ⟨E0, d0⟩ : ∃ E, decide (x0 ≠ s % 256) = E := ⟨_, rfl⟩
    obtain ⟨E1, d1⟩ : ∃ E, decide (x1 ≠ s / 256 % 256) = E := ⟨_, rfl⟩
    obtain ⟨E2, d2⟩ : ∃ E, decide (x2 ≠ s / 65536 % 256) = E := ⟨_, rfl⟩
    obtain ⟨E3, d3⟩ : ∃ E, decide (x3 ≠ s / 16777216 % 256) = E := ⟨_, rfl⟩
    have hb0 : ((x0 : Int) != (s : Int) % 256) = E0 := u8_bne (y := s % 256) d0
    have hb1 : ((x1 : Int) != (s : Int) / 256 % 256) = E1 := u8_bne (y := s / 256 % 256) d1
    have hb2 : ((x2 : Int) != (s : Int) / 65536 % 256) = E2 := u8_bne (y := s / 65536 % 256) d2
    have hb3 : ((x3 : Int) != (s : Int) / 16777216 % 256) = E3 := u8_bne (y := s / 16777216 % 256) d3
    have hcut : ([x0, x1, x2, x3] = Fr.four s) ↔ E0 = false ∧ E1 = false ∧ E2 = false ∧ E3 = false := by
      rw [← d0, ← d1, ← d2, ← d3]
      simp only [Fr.four, List.cons.injEq, and_true, decide_eq_false_iff_not, ne_eq, Decidable.not_not]
    have HU := Lib.hid hu
    have HNN : Hid (n - 4 ≤ 2000000) := Lib.hid (by have := HDL.out; simp at hn; omega)
    have HCUT := Lib.hid hcut
    have hn4 : ¬ (n : Int) < 4 := by omega
    have i0 : (0 : Int) < (n : Int) := by omega
    have i1 : (1 : Int) < (n : Int) := by omega
    have i2 : (2 : Int) < (n : Int) := by omega
    have i3 : (3 : Int) < (n : Int) := by omega
    obtain ⟨AD, hAD⟩ : ∃ x, cutAt (some ⟨bl, o, none⟩) c 4 = x := ⟨_, rfl⟩
    rw [hAD] at HRD C hs2
    clear hl hc h hs hu cell hi1 hi2 hi3 hi4 d0 d1 d2 d3 hcut hAD hln hn
    rw [HU.out]
    go_enter Try.func55, Try.ntmps55
    go_upto_region 4 with (first
      | (go_at_call 72; refine C.out.mono ?_; rintro e w' ⟨rfl, rfl⟩)
      | fail)
    cases E0 with
    | true =>
      have HN : Hid (¬ [x0, x1, x2, x3] = Fr.four s) := Lib.hid (fun h => by have := HCUT.out.1 h; simp at this)
      go_wp2
      go_ret2
      try rw [if_neg HN.out]
      exact ⟨none, 0, rfl, own_nil _ _, Below.refl _ _, Below.refl _ _⟩
    | false =>
      cases E1 with
      | true =>
        have HN : Hid (¬ [x0, x1, x2, x3] = Fr.four s) := Lib.hid (fun h => by have := HCUT.out.1 h; simp at this)
        go_wp2
        go_ret2
        try rw [if_neg HN.out]
        exact ⟨none, 0, rfl, own_nil _ _, Below.refl _ _, Below.refl _ _⟩
      | false =>
        cases E2 with
        | true =>
          have HN : Hid (¬ [x0, x1, x2, x3] = Fr.four s) := Lib.hid (fun h => by have := HCUT.out.1 h; simp at this)
          go_wp2
          go_ret2
          try rw [if_neg HN.out]
          exact ⟨none, 0, rfl, own_nil _ _, Below.refl _ _, Below.refl _ _⟩
        | false =>
          cases E3 with
          | true =>
            have HN : Hid (¬ [x0, x1, x2, x3] = Fr.four s) := Lib.hid (fun h => by have := HCUT.out.1 h; simp at this)
            go_wp2
            go_ret2
            try rw [if_neg HN.out]
            exact ⟨none, 0, rfl, own_nil _ _, Below.refl _ _, Below.refl _ _⟩
          | false =>
            have HY : Hid ([x0, x1, x2, x3] = Fr.four s) := Lib.hid (HCUT.out.2 ⟨rfl, rfl, rfl, rfl⟩)
            have HNL : Hid (n - 4 ≤ 2000000) := Lib.hid HNN.out
            go_wp2_with (first
              | (at_builtin
                 refine wpList_append_bytes (W := w) byteT (.tmp 44) (.tmp 46) rfl (by rfl) rfl (own_empty (Below.refl _ _) 5) rfl (HRD.out.alloc (Nat.le_refl _) _) (by have := HNL.out; omega) ((Below.refl _ _).alloc (Nat.le_refl _) _) ?_
                 intro A3 c3 w3 ho3 hr3 hB3
                 simp only [Nat.zero_add, List.nil_append] at ho3 hr3
                 have HO3 := Lib.hid ho3
                 have HB3 := Lib.hid hB3
                 clear ho3 hr3 hB3)
              | fail)
            go_ret2
            try rw [if_pos HY.out]
            have e := HDL.out
            refine ⟨A3, c3, by rw [show ((some D).getD []).length = n - 4 from e]; rfl, ?_, HB3.out, HB3.out⟩
            show OwnB w w3 A3 D.length c3 D
            rw [e]
            exact HO3.out
theorem refUnfour {W w : World} {A : Option Addr} {n c B : Nat} {l : List Nat} (hl : ∀ x ∈ l, x < 256) (hn : l.length ≤ 2000000) (hc : n ≤ c ∧ c ≤ maxLen) (h : Rd w B A n (bv l)) (hB : Below W.heap.size W w) : Calls Try.prog 55 #[.slice A n c] w (GotU W w (Fr.unf l)) :=
  (refUnfour_raw hl hn hc h).mono fun e w' ⟨A, c, h1, h2, h3, h4⟩ => ⟨A, c, h1, own_of hB.size h2, hB.trans (h3.mono hB.size), h4⟩
end Go.Proofs.Ytlfkgpllleogoaa

