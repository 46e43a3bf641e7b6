/- The contracts of the document's own answer for a lock. -/
import Derived.Test.YtcmjpjhaaookfaaIntKit
import Derived.Test.YtcmjpjhaaookfaaRef4Kit
import Derived.Deep.RegionLaw
import Derived.Deep.RegionWith
import Derived.Deep.DeepCutAuto
namespace Go.Proofs.Ytcmjpjhaaookfaa
open Go.RowKit
set_option linter.unusedVariables false
theorem place_any (w : World) {A : Option Addr} {n c B : Nat} {zs : List Int} (x : Int) (h : Rd w B A n (iv zs)) (hn : n ≤ maxLen) :
    Calls Try.prog 92 #[.slice A n c, .int .i64 x] w fun e w' => e = .returned (.int .i64 (placeI zs x)) ∧ w = w' := by
  have hl : zs.length = n := by have := h.1; rwa [iv_length] at this
  unfold maxLen at hn
  have HN : Hid (n ≤ 9223372036854775807) := Lib.hid (by omega)
  have HL := Lib.hid hl
  have H := Lib.hid h
  clear h hl hn
  go_enter Try.func92, Try.ntmps92
  go_wp2
  go_loopw [5] (fun i wr => ∃ k : Nat, k ≤ n ∧ i = .int .i64 k ∧ Hid (∀ j, j < k → zs[j]? ≠ some x) ∧ w = wr) (fun i _ => n - (intOf i).toNat)
  case atStart => exact ⟨0, Nat.zero_le _, rfl, Lib.hid (fun j hj => absurd hj (by omega)), rfl⟩
  case round =>
    obtain ⟨k, hk, rfl, HS, rfl⟩ := hrel
    by_cases hlt : k < n
    · obtain ⟨z, hz⟩ : ∃ z, zs[k]? = some z := ⟨_, List.getElem?_eq_getElem (by have := HL.out; omega)⟩
      obtain ⟨b, o, rfl, _⟩ := H.out.int_at hlt
      have hc := H.out.int_cell hlt hz
      have hv : IntKind.i64.wrap ((k : Int) + 1) = (k : Int) + 1 := IntWalk.i64_in _ (by have := HN.out; omega)
      have HZ := Lib.hid hz
      clear hz
      by_cases he : z = x
      · subst he
        have HP := Lib.hid (place_first HZ.out HS.out)
        go_wp2
        go_ret
        exact ⟨ret_int HP.out.symm, rfl⟩
      · have he' : (z == x) = false := by simpa using he
        have HE := Lib.hid he
        clear he
        go_wp2
        go_roundw
        case rel =>
          refine ⟨k + 1, by omega, by go_num, Lib.hid (fun j hj => ?_), trivial⟩
          rcases Nat.lt_or_ge j k with h1 | h1
          · exact HS.out j h1
          · obtain rfl : j = k := by omega
            rw [HZ.out]
            intro h; injection h with h; exact HE.out h
        case measure => simp [intOf]; omega
    · obtain rfl : k = n := by omega
      have HP := Lib.hid (place_none (s := zs) (x := x) (by rw [HL.out]; exact HS.out))
      go_wp2
      go_ret
      exact ⟨ret_int HP.out.symm, rfl⟩
set_option maxHeartbeats 1000000 in
set_option maxRecDepth 100000 in
theorem refTake_raw {w : World} {zs : List Int} {A : Option Addr} {n c B : Nat} (x : Int) (hn : Lim 1 n) (hr : Rd w B A n (iv zs)) :
    Calls Try.prog 55 #[.slice A n c, .int .i64 x] w (GotIR w w (takeS zs x) (takeE zs x) (takeN zs x)) := by
  have hB := Below.refl w.heap.size w
  have hn := hn.out
  have HR := Lib.hid hr.fit
  obtain rfl : zs.length = n := by have := hr.1; rwa [iv_length] at this
  have b0 : Below w.heap.size w (w.alloc (.cells zeroR 34)) := (Below.refl _ _).alloc (Nat.le_refl _) _
  clear hr
  unfold takeS takeE takeN
  by_cases hx : x ∈ zs
  · rw [if_pos hx, if_pos hx, if_pos hx]
    obtain ⟨k, hk, hk1, _⟩ := place_lt hx
    have h0 : (0 : Int) ≤ (k : Int) := by omega
    have HP := Lib.hid hk
    clear hk hx
    go_enter Try.func55, Try.ntmps55
    go_wp2_with (first
      | (at_builtin
         refine wpList_append_cells (W := w) cellI (.tmp 7) (.tmp 8) rfl (by rfl) rfl (ownI_at b0 (by simp)) rfl (HR.out.below (b0.alloc (by simp) _)) (iv_one _) (by omega) (by omega) (b0.alloc (by simp) _) ?_
         intro A1 c1 w1 hown1 hB1 hg1
         simp only [Nat.zero_add] at hown1
         have HK := Lib.hid (((Blk.new w 34 zeroR).alloc (.cells #[] 3)).apart_own (ownI_at (W := w) b0 (by simp)) (by decide) hg1)
         obtain ⟨x0, x1, x2, f0, f1, f2⟩ := three HK.out
         clear hg1)
      | (go_at_call 92; refine (place_any _ x (HR.out.below hB1) (by unfold maxLen; omega)).mono ?_; rintro e w2 ⟨rfl, rfl⟩; rw [HP.out])
      | (go_at_call 49; refine (bad_any _ 6).mono ?_; rintro e w3 ⟨rfl, hb3⟩; unfold resV; clear x0 x1 x2 f0 f1 f2; have HK := Lib.hid (HK.out.below hb3); obtain ⟨x0, x1, x2, f0, f1, f2⟩ := three HK.out)
      | fail)
    obtain ⟨k1, k2, k3⟩ := put3 HK.out (.int .i64 6) (.slice none 0 0) (.int .i64 0)
    refine bodyPost_ret (results_tmp_cell_row rfl _ _ _ _ _ _ rfl k1 Try.underlying34 rfl (by kernel_rfl)) rfl ?_
    have h3 := k2 w (Nat.le_refl _) (hB1.trans (hb3.mono hB1.size))
    exact ⟨A1, c1, none, 0, rfl, k3 _ _ _ _ _ _ (ownsRow_below hown1 hb3) (by decide), own_nil _ _, h3, h3⟩
  · rw [if_neg hx, if_neg hx, if_neg hx]
    have HP := Lib.hid (place_no hx)
    clear hx
    by_cases hf : 5 ≤ zs.length
    · rw [if_pos hf, if_pos hf, if_pos hf]
      have hfi : (5 : Int) ≤ (zs.length : Int) := by omega
      go_enter Try.func55, Try.ntmps55
      go_wp2_with (first
      | (at_builtin
         refine wpList_append_cells (W := w) cellI (.tmp 7) (.tmp 8) rfl (by rfl) rfl (ownI_at b0 (by simp)) rfl (HR.out.below (b0.alloc (by simp) _)) (iv_one _) (by omega) (by omega) (b0.alloc (by simp) _) ?_
         intro A1 c1 w1 hown1 hB1 hg1
         simp only [Nat.zero_add] at hown1
         have HK := Lib.hid (((Blk.new w 34 zeroR).alloc (.cells #[] 3)).apart_own (ownI_at (W := w) b0 (by simp)) (by decide) hg1)
         obtain ⟨x0, x1, x2, f0, f1, f2⟩ := three HK.out
         clear hg1)
      | (go_at_call 92; refine (place_any _ x (HR.out.below hB1) (by unfold maxLen; omega)).mono ?_; rintro e w2 ⟨rfl, rfl⟩; rw [HP.out])
      | (go_at_call 49; refine (bad_any _ 3).mono ?_; rintro e w3 ⟨rfl, hb3⟩; unfold resV; clear x0 x1 x2 f0 f1 f2; have HK := Lib.hid (HK.out.below hb3); obtain ⟨x0, x1, x2, f0, f1, f2⟩ := three HK.out)
      | fail)
      obtain ⟨k1, k2, k3⟩ := put3 HK.out (.int .i64 3) (.slice none 0 0) (.int .i64 0)
      refine bodyPost_ret (results_tmp_cell_row rfl _ _ _ _ _ _ rfl k1 Try.underlying34 rfl (by kernel_rfl)) rfl ?_
      have h3 := k2 w (Nat.le_refl _) (hB1.trans (hb3.mono hB1.size))
      exact ⟨A1, c1, none, 0, rfl, k3 _ _ _ _ _ _ (ownsRow_below hown1 hb3) (by decide), own_nil _ _, h3, h3⟩
    · rw [if_neg hf, if_neg hf, if_neg hf]
      have hfi : ¬ (5 : Int) ≤ (zs.length : Int) := by omega
      go_enter Try.func55, Try.ntmps55
      go_upto_region 6 with (first
      | (at_builtin
         refine wpList_append_cells (W := w) cellI (.tmp 7) (.tmp 8) rfl (by rfl) rfl (ownI_at b0 (by simp)) rfl (HR.out.below (b0.alloc (by simp) _)) (iv_one _) (by omega) (by omega) (b0.alloc (by simp) _) ?_
         intro A1 c1 w1 hown1 hB1 hg1
         simp only [Nat.zero_add] at hown1
         have HK := Lib.hid (((Blk.new w 34 zeroR).alloc (.cells #[] 3)).apart_own (ownI_at (W := w) b0 (by simp)) (by decide) hg1)
         obtain ⟨x0, x1, x2, f0, f1, f2⟩ := three HK.out
         clear hg1)
      | (go_at_call 92; refine (place_any _ x (HR.out.below hB1) (by unfold maxLen; omega)).mono ?_; rintro e w2 ⟨rfl, rfl⟩; rw [HP.out])
      | fail)
      clear x0 x1 x2 f0 f1 f2
      go_wp2_with (first
        | (at_builtin
           refine wpList_append_cells (W := w) cellI (.tmp 21) (.tmp 23) rfl (by rfl) rfl (ownsRow_below hown1 ((Below.refl _ _).alloc (Nat.le_refl _) _)) rfl (Rd.oneV _ _ _) (by intro u hu; simp at hu; subst hu; rfl) (by omega) (by omega) (hB1.alloc hB1.size _) ?_
           intro A3 c3 w3 hown3 hB3 hg3
           have HK3 := Lib.hid ((HK.out.alloc (.cells #[.int .i64 x] 3)).apart_own (ownsRow_below hown1 ((Below.refl _ _).alloc (Nat.le_refl _) _)) (by decide) hg3)
           obtain ⟨x0, x1, x2, f0, f1, f2⟩ := three HK3.out
           clear hg3)
        | fail)
      obtain ⟨k1, k2, k3⟩ := put3 HK3.out (.int .i64 0) (.slice none 0 0) (.int .i64 (zs.length : Int))
      refine bodyPost_ret (results_tmp_cell_row rfl _ _ _ _ _ _ rfl k1 Try.underlying34 rfl (by kernel_rfl)) rfl ?_
      have h3 := k2 w (Nat.le_refl _) hB3
      have e : (zs ++ [x]).length = zs.length + 1 := by simp
      have h4 := k3 _ _ _ _ _ _ hown3 (by decide)
      rw [show iv [] ++ iv zs ++ [Value.int .i64 x] = iv (zs ++ [x]) by simp [iv]] at h4
      exact ⟨A3, c3, none, 0, by rw [e]; rfl, by rw [e]; exact h4, own_nil _ _, h3, h3⟩
theorem refTake_any {W w : World} {zs : List Int} {A : Option Addr} {n c B : Nat} (x : Int) (hn : Lim 1 n) (hr : Rd w B A n (iv zs)) (hB : Below W.heap.size W w) :
    Calls Try.prog 55 #[.slice A n c, .int .i64 x] w (GotIR W w (takeS zs x) (takeE zs x) (takeN zs x)) :=
  (refTake_raw x hn hr).mono fun e w' h => GotIR.of hB h
set_option maxHeartbeats 2000000 in
set_option maxRecDepth 100000 in
theorem refFree_raw {w : World} {zs : List Int} {A : Option Addr} {n c B : Nat} (x : Int) (hn : Lim 1 n) (hc : n ≤ c) (hr : Rd w B A n (iv zs)) :
    Calls Try.prog 56 #[.slice A n c, .int .i64 x] w (GotIR w w (zs.erase x) (freeE zs x) (freeN zs x)) := by
  have hB := Below.refl w.heap.size w
  have hn := hn.out
  have HR := Lib.hid hr.fit
  obtain rfl : zs.length = n := by have := hr.1; rwa [iv_length] at this
  have b0 : Below w.heap.size w (w.alloc (.cells zeroR 34)) := (Below.refl _ _).alloc (Nat.le_refl _) _
  clear hr
  unfold freeE freeN
  by_cases hx : x ∈ zs
  · rw [if_pos hx, if_pos hx]
    obtain ⟨k, hk, hk1, he⟩ := place_lt hx
    have h0 : ¬ (k : Int) < 0 := by omega
    have HP := Lib.hid hk
    rw [he]
    obtain ⟨N, hN⟩ : ∃ N, (zs.take k ++ zs.drop (k + 1)).head?.getD (-1) = N := ⟨_, rfl⟩
    obtain ⟨L, hL⟩ : ∃ L, zs.take k ++ zs.drop (k + 1) = L := ⟨_, rfl⟩
    rw [hN, hL]
    rw [hL] at hN
    have HN := Lib.hid hN
    have HLL : Hid (iv [] ++ iv (zs.take k) ++ iv (zs.drop (k + 1)) = iv L) := Lib.hid (by rw [← hL]; simp [iv])
    have HLn : Hid (L.length = zs.length - 1) := Lib.hid (by rw [← hL]; simp; omega)
    clear hN hL
    obtain ⟨i0, hi0, _, hi1, _⟩ := info_parts cellI.info
    have e1 : ∀ w : World, (Instr.slice 29 (.slice A zs.length c) none (some (.int .i64 (k : Int))) none).run Try.prog w = .ok (.slice A k c) w :=
      fun w => run_slice_to (P := Try.prog) Try.underlying29 hi0 A zs.length c k (by omega) w
    have e2 : ∀ w : World, (Instr.slice 29 (.slice A zs.length c) (some (.int .i64 ((k : Int) + 1))) none none).run Try.prog w = .ok (.slice (cutAt A c (k + 1)) (zs.length - (k + 1)) (c - (k + 1))) w :=
      fun w => by have := run_slice_from (P := Try.prog) Try.underlying29 hi0 hi1 A zs.length c (k + 1) (by omega) w; rwa [show (((k + 1 : Nat)) : Int) = (k : Int) + 1 by omega] at this
    have hw1 : IntKind.i64.wrap ((k : Int) + 1) = (k : Int) + 1 := IntWalk.i64_in _ (by omega)
    have HR1 := Lib.hid (show Rd w w.heap.size A k (iv (zs.take k)) by rw [iv_take]; exact HR.out.take (by omega))
    have HR2 := Lib.hid (show Rd w w.heap.size (cutAt A c (k + 1)) (zs.length - (k + 1)) (iv (zs.drop (k + 1))) by rw [iv_drop]; exact HR.out.drop (by omega) hc)
    clear hk hx he hi0 hi1
    go_enter Try.func56, Try.ntmps56
    go_upto_region 4 with (first
      | (go_at_call 92; refine (place_any _ x (HR.out.below b0) (by unfold maxLen; omega)).mono ?_; rintro e w2 ⟨rfl, rfl⟩; rw [HP.out])
      | fail)
    go_region_law (first
      | (refine step_append_cells (W := w) cellI (.tmp 17) (.tmp 20) rfl rfl (by rfl) (ownI_at b0.drew (by simp)) (by rfl) (HR1.out.below (b0.drew.alloc (by simp) _)) (iv_one _) (by omega) (by omega) (b0.drew.alloc (by simp) _) ?_
         intro A1 c1 w1 hown1 hB1 hg1
         have HK := Lib.hid (((Blk.new w 34 zeroR).drew.alloc (.cells #[] 3)).apart_own (ownI_at (W := w) b0.drew (by simp)) (by decide) hg1)
         simp only [Nat.zero_add] at hown1
         clear hg1)
      | (refine step_append_cells (W := w) cellI (.tmp 21) (.tmp 25) rfl rfl (by rfl) hown1 (by rfl) (HR2.out.below hB1) (iv_one _) (by omega) (by omega) hB1 ?_
         intro A2 c2 w2 hown2 hB2 hg2
         have HK2 := Lib.hid (HK.out.apart_own hown1 (by decide) hg2)
         have HO2 := Lib.hid hown2
         clear hg2 hown2))
    have hmm : k + (zs.length - (k + 1)) = L.length := by have := HLn.out; omega
    rw [hmm]
    have hown : OwnI w w2 A2 L.length c2 L := by have h := HO2.out; rw [hmm, HLL.out] at h; exact h
    have HOW := Lib.hid hown
    clear hmm hown HO2 e1 e2 hw1 HR1 HR2 HR HP HK
    rcases Nat.eq_zero_or_pos L.length with h0 | h0
    · have hz : L = [] := List.eq_nil_of_length_eq_zero h0
      subst hz
      have hN : N = -1 := HN.out.symm
      subst hN
      obtain ⟨x0, x1, x2, f0, f1, f2⟩ := three HK2.out
      clear h0
      go_wp2
      obtain ⟨k1, k2, k3⟩ := put3 HK2.out (.int .i64 0) (.slice none 0 0) (.int .i64 (-1))
      refine bodyPost_ret (results_tmp_cell_row rfl _ _ _ _ _ _ rfl k1 Try.underlying34 rfl (by kernel_rfl)) rfl ?_
      have h3 := k2 w (Nat.le_refl _) hB2
      exact ⟨none, 0, none, 0, rfl, ownI_nil _ _, own_nil _ _, h3, h3⟩
    · obtain ⟨z, hz⟩ : ∃ z, L[0]? = some z := ⟨_, List.getElem?_eq_getElem h0⟩
      have hv : N = z := by rw [← HN.out, List.head?_eq_getElem?, hz]; rfl
      subst hv
      obtain ⟨g, rfl, hg1, hg2⟩ := own_addr HOW.out h0
      have hcl := (HOW.out.cellAt 0 (by omega)).trans (iv_get hz)
      obtain ⟨x0, x1, x2, f0, f1, f2⟩ := three HK2.out
      have hne : ¬ (L.length : Int) = 0 := by omega
      have hne2 : ((L.length : Int) == 0) = false := by rw [beq_eq_false_iff_ne]; omega
      clear hz hg1 hg2
      go_wp2
      go_region
      all_goals go_wp2
      obtain ⟨k1, k2, k3⟩ := put3 HK2.out (.int .i64 0) (.slice none 0 0) (.int .i64 N)
      refine bodyPost_ret (results_tmp_cell_row rfl _ _ _ _ _ _ rfl k1.drew Try.underlying34 rfl (by kernel_rfl)) rfl ?_
      have h3 := (k2 w (Nat.le_refl _) hB2).drew
      exact ⟨some ⟨g, 0, none⟩, c2, none, 0, rfl, k3 _ _ _ _ _ _ HOW.out (by decide), own_nil _ _, h3, h3⟩
  · rw [if_neg hx, if_neg hx, List.erase_of_not_mem hx]
    have HP := Lib.hid (place_no hx)
    clear hx
    go_enter Try.func56, Try.ntmps56
    go_wp2_with (first
      | (go_at_call 92; refine (place_any _ x (HR.out.below b0) (by unfold maxLen; omega)).mono ?_; rintro e w2 ⟨rfl, rfl⟩; rw [HP.out])
      | (at_builtin
         refine wpList_append_cells (W := w) cellI (.tmp 13) (.tmp 14) rfl (by rfl) rfl (ownI_at b0 (by simp)) rfl (HR.out.below (b0.alloc (by simp) _)) (iv_one _) (by omega) (by omega) (b0.alloc (by simp) _) ?_
         intro A1 c1 w1 hown1 hB1 hg1
         simp only [Nat.zero_add] at hown1
         have HK := Lib.hid (((Blk.new w 34 zeroR).alloc (.cells #[] 3)).apart_own (ownI_at (W := w) b0 (by simp)) (by decide) hg1)
         obtain ⟨x0, x1, x2, f0, f1, f2⟩ := three HK.out
         clear hg1)
      | (go_at_call 49; refine (bad_any _ 5).mono ?_; rintro e w3 ⟨rfl, hb3⟩; unfold resV; clear x0 x1 x2 f0 f1 f2; have HK := Lib.hid (HK.out.below hb3); obtain ⟨x0, x1, x2, f0, f1, f2⟩ := three HK.out)
      | fail)
    obtain ⟨k1, k2, k3⟩ := put3 HK.out (.int .i64 5) (.slice none 0 0) (.int .i64 0)
    refine bodyPost_ret (results_tmp_cell_row rfl _ _ _ _ _ _ rfl k1 Try.underlying34 rfl (by kernel_rfl)) rfl ?_
    have h3 := k2 w (Nat.le_refl _) (hB1.trans (hb3.mono hB1.size))
    exact ⟨A1, c1, none, 0, rfl, k3 _ _ _ _ _ _ (ownsRow_below hown1 hb3) (by decide), own_nil _ _, h3, h3⟩
theorem refFree_any {W w : World} {zs : List Int} {A : Option Addr} {n c B : Nat} (x : Int) (hn : Lim 1 n) (hc : n ≤ c) (hr : Rd w B A n (iv zs)) (hB : Below W.heap.size W w) :
    Calls Try.prog 56 #[.slice A n c, .int .i64 x] w (GotIR W w (zs.erase x) (freeE zs x) (freeN zs x)) :=
  (refFree_raw x hn hc hr).mono fun e w' h => GotIR.of hB h
theorem refOwner_any (w : World) {zs : List Int} {A : Option Addr} {n c B : Nat} (hr : Rd w B A n (iv zs)) :
    Calls Try.prog 57 #[.slice A n c] w fun en w' => en = .returned (resV (ownerE zs) none 0 0 (ownerN zs)) ∧ Below w.heap.size w w' := by
  obtain rfl : zs.length = n := by have := hr.1; rwa [iv_length] at this
  unfold ownerE ownerN
  rcases Nat.eq_zero_or_pos zs.length with h0 | h0
  · have hz : zs = [] := List.eq_nil_of_length_eq_zero h0
    subst hz
    rw [if_pos h0]
    clear h0 hr
    go_enter Try.func57, Try.ntmps57
    go_wp2_with (first
      | (go_at_call 49; refine (bad_any _ 5).mono ?_; rintro e w3 ⟨rfl, hb3⟩; unfold resV; have HK := Lib.hid ((Blk.new w 34 zeroR).below hb3); obtain ⟨x0, x1, x2, f0, f1, f2⟩ := three HK.out)
      | fail)
    obtain ⟨k1, k2, k3⟩ := put3 HK.out (.int .i64 5) (.slice none 0 0) (.int .i64 0)
    refine bodyPost_ret (results_cell_row rfl _ _ _ _ _ _ _ rfl k1 Try.underlying34 rfl (by kernel_rfl)) rfl ?_
    have b0 : Below w.heap.size w (w.alloc (.cells zeroR 34)) := (Below.refl _ _).alloc (Nat.le_refl _) _
    exact ⟨rfl, k2 w (Nat.le_refl _) (b0.trans (hb3.mono b0.size))⟩
  · rw [if_neg (by omega)]
    have hne : ((zs.length : Int) == 0) = false := by rw [beq_eq_false_iff_ne]; omega
    obtain ⟨z, hz⟩ : ∃ z, zs[0]? = some z := ⟨_, List.getElem?_eq_getElem h0⟩
    obtain ⟨b, o, rfl, _⟩ := hr.int_at h0
    have hc := hr.int_cell h0 hz
    have hv : zs.head?.getD 0 = z := by rw [List.head?_eq_getElem?, hz]; rfl
    rw [hv]
    rw [Nat.add_zero] at hc
    have b0 : Below w.heap.size w (w.alloc (.cells zeroR 34)) := (Below.refl _ _).alloc (Nat.le_refl _) _
    have hc0 := (b0.cell (p := ⟨b, o, none⟩) (World.block_lt_of_cell? _ _ hc)).trans hc
    clear hv hz hc hr
    go_enter Try.func57, Try.ntmps57
    go_wp2
    refine bodyPost_ret (results_cell_row rfl _ _ _ _ _ _ _ rfl (Blk.new w 34 #[.int .i64 0, .slice none 0 0, .int .i64 z]) Try.underlying34 rfl (by kernel_rfl)) rfl ?_
    exact ⟨rfl, (Below.refl _ _).alloc (Nat.le_refl _) _⟩
end Go.Proofs.Ytcmjpjhaaookfaa
