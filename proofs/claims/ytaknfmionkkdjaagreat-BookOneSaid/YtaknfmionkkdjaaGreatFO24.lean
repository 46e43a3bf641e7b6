/- LockRef LockC0 LockWalks LockWalks2 -/
import Derived.Test.YtaknfmionkkdjaaGreatFO03
import Derived.Test.YtaknfmionkkdjaaGreatFO04
import Derived.Test.YtaknfmionkkdjaaGreatFO08
import Derived.Deep.DeepCutAuto
import Derived.Deep.RegionLaw
import Derived.Deep.RegionWith
namespace Go.Proofs.YtaknfmionkkdjaaGreat
open Go.RowKit
set_option linter.unusedVariables false
theorem place_any (w : World) {A : Option Addr} {n c B : Nat} {zs : List Int} (x : Int) (h : Rd w B A n (iv zs)) (hn : n ≤ maxLen) :
    Calls Tryz.prog 111 #[.slice A n c, .int .i64 x] w fun e w' => e = .returned (.int .i64 (placeI zs x)) ∧ w = w' := by
  have hl : zs.length = n := by have := h.1; rwa [iv_length] at this
  unfold maxLen at hn
  have HN : Hid (n ≤ 9223372036854775807) := Lib.hid (by omega)
  have HL := Lib.hid hl
  have H := Lib.hid h
  clear h hl hn
  go_enter Tryz.func111, Tryz.ntmps111
  go_wp2
  go_loopw [5] (fun i wr => ∃ k : Nat, k ≤ n ∧ i = .int .i64 k ∧ Hid (∀ j, j < k → zs[j]? ≠ some x) ∧ w = wr) (fun i _ => n - (intOf i).toNat)
  case atStart => exact ⟨0, Nat.zero_le _, rfl, Lib.hid (fun j hj => absurd hj (by omega)), rfl⟩
  case round =>
    obtain ⟨k, hk, rfl, HS, rfl⟩ := hrel
    by_cases hlt : k < n
    · obtain ⟨z, hz⟩ : ∃ z, zs[k]? = some z := ⟨_, List.getElem?_eq_getElem (by have := HL.out; omega)⟩
      obtain ⟨b, o, rfl, _⟩ := H.out.int_at hlt
      have hc := H.out.int_cell hlt hz
      have hv : IntKind.i64.wrap ((k : Int) + 1) = (k : Int) + 1 := IntWalk.i64_in _ (by have := HN.out; omega)
      have HZ := Lib.hid hz
      clear hz
      by_cases he : z = x
      · subst he
        have HP := Lib.hid (place_first HZ.out HS.out)
        go_wp2
        go_ret
        exact ⟨ret_int HP.out.symm, rfl⟩
      · have he' : (z == x) = false := by simpa using he
        have HE := Lib.hid he
        clear he
        go_wp2
        go_roundw
        case rel =>
          refine ⟨k + 1, by omega, by go_num, Lib.hid (fun j hj => ?_), trivial⟩
          rcases Nat.lt_or_ge j k with h1 | h1
          · exact HS.out j h1
          · obtain rfl : j = k := by omega
            rw [HZ.out]
            intro h; injection h with h; exact HE.out h
        case measure => simp [intOf]; omega
    · obtain rfl : k = n := by omega
      have HP := Lib.hid (place_none (s := zs) (x := x) (by rw [HL.out]; exact HS.out))
      go_wp2
      go_ret
      exact ⟨ret_int HP.out.symm, rfl⟩
set_option maxHeartbeats 1000000 in
set_option maxRecDepth 100000 in
theorem refTake_raw {w : World} {zs : List Int} {A : Option Addr} {n c B : Nat} (x : Int) (hn : Lim 1 n) (hr : Rd w B A n (iv zs)) :
    Calls Tryz.prog 80 #[.slice A n c, .int .i64 x] w (GotIR w w (takeS zs x) (takeE zs x) (takeN zs x)) := by
  have hB := Below.refl w.heap.size w
  have hn := hn.out
  have HR := Lib.hid hr.fit
  obtain rfl : zs.length = n := by have := hr.1; rwa [iv_length] at this
  have b0 : Below w.heap.size w (w.alloc (.cells zeroR 47)) := (Below.refl _ _).alloc (Nat.le_refl _) _
  clear hr
  unfold takeS takeE takeN
  by_cases hx : x ∈ zs
  · rw [if_pos hx, if_pos hx, if_pos hx]
    obtain ⟨k, hk, hk1, _⟩ := place_lt hx
    have h0 : (0 : Int) ≤ (k : Int) := by omega
    have HP := Lib.hid hk
    clear hk hx
    go_enter Tryz.func80, Tryz.ntmps80
    go_wp2_with (first
      | (at_builtin
         refine wpList_append_cells (W := w) cellI (.tmp 7) (.tmp 8) rfl (by rfl) rfl (ownI_at b0 (by simp)) rfl (HR.out.below (b0.alloc (by simp) _)) (iv_one _) (by omega) (by omega) (b0.alloc (by simp) _) ?_
         intro A1 c1 w1 hown1 hB1 hg1
         simp only [Nat.zero_add] at hown1
         have HK := Lib.hid (((Blk.new w 47 zeroR).alloc (.cells #[] 3)).apart_own (ownI_at (W := w) b0 (by simp)) (by decide) hg1)
         obtain ⟨x0, x1, x2, f0, f1, f2⟩ := three HK.out
         clear hg1)
      | (go_at_call 111; refine (place_any _ x (HR.out.below hB1) (by unfold maxLen; omega)).mono ?_; rintro e w2 ⟨rfl, rfl⟩; rw [HP.out])
      | (go_at_call 69; refine (bad_any _ 6).mono ?_; rintro e w3 ⟨rfl, hb3⟩; unfold resV; clear x0 x1 x2 f0 f1 f2; have HK := Lib.hid (HK.out.below hb3); obtain ⟨x0, x1, x2, f0, f1, f2⟩ := three HK.out)
      | fail)
    obtain ⟨k1, k2, k3⟩ := put3 HK.out (.int .i64 6) (.slice none 0 0) (.int .i64 0)
    refine bodyPost_ret (results_tmp_cell_row rfl _ _ _ _ _ _ rfl k1 Tryz.underlying47 rfl (by kernel_rfl)) rfl ?_
    have h3 := k2 w (Nat.le_refl _) (hB1.trans (hb3.mono hB1.size))
    exact ⟨A1, c1, none, 0, rfl, k3 _ _ _ _ _ _ (ownsRow_below hown1 hb3) (by decide), own_nil _ _, h3, h3⟩
  · rw [if_neg hx, if_neg hx, if_neg hx]
    have HP := Lib.hid (place_no hx)
    clear hx
    by_cases hf : 5 ≤ zs.length
    · rw [if_pos hf, if_pos hf, if_pos hf]
      have hfi : (5 : Int) ≤ (zs.length : Int) := by omega
      go_enter Tryz.func80, Tryz.ntmps80
      go_wp2_with (first
      | (at_builtin
         refine wpList_append_cells (W := w) cellI (.tmp 7) (.tmp 8) rfl (by rfl) rfl (ownI_at b0 (by simp)) rfl (HR.out.below (b0.alloc (by simp) _)) (iv_one _) (by omega) (by omega) (b0.alloc (by simp) _) ?_
         intro A1 c1 w1 hown1 hB1 hg1
         simp only [Nat.zero_add] at hown1
         have HK := Lib.hid (((Blk.new w 47 zeroR).alloc (.cells #[] 3)).apart_own (ownI_at (W := w) b0 (by simp)) (by decide) hg1)
         obtain ⟨x0, x1, x2, f0, f1, f2⟩ := three HK.out
         clear hg1)
      | (go_at_call 111; refine (place_any _ x (HR.out.below hB1) (by unfold maxLen; omega)).mono ?_; rintro e w2 ⟨rfl, rfl⟩; rw [HP.out])
      | (go_at_call 69; refine (bad_any _ 3).mono ?_; rintro e w3 ⟨rfl, hb3⟩; unfold resV; clear x0 x1 x2 f0 f1 f2; have HK := Lib.hid (HK.out.below hb3); obtain ⟨x0, x1, x2, f0, f1, f2⟩ := three HK.out)
      | fail)
      obtain ⟨k1, k2, k3⟩ := put3 HK.out (.int .i64 3) (.slice none 0 0) (.int .i64 0)
      refine bodyPost_ret (results_tmp_cell_row rfl _ _ _ _ _ _ rfl k1 Tryz.underlying47 rfl (by kernel_rfl)) rfl ?_
      have h3 := k2 w (Nat.le_refl _) (hB1.trans (hb3.mono hB1.size))
      exact ⟨A1, c1, none, 0, rfl, k3 _ _ _ _ _ _ (ownsRow_below hown1 hb3) (by decide), own_nil _ _, h3, h3⟩
    · rw [if_neg hf, if_neg hf, if_neg hf]
      have hfi : ¬ (5 : Int) ≤ (zs.length : Int) := by omega
      go_enter Tryz.func80, Tryz.ntmps80
      go_upto_region 6 with (first
      | (at_builtin
         refine wpList_append_cells (W := w) cellI (.tmp 7) (.tmp 8) rfl (by rfl) rfl (ownI_at b0 (by simp)) rfl (HR.out.below (b0.alloc (by simp) _)) (iv_one _) (by omega) (by omega) (b0.alloc (by simp) _) ?_
         intro A1 c1 w1 hown1 hB1 hg1
         simp only [Nat.zero_add] at hown1
         have HK := Lib.hid (((Blk.new w 47 zeroR).alloc (.cells #[] 3)).apart_own (ownI_at (W := w) b0 (by simp)) (by decide) hg1)
         obtain ⟨x0, x1, x2, f0, f1, f2⟩ := three HK.out
         clear hg1)
      | (go_at_call 111; refine (place_any _ x (HR.out.below hB1) (by unfold maxLen; omega)).mono ?_; rintro e w2 ⟨rfl, rfl⟩; rw [HP.out])
      | fail)
      clear x0 x1 x2 f0 f1 f2
      go_wp2_with (first
        | (at_builtin
           refine wpList_append_cells (W := w) cellI (.tmp 21) (.tmp 23) rfl (by rfl) rfl (ownsRow_below hown1 ((Below.refl _ _).alloc (Nat.le_refl _) _)) rfl (Rd.oneV _ _ _) (by intro u hu; simp at hu; subst hu; rfl) (by omega) (by omega) (hB1.alloc hB1.size _) ?_
           intro A3 c3 w3 hown3 hB3 hg3
           have HK3 := Lib.hid ((HK.out.alloc (.cells #[.int .i64 x] 3)).apart_own (ownsRow_below hown1 ((Below.refl _ _).alloc (Nat.le_refl _) _)) (by decide) hg3)
           obtain ⟨x0, x1, x2, f0, f1, f2⟩ := three HK3.out
           clear hg3)
        | fail)
      obtain ⟨k1, k2, k3⟩ := put3 HK3.out (.int .i64 0) (.slice none 0 0) (.int .i64 (zs.length : Int))
      refine bodyPost_ret (results_tmp_cell_row rfl _ _ _ _ _ _ rfl k1 Tryz.underlying47 rfl (by kernel_rfl)) rfl ?_
      have h3 := k2 w (Nat.le_refl _) hB3
      have e : (zs ++ [x]).length = zs.length + 1 := by simp
      have h4 := k3 _ _ _ _ _ _ hown3 (by decide)
      rw [show iv [] ++ iv zs ++ [Value.int .i64 x] = iv (zs ++ [x]) by simp [iv]] at h4
      exact ⟨A3, c3, none, 0, by rw [e]; rfl, by rw [e]; exact h4, own_nil _ _, h3, h3⟩
theorem refTake_any {W w : World} {zs : List Int} {A : Option Addr} {n c B : Nat} (x : Int) (hn : Lim 1 n) (hr : Rd w B A n (iv zs)) (hB : Below W.heap.size W w) :
    Calls Tryz.prog 80 #[.slice A n c, .int .i64 x] w (GotIR W w (takeS zs x) (takeE zs x) (takeN zs x)) :=
  (refTake_raw x hn hr).mono fun e w' h => GotIR.of hB h
set_option maxHeartbeats 2000000 in
set_option maxRecDepth 100000 in
theorem refFree_raw {w : World} {zs : List Int} {A : Option Addr} {n c B : Nat} (x : Int) (hn : Lim 1 n) (hc : n ≤ c) (hr : Rd w B A n (iv zs)) :
    Calls Tryz.prog 81 #[.slice A n c, .int .i64 x] w (GotIR w w (zs.erase x) (freeE zs x) (freeN zs x)) := by
  have hB := Below.refl w.heap.size w
  have hn := hn.out
  have HR := Lib.hid hr.fit
  obtain rfl : zs.length = n := by have := hr.1; rwa [iv_length] at this
  have b0 : Below w.heap.size w (w.alloc (.cells zeroR 47)) := (Below.refl _ _).alloc (Nat.le_refl _) _
  clear hr
  unfold freeE freeN
  by_cases hx : x ∈ zs
  · rw [if_pos hx, if_pos hx]
    obtain ⟨k, hk, hk1, he⟩ := place_lt hx
    have h0 : ¬ (k : Int) < 0 := by omega
    have HP := Lib.hid hk
    rw [he]
    obtain ⟨N, hN⟩ : ∃ N, (zs.take k ++ zs.drop (k + 1)).head?.getD (-1) = N := ⟨_, rfl⟩
    obtain ⟨L, hL⟩ : ∃ L, zs.take k ++ zs.drop (k + 1) = L := ⟨_, rfl⟩
    rw [hN, hL]
    rw [hL] at hN
    have HN := Lib.hid hN
    have HLL : Hid (iv [] ++ iv (zs.take k) ++ iv (zs.drop (k + 1)) = iv L) := Lib.hid (by rw [← hL]; simp [iv])
    have HLn : Hid (L.length = zs.length - 1) := Lib.hid (by rw [← hL]; simp; omega)
    clear hN hL
    obtain ⟨i0, hi0, _, hi1, _⟩ := info_parts cellI.info
    have e1 : ∀ w : World, (Instr.slice 22 (.slice A zs.length c) none (some (.int .i64 (k : Int))) none).run Tryz.prog w = .ok (.slice A k c) w :=
      fun w => run_slice_to (P := Tryz.prog) Tryz.underlying22 hi0 A zs.length c k (by omega) w
    have e2 : ∀ w : World, (Instr.slice 22 (.slice A zs.length c) (some (.int .i64 ((k : Int) + 1))) none none).run Tryz.prog w = .ok (.slice (cutAt A c (k + 1)) (zs.length - (k + 1)) (c - (k + 1))) w :=
      fun w => by have := run_slice_from (P := Tryz.prog) Tryz.underlying22 hi0 hi1 A zs.length c (k + 1) (by omega) w; rwa [show (((k + 1 : Nat)) : Int) = (k : Int) + 1 by omega] at this
    have hw1 : IntKind.i64.wrap ((k : Int) + 1) = (k : Int) + 1 := IntWalk.i64_in _ (by omega)
    have HR1 := Lib.hid (show Rd w w.heap.size A k (iv (zs.take k)) by rw [iv_take]; exact HR.out.take (by omega))
    have HR2 := Lib.hid (show Rd w w.heap.size (cutAt A c (k + 1)) (zs.length - (k + 1)) (iv (zs.drop (k + 1))) by rw [iv_drop]; exact HR.out.drop (by omega) hc)
    clear hk hx he hi0 hi1
    go_enter Tryz.func81, Tryz.ntmps81
    go_upto_region 4 with (first
      | (go_at_call 111; refine (place_any _ x (HR.out.below b0) (by unfold maxLen; omega)).mono ?_; rintro e w2 ⟨rfl, rfl⟩; rw [HP.out])
      | fail)
    go_region_law (first
      | (refine step_append_cells (W := w) cellI (.tmp 17) (.tmp 20) rfl rfl (by rfl) (ownI_at b0.drew (by simp)) (by rfl) (HR1.out.below (b0.drew.alloc (by simp) _)) (iv_one _) (by omega) (by omega) (b0.drew.alloc (by simp) _) ?_
         intro A1 c1 w1 hown1 hB1 hg1
         have HK := Lib.hid (((Blk.new w 47 zeroR).drew.alloc (.cells #[] 3)).apart_own (ownI_at (W := w) b0.drew (by simp)) (by decide) hg1)
         simp only [Nat.zero_add] at hown1
         clear hg1)
      | (refine step_append_cells (W := w) cellI (.tmp 21) (.tmp 25) rfl rfl (by rfl) hown1 (by rfl) (HR2.out.below hB1) (iv_one _) (by omega) (by omega) hB1 ?_
         intro A2 c2 w2 hown2 hB2 hg2
         have HK2 := Lib.hid (HK.out.apart_own hown1 (by decide) hg2)
         have HO2 := Lib.hid hown2
         clear hg2 hown2))
    have hmm : k + (zs.length - (k + 1)) = L.length := by have := HLn.out; omega
    rw [hmm]
    have hown : OwnI w w2 A2 L.length c2 L := by have h := HO2.out; rw [hmm, HLL.out] at h; exact h
    have HOW := Lib.hid hown
    clear hmm hown HO2 e1 e2 hw1 HR1 HR2 HR HP HK
    rcases Nat.eq_zero_or_pos L.length with h0 | h0
    · have hz : L = [] := List.eq_nil_of_length_eq_zero h0
      subst hz
      have hN : N = -1 := HN.out.symm
      subst hN
      obtain ⟨x0, x1, x2, f0, f1, f2⟩ := three HK2.out
      clear h0
      go_wp2
      obtain ⟨k1, k2, k3⟩ := put3 HK2.out (.int .i64 0) (.slice none 0 0) (.int .i64 (-1))
      refine bodyPost_ret (results_tmp_cell_row rfl _ _ _ _ _ _ rfl k1 Tryz.underlying47 rfl (by kernel_rfl)) rfl ?_
      have h3 := k2 w (Nat.le_refl _) hB2
      exact ⟨none, 0, none, 0, rfl, ownI_nil _ _, own_nil _ _, h3, h3⟩
    · obtain ⟨z, hz⟩ : ∃ z, L[0]? = some z := ⟨_, List.getElem?_eq_getElem h0⟩
      have hv : N = z := by rw [← HN.out, List.head?_eq_getElem?, hz]; rfl
      subst hv
      obtain ⟨g, rfl, hg1, hg2⟩ := own_addr HOW.out h0
      have hcl := (HOW.out.cellAt 0 (by omega)).trans (iv_get hz)
      obtain ⟨x0, x1, x2, f0, f1, f2⟩ := three HK2.out
      have hne : ¬ (L.length : Int) = 0 := by omega
      have hne2 : ((L.length : Int) == 0) = false := by rw [beq_eq_false_iff_ne]; omega
      clear hz hg1 hg2
      go_wp2
      go_region
      all_goals go_wp2
      obtain ⟨k1, k2, k3⟩ := put3 HK2.out (.int .i64 0) (.slice none 0 0) (.int .i64 N)
      refine bodyPost_ret (results_tmp_cell_row rfl _ _ _ _ _ _ rfl k1.drew Tryz.underlying47 rfl (by kernel_rfl)) rfl ?_
      have h3 := (k2 w (Nat.le_refl _) hB2).drew
      exact ⟨some ⟨g, 0, none⟩, c2, none, 0, rfl, k3 _ _ _ _ _ _ HOW.out (by decide), own_nil _ _, h3, h3⟩
  · rw [if_neg hx, if_neg hx, List.erase_of_not_mem hx]
    have HP := Lib.hid (place_no hx)
    clear hx
    go_enter Tryz.func81, Tryz.ntmps81
    go_wp2_with (first
      | (go_at_call 111; refine (place_any _ x (HR.out.below b0) (by unfold maxLen; omega)).mono ?_; rintro e w2 ⟨rfl, rfl⟩; rw [HP.out])
      | (at_builtin
         refine wpList_append_cells (W := w) cellI (.tmp 13) (.tmp 14) rfl (by rfl) rfl (ownI_at b0 (by simp)) rfl (HR.out.below (b0.alloc (by simp) _)) (iv_one _) (by omega) (by omega) (b0.alloc (by simp) _) ?_
         intro A1 c1 w1 hown1 hB1 hg1
         simp only [Nat.zero_add] at hown1
         have HK := Lib.hid (((Blk.new w 47 zeroR).alloc (.cells #[] 3)).apart_own (ownI_at (W := w) b0 (by simp)) (by decide) hg1)
         obtain ⟨x0, x1, x2, f0, f1, f2⟩ := three HK.out
         clear hg1)
      | (go_at_call 69; refine (bad_any _ 5).mono ?_; rintro e w3 ⟨rfl, hb3⟩; unfold resV; clear x0 x1 x2 f0 f1 f2; have HK := Lib.hid (HK.out.below hb3); obtain ⟨x0, x1, x2, f0, f1, f2⟩ := three HK.out)
      | fail)
    obtain ⟨k1, k2, k3⟩ := put3 HK.out (.int .i64 5) (.slice none 0 0) (.int .i64 0)
    refine bodyPost_ret (results_tmp_cell_row rfl _ _ _ _ _ _ rfl k1 Tryz.underlying47 rfl (by kernel_rfl)) rfl ?_
    have h3 := k2 w (Nat.le_refl _) (hB1.trans (hb3.mono hB1.size))
    exact ⟨A1, c1, none, 0, rfl, k3 _ _ _ _ _ _ (ownsRow_below hown1 hb3) (by decide), own_nil _ _, h3, h3⟩
theorem refFree_any {W w : World} {zs : List Int} {A : Option Addr} {n c B : Nat} (x : Int) (hn : Lim 1 n) (hc : n ≤ c) (hr : Rd w B A n (iv zs)) (hB : Below W.heap.size W w) :
    Calls Tryz.prog 81 #[.slice A n c, .int .i64 x] w (GotIR W w (zs.erase x) (freeE zs x) (freeN zs x)) :=
  (refFree_raw x hn hc hr).mono fun e w' h => GotIR.of hB h
theorem refOwner_any (w : World) {zs : List Int} {A : Option Addr} {n c B : Nat} (hr : Rd w B A n (iv zs)) :
    Calls Tryz.prog 82 #[.slice A n c] w fun en w' => en = .returned (resV (ownerE zs) none 0 0 (ownerN zs)) ∧ Below w.heap.size w w' := by
  obtain rfl : zs.length = n := by have := hr.1; rwa [iv_length] at this
  unfold ownerE ownerN
  rcases Nat.eq_zero_or_pos zs.length with h0 | h0
  · have hz : zs = [] := List.eq_nil_of_length_eq_zero h0
    subst hz
    rw [if_pos h0]
    clear h0 hr
    go_enter Tryz.func82, Tryz.ntmps82
    go_wp2_with (first
      | (go_at_call 69; refine (bad_any _ 5).mono ?_; rintro e w3 ⟨rfl, hb3⟩; unfold resV; have HK := Lib.hid ((Blk.new w 47 zeroR).below hb3); obtain ⟨x0, x1, x2, f0, f1, f2⟩ := three HK.out)
      | fail)
    obtain ⟨k1, k2, k3⟩ := put3 HK.out (.int .i64 5) (.slice none 0 0) (.int .i64 0)
    refine bodyPost_ret (results_cell_row rfl _ _ _ _ _ _ _ rfl k1 Tryz.underlying47 rfl (by kernel_rfl)) rfl ?_
    have b0 : Below w.heap.size w (w.alloc (.cells zeroR 47)) := (Below.refl _ _).alloc (Nat.le_refl _) _
    exact ⟨rfl, k2 w (Nat.le_refl _) (b0.trans (hb3.mono b0.size))⟩
  · rw [if_neg (by omega)]
    have hne : ((zs.length : Int) == 0) = false := by rw [beq_eq_false_iff_ne]; omega
    obtain ⟨z, hz⟩ : ∃ z, zs[0]? = some z := ⟨_, List.getElem?_eq_getElem h0⟩
    obtain ⟨b, o, rfl, _⟩ := hr.int_at h0
    have hc := hr.int_cell h0 hz
    have hv : zs.head?.getD 0 = z := by rw [List.head?_eq_getElem?, hz]; rfl
    rw [hv]
    rw [Nat.add_zero] at hc
    have b0 : Below w.heap.size w (w.alloc (.cells zeroR 47)) := (Below.refl _ _).alloc (Nat.le_refl _) _
    have hc0 := (b0.cell (p := ⟨b, o, none⟩) (World.block_lt_of_cell? _ _ hc)).trans hc
    clear hv hz hc hr
    go_enter Tryz.func82, Tryz.ntmps82
    go_wp2
    refine bodyPost_ret (results_cell_row rfl _ _ _ _ _ _ _ rfl (Blk.new w 47 #[.int .i64 0, .slice none 0 0, .int .i64 z]) Tryz.underlying47 rfl (by kernel_rfl)) rfl ?_
    exact ⟨rfl, (Below.refl _ _).alloc (Nat.le_refl _) _⟩
end Go.Proofs.YtaknfmionkkdjaaGreat

namespace Go.Proofs.YtaknfmionkkdjaaGreat
open Go.RowKit
set_option linter.unusedVariables false
def TakeC : Prop := ∀ {W w : World} {zs : List Int} {A : Option Addr} {n c B : Nat} (x : Int), n ≤ 100000 → n ≤ c → Rd w B A n (iv zs) → Below W.heap.size W w →
    Calls Tryz.prog 102 #[.slice A n c, .int .i64 x] w (GotIR W w (takeS zs x) (takeE zs x) (takeN zs x))
def FreeC : Prop := ∀ {W w : World} {zs : List Int} {A : Option Addr} {n c B : Nat} (x : Int), n ≤ 100000 → n ≤ c → zs.Nodup → Rd w B A n (iv zs) → Below W.heap.size W w →
    Calls Tryz.prog 103 #[.slice A n c, .int .i64 x] w (GotIR W w (zs.erase x) (freeE zs x) (freeN zs x))
def OwnerC : Prop := ∀ {W w : World} {zs : List Int} {A : Option Addr} {n c B : Nat}, n ≤ 100000 → n ≤ c → Rd w B A n (iv zs) → Below W.heap.size W w →
    Calls Tryz.prog 104 #[.slice A n c] w (GotR W w (ownerE zs) [] (ownerN zs))
end Go.Proofs.YtaknfmionkkdjaaGreat

namespace Go.Proofs.YtaknfmionkkdjaaGreat
open Go.RowKit
set_option linter.unusedVariables false
/-- integers that a call made -/
def GotI (W w : World) (l : List Int) (en : Ending) (w' : World) : Prop :=
  ∃ A c, en = .returned (.slice A l.length c) ∧ OwnI W w' A l.length c l ∧ Below W.heap.size W w' ∧ Below w.heap.size w w'
theorem GotI.of {W w w' : World} {l : List Int} {en : Ending} (hB : Below W.heap.size W w) (h : GotI w w l en w') : GotI W w l en w' := by
  obtain ⟨A, c, h1, h2, h3, h4⟩ := h
  exact ⟨A, c, h1, own_of hB.size h2, hB.trans (h3.mono hB.size), h4⟩
set_option maxRecDepth 100000 in
theorem cloneI_raw {w : World} {zs : List Int} {A : Option Addr} {n c B : Nat} (hn : n ≤ 100000) (hr : Rd w B A n (iv zs)) :
    Calls Tryz.prog 87 #[.slice A n c] w (GotI w w zs) := by
  have H := Lib.hid hr.fit
  have hB0 : Below w.heap.size w w := Below.refl _ _
  obtain rfl : zs.length = n := by have := hr.1; rwa [iv_length] at this
  cases A with
  | none =>
    have h0 : zs.length = 0 := by
      rcases Nat.eq_zero_or_pos zs.length with h | h
      · exact h
      · obtain ⟨b, o, h1, _⟩ := hr.2 h
        cases h1
    have hl : zs = [] := List.eq_nil_of_length_eq_zero h0
    subst hl
    clear hr H h0
    have he : ∀ (w : World) (n : Nat), (binOp .eql 22 (.slice none n c) (.slice none 0 0)).run Tryz.prog w = .ok (.bool true) w := fun _ _ => rfl
    go_enter Tryz.func87, Tryz.ntmps87
    go_wp2
    go_ret
    exact ⟨none, 0, rfl, ownI_nil _ _, hB0, hB0⟩
  | some a =>
    clear hr
    have he : ∀ (w : World) (n : Nat), (binOp .eql 22 (.slice (some a) n c) (.slice none 0 0)).run Tryz.prog w = .ok (.bool false) w := fun _ _ => rfl
    go_enter Tryz.func87, Tryz.ntmps87
    go_wp2_with (first
      | (at_builtin
         refine wpList_append_cells (W := w) cellI (.tmp 5) (.tmp 6) rfl (by rfl) rfl (ownI_empty hB0) rfl (H.out.below (hB0.alloc (Nat.le_refl _) _)) (iv_one _) (by omega) (by omega) (hB0.alloc (Nat.le_refl _) _) ?_
         intro A1 c1 w1 hown1 hB1 hg1
         simp only [Nat.zero_add] at hown1)
      | fail)
    go_ret
    exact ⟨A1, c1, rfl, hown1, hB1, hB1⟩
theorem cloneI_any {W w : World} {zs : List Int} {A : Option Addr} {n c B : Nat} (hn : n ≤ 100000) (hr : Rd w B A n (iv zs)) (hB : Below W.heap.size W w) :
    Calls Tryz.prog 87 #[.slice A n c] w (GotI W w zs) :=
  (cloneI_raw hn hr).mono fun e w' h => GotI.of hB h
theorem index_any (w : World) {A : Option Addr} {n c B : Nat} {zs : List Int} (x : Int) (h : Rd w B A n (iv zs)) (hn : n ≤ maxLen) :
    Calls Tryz.prog 125 #[.slice A n c, .int .i64 x] w fun e w' => e = .returned (.int .i64 (placeI zs x)) ∧ w = w' := by
  have hl : zs.length = n := by have := h.1; rwa [iv_length] at this
  unfold maxLen at hn
  have HN : Hid (n ≤ 9223372036854775807) := Lib.hid (by omega)
  have HL := Lib.hid hl
  have H := Lib.hid h
  clear h hl hn
  go_enter Tryz.func125, Tryz.ntmps125
  go_wp2
  go_loopw [8] (fun i wr => ∃ k : Nat, k ≤ n ∧ i = .int .i64 k ∧ Hid (∀ j, j < k → zs[j]? ≠ some x) ∧ w = wr) (fun i _ => n - (intOf i).toNat)
  case atStart => exact ⟨0, Nat.zero_le _, rfl, Lib.hid (fun j hj => absurd hj (by omega)), rfl⟩
  case round =>
    obtain ⟨k, hk, rfl, HS, rfl⟩ := hrel
    by_cases hlt : k < n
    · obtain ⟨z, hz⟩ : ∃ z, zs[k]? = some z := ⟨_, List.getElem?_eq_getElem (by have := HL.out; omega)⟩
      obtain ⟨b, o, rfl, _⟩ := H.out.int_at hlt
      have hc := H.out.int_cell hlt hz
      have hv : IntKind.i64.wrap ((k : Int) + 1) = (k : Int) + 1 := IntWalk.i64_in _ (by have := HN.out; omega)
      have HZ := Lib.hid hz
      clear hz
      by_cases he : z = x
      · subst he
        have HP := Lib.hid (place_first HZ.out HS.out)
        go_wp2
        go_ret
        exact ⟨ret_int HP.out.symm, rfl⟩
      · have he' : (x == z) = false := by simpa using fun h => he h.symm
        have HE := Lib.hid he
        clear he
        go_wp2
        go_roundw
        case rel =>
          refine ⟨k + 1, by omega, by go_num, Lib.hid (fun j hj => ?_), trivial⟩
          rcases Nat.lt_or_ge j k with h1 | h1
          · exact HS.out j h1
          · obtain rfl : j = k := by omega
            rw [HZ.out]
            intro h; injection h with h; exact HE.out h
        case measure => simp [intOf]; omega
    · obtain rfl : k = n := by omega
      have HP := Lib.hid (place_none (s := zs) (x := x) (by rw [HL.out]; exact HS.out))
      go_wp2
      go_ret
      exact ⟨ret_int HP.out.symm, rfl⟩
theorem contains_any (w : World) {A : Option Addr} {n c B : Nat} {zs : List Int} (x : Int) (h : Rd w B A n (iv zs)) (hn : n ≤ maxLen) :
    Calls Tryz.prog 117 #[.slice A n c, .int .i64 x] w fun e w' => e = .returned (.bool (decide (x ∈ zs))) ∧ w = w' := by
  have H := Lib.hid h
  clear h
  by_cases hx : x ∈ zs
  · obtain ⟨k, hk, hk1, _⟩ := place_lt hx
    have h0 : (0 : Int) ≤ (k : Int) := by omega
    have HP := Lib.hid hk
    rw [decide_eq_true hx]
    clear hk hx
    go_enter Tryz.func117, Tryz.ntmps117
    go_wp2_with (first
      | (go_at_call 125; refine (index_any _ x H.out hn).mono ?_; rintro e w2 ⟨rfl, rfl⟩; rw [HP.out])
      | fail)
    go_ret
    exact ⟨rfl, rfl⟩
  · have HP := Lib.hid (place_no hx)
    rw [decide_eq_false hx]
    clear hx
    go_enter Tryz.func117, Tryz.ntmps117
    go_wp2_with (first
      | (go_at_call 125; refine (index_any _ x H.out hn).mono ?_; rintro e w2 ⟨rfl, rfl⟩; rw [HP.out])
      | fail)
    go_ret
    exact ⟨rfl, rfl⟩
/-- those that are not x -/
def noX (zs : List Int) (x : Int) : List Int := zs.filter (fun z => !(z == x))
set_option maxRecDepth 100000 in
theorem without_raw {w : World} {zs : List Int} {A : Option Addr} {n c B : Nat} (x : Int) (hn : n ≤ 100000) (hr : Rd w B A n (iv zs)) :
    Calls Tryz.prog 118 #[.slice A n c, .int .i64 x] w (GotI w w (noX zs x)) := by
  have HR := Lib.hid hr.fit
  have hl : zs.length = n := by have := hr.1; rwa [iv_length] at this
  have HL := Lib.hid hl
  obtain ⟨i0, hi0, hi1, hi2, hi3⟩ := info_parts cellI.info
  clear hr hl
  go_enter Tryz.func118, Tryz.ntmps118
  go_wp2_with (first
    | (at_make
       refine wpList_make_own w rfl _ _ 22 rfl w.heap.size 3 i0 _ 1 Tryz.underlying22 hi0 hi1 hi2 _ _ _ n rfl rfl (by rfl) (by rw [hi3]; omega) (by unfold maxLen; omega) (Nat.le_refl _) ?_
       intro w0 hown0 hg0)
    | fail)
  go_loopw [5, 13] (fun s5 s13 wr => ∃ (k m c' : Nat) (A' : Option Addr), k ≤ n ∧ m ≤ k ∧ s13 = .int .i64 (k : Int) ∧ s5 = .slice A' m c' ∧ Hid (OwnI w wr A' m c' (noX (zs.take k) x)) ∧ Hid (Below w.heap.size w wr)) (fun _ s13 _ => n - (intOf s13).toNat)
  case atStart => exact ⟨0, 0, _, _, Nat.zero_le _, Nat.zero_le _, rfl, rfl, Lib.hid hown0, Lib.hid ((Below.refl _ _).grown hg0 (Nat.le_refl _) (fun k hk => by cases hk))⟩
  case round =>
    obtain ⟨k, m, c', A', hk, hmk, rfl, rfl, HO, HB⟩ := hrel
    by_cases hlt : k < n
    · obtain ⟨z, hz⟩ : ∃ z, zs[k]? = some z := ⟨_, List.getElem?_eq_getElem (by have := HL.out; omega)⟩
      obtain ⟨b, o, rfl, _⟩ := (HR.out.below HB.out).int_at hlt
      have hc := (HR.out.below HB.out).int_cell hlt hz
      have hv : IntKind.i64.wrap ((k : Int) + 1) = (k : Int) + 1 := IntWalk.i64_in _ (by omega)
      have HZ := Lib.hid hz
      clear hz
      by_cases he : z = x
      · subst he
        go_wp2_with fail
        go_roundw
        case rel =>
          refine ⟨k + 1, m, c', A', by omega, by omega, by go_num, rfl, Lib.hid ?_, HB⟩
          have h := HO.out
          rw [show noX (zs.take (k + 1)) z = noX (zs.take k) z by rw [List.take_add_one, HZ.out]; simp [noX]]
          exact h
        case measure => simp only [intOf]; omega
      · have he' : (z == x) = false := by simpa using he
        have HE := Lib.hid he'
        go_wp2_with (first
          | (at_builtin
             refine wpList_append_cells (W := w) cellI (.tmp 20) (.tmp 22) rfl (by rfl) rfl (ownsRow_below HO.out ((Below.refl _ _).alloc (Nat.le_refl _) _)) rfl (Rd.oneV _ _ _) (by intro u hu; simp at hu; subst hu; rfl) (by omega) (by omega) (HB.out.alloc HB.out.size _) ?_
             intro A3 c3 w3 hown3 hB3 hg3)
          | fail)
        go_roundw
        case rel =>
          refine ⟨k + 1, m + 1, c3, A3, by omega, by omega, by go_num, rfl, Lib.hid ?_, Lib.hid hB3⟩
          rw [show noX (zs.take (k + 1)) x = noX (zs.take k) x ++ [z] by rw [List.take_add_one, HZ.out]; simp [noX, HE.out]]
          unfold OwnI
          rw [show iv (noX (zs.take k) x ++ [z]) = iv (noX (zs.take k) x) ++ [Value.int .i64 z] by simp [iv]]
          exact hown3
        case measure => simp only [intOf]; omega
    · obtain rfl : k = n := by omega
      go_wp2_with fail
      go_ret
      have HO2 := HO.out
      rw [List.take_of_length_le (by have := HL.out; omega)] at HO2
      obtain rfl := ownI_len HO2
      exact ⟨A', c', rfl, HO2, HB.out, HB.out⟩
theorem without_any {W w : World} {zs : List Int} {A : Option Addr} {n c B : Nat} (x : Int) (hn : n ≤ 100000) (hr : Rd w B A n (iv zs)) (hB : Below W.heap.size W w) :
    Calls Tryz.prog 118 #[.slice A n c, .int .i64 x] w (GotI W w (noX zs x)) :=
  (without_raw x hn hr).mono fun e w' h => GotI.of hB h
end Go.Proofs.YtaknfmionkkdjaaGreat

namespace Go.Proofs.YtaknfmionkkdjaaGreat
open Go.RowKit
set_option linter.unusedVariables false
theorem nox_erase {zs : List Int} (x : Int) (h : zs.Nodup) : noX zs x = zs.erase x := by
  unfold noX
  rw [List.Nodup.erase_eq_filter h]
  rfl
set_option maxHeartbeats 1000000 in
set_option maxRecDepth 100000 in
theorem take_raw {w : World} {zs : List Int} {A : Option Addr} {n c B : Nat} (x : Int) (hn : n ≤ 100000) (hr : Rd w B A n (iv zs)) :
    Calls Tryz.prog 102 #[.slice A n c, .int .i64 x] w (GotIR w w (takeS zs x) (takeE zs x) (takeN zs x)) := by
  have hB := Below.refl w.heap.size w
  have HR := Lib.hid hr.fit
  obtain rfl : zs.length = n := by have := hr.1; rwa [iv_length] at this
  have b0 : Below w.heap.size w (w.alloc (.cells zeroR 47)) := (Below.refl _ _).alloc (Nat.le_refl _) _
  clear hr
  unfold takeS takeE takeN
  by_cases hx : x ∈ zs
  · rw [if_pos hx, if_pos hx, if_pos hx]
    have HX := Lib.hid (decide_eq_true hx)
    clear hx
    go_enter Tryz.func102, Tryz.ntmps102
    go_wp2_with (first
      | (go_at_call 87; refine (cloneI_any (W := w) hn (HR.out.below b0) b0).mono ?_; rintro e w1 ⟨A1, c1, rfl, hown1, hB1, hb1⟩
         have HK := Lib.hid ((Blk.new w 47 zeroR).below hb1); obtain ⟨x0, x1, x2, f0, f1, f2⟩ := three HK.out)
      | (go_at_call 117; refine (contains_any _ x (HR.out.below hB1) (by unfold maxLen; omega)).mono ?_; rintro e w2 ⟨rfl, rfl⟩; rw [HX.out])
      | fail)
    obtain ⟨k1, k2, k3⟩ := put3 HK.out (.int .i64 6) (.slice none 0 0) (.int .i64 0)
    refine bodyPost_ret (results_tmp_cell_row rfl _ _ _ _ _ _ rfl k1 Tryz.underlying47 rfl (by kernel_rfl)) rfl ?_
    have h3 := k2 w (Nat.le_refl _) hB1
    exact ⟨A1, c1, none, 0, rfl, k3 _ _ _ _ _ _ hown1 (by decide), own_nil _ _, h3, h3⟩
  · rw [if_neg hx, if_neg hx, if_neg hx]
    have HX := Lib.hid (decide_eq_false hx)
    clear hx
    by_cases hf : 5 ≤ zs.length
    · rw [if_pos hf, if_pos hf, if_pos hf]
      have hfi : (5 : Int) ≤ (zs.length : Int) := by omega
      go_enter Tryz.func102, Tryz.ntmps102
      go_wp2_with (first
      | (go_at_call 87; refine (cloneI_any (W := w) hn (HR.out.below b0) b0).mono ?_; rintro e w1 ⟨A1, c1, rfl, hown1, hB1, hb1⟩
         have HK := Lib.hid ((Blk.new w 47 zeroR).below hb1); obtain ⟨x0, x1, x2, f0, f1, f2⟩ := three HK.out)
      | (go_at_call 117; refine (contains_any _ x (HR.out.below hB1) (by unfold maxLen; omega)).mono ?_; rintro e w2 ⟨rfl, rfl⟩; rw [HX.out])
      | fail)
      obtain ⟨k1, k2, k3⟩ := put3 HK.out (.int .i64 3) (.slice none 0 0) (.int .i64 0)
      refine bodyPost_ret (results_tmp_cell_row rfl _ _ _ _ _ _ rfl k1 Tryz.underlying47 rfl (by kernel_rfl)) rfl ?_
      have h3 := k2 w (Nat.le_refl _) hB1
      exact ⟨A1, c1, none, 0, rfl, k3 _ _ _ _ _ _ hown1 (by decide), own_nil _ _, h3, h3⟩
    · rw [if_neg hf, if_neg hf, if_neg hf]
      have hfi : ¬ (5 : Int) ≤ (zs.length : Int) := by omega
      go_enter Tryz.func102, Tryz.ntmps102
      go_wp2_with (first
      | (go_at_call 87; refine (cloneI_any (W := w) hn (HR.out.below b0) b0).mono ?_; rintro e w1 ⟨A1, c1, rfl, hown1, hB1, hb1⟩
         have HK := Lib.hid ((Blk.new w 47 zeroR).below hb1))
      | (go_at_call 117; refine (contains_any _ x (HR.out.below hB1) (by unfold maxLen; omega)).mono ?_; rintro e w2 ⟨rfl, rfl⟩; rw [HX.out])
      | (at_builtin
         refine wpList_append_cells (W := w) cellI (.tmp 19) (.tmp 21) rfl (by rfl) rfl (ownsRow_below hown1 ((Below.refl _ _).alloc (Nat.le_refl _) _)) rfl (Rd.oneV _ _ _) (by intro u hu; simp at hu; subst hu; rfl) (by omega) (by omega) (hB1.alloc hB1.size _) ?_
         intro A3 c3 w3 hown3 hB3 hg3
         have HK3 := Lib.hid ((HK.out.alloc (.cells #[.int .i64 x] 3)).apart_own (ownsRow_below hown1 ((Below.refl _ _).alloc (Nat.le_refl _) _)) (by decide) hg3)
         obtain ⟨x0, x1, x2, f0, f1, f2⟩ := three HK3.out
         clear hg3)
      | fail)
      obtain ⟨k1, k2, k3⟩ := put3 HK3.out (.int .i64 0) (.slice none 0 0) (.int .i64 (zs.length : Int))
      refine bodyPost_ret (results_tmp_cell_row rfl _ _ _ _ _ _ rfl k1 Tryz.underlying47 rfl (by kernel_rfl)) rfl ?_
      have h3 := k2 w (Nat.le_refl _) hB3
      have e : (zs ++ [x]).length = zs.length + 1 := by simp
      have h4 := k3 _ _ _ _ _ _ hown3 (by decide)
      rw [show iv zs ++ [Value.int .i64 x] = iv (zs ++ [x]) by simp [iv]] at h4
      exact ⟨A3, c3, none, 0, by rw [e]; rfl, by rw [e]; exact h4, own_nil _ _, h3, h3⟩
theorem take_any : TakeC := fun x hn hc hr hB => (take_raw x hn hr).mono fun e w' h => GotIR.of hB h
set_option maxHeartbeats 1000000 in
set_option maxRecDepth 100000 in
theorem free_raw {w : World} {zs : List Int} {A : Option Addr} {n c B : Nat} (x : Int) (hn : n ≤ 100000) (hd : zs.Nodup) (hr : Rd w B A n (iv zs)) :
    Calls Tryz.prog 103 #[.slice A n c, .int .i64 x] w (GotIR w w (zs.erase x) (freeE zs x) (freeN zs x)) := by
  have hB := Below.refl w.heap.size w
  have HR := Lib.hid hr.fit
  obtain rfl : zs.length = n := by have := hr.1; rwa [iv_length] at this
  have b0 : Below w.heap.size w (w.alloc (.cells zeroR 47)) := (Below.refl _ _).alloc (Nat.le_refl _) _
  clear hr
  have HNX := Lib.hid (nox_erase x hd)
  clear hd
  unfold freeE freeN
  by_cases hx : x ∈ zs
  · rw [if_pos hx, if_pos hx]
    have hl : (zs.erase x).length = zs.length - 1 := List.length_erase_of_mem hx
    have hp : 0 < zs.length := List.length_pos_of_mem hx
    obtain ⟨L, hL⟩ : ∃ L, zs.erase x = L := ⟨_, rfl⟩
    rw [hL] at hl HNX ⊢
    have HL := Lib.hid hl
    have hne : ((L.length : Int) == (zs.length : Int)) = false := by rw [beq_eq_false_iff_ne]; omega
    clear hx hL hl hp
    rcases Nat.eq_zero_or_pos L.length with h0 | h0
    · have hz : L = [] := List.eq_nil_of_length_eq_zero h0
      subst hz
      have hne0 : ((0 : Int) == (zs.length : Int)) = false := hne
      clear h0
      go_enter Tryz.func103, Tryz.ntmps103
      go_wp2_with (first
        | (go_at_call 118; refine (without_any (W := w) x hn (HR.out.below b0) b0).mono ?_; rw [HNX.out]; rintro e w1 ⟨A1, c1, rfl, hown1, hB1, hb1⟩
           have HK := Lib.hid ((Blk.new w 47 zeroR).below hb1); obtain ⟨x0, x1, x2, f0, f1, f2⟩ := three HK.out)
        | fail)
      obtain ⟨k1, k2, k3⟩ := put3 HK.out (.int .i64 0) (.slice none 0 0) (.int .i64 (-1))
      refine bodyPost_ret (results_tmp_cell_row rfl _ _ _ _ _ _ rfl k1 Tryz.underlying47 rfl (by kernel_rfl)) rfl ?_
      have h3 := k2 w (Nat.le_refl _) hB1
      exact ⟨none, 0, none, 0, rfl, ownI_nil _ _, own_nil _ _, h3, h3⟩
    · obtain ⟨z, hz⟩ : ∃ z, L[0]? = some z := ⟨_, List.getElem?_eq_getElem h0⟩
      have hv : L.head?.getD (-1) = z := by rw [List.head?_eq_getElem?, hz]; rfl
      rw [hv]
      have hne2 : ((L.length : Int) == 0) = false := by rw [beq_eq_false_iff_ne]; omega
      have HZ := Lib.hid hz
      clear hv hz
      go_enter Tryz.func103, Tryz.ntmps103
      go_wp2_with (first
        | (go_at_call 118; refine (without_any (W := w) x hn (HR.out.below b0) b0).mono ?_; rw [HNX.out]; rintro e w1 ⟨A1, c1, rfl, hown1, hB1, hb1⟩
           have HK := Lib.hid ((Blk.new w 47 zeroR).below hb1); obtain ⟨x0, x1, x2, f0, f1, f2⟩ := three HK.out
           have HOW := Lib.hid hown1; obtain ⟨g, rfl, hg1, hg2⟩ := own_addr hown1 h0; have hcl := (hown1.cellAt 0 (by omega)).trans (iv_get HZ.out); clear hown1 hg1 hg2)
        | fail)
      go_region
      all_goals go_wp2
      obtain ⟨k1, k2, k3⟩ := put3 HK.out (.int .i64 0) (.slice none 0 0) (.int .i64 z)
      refine bodyPost_ret (results_tmp_cell_row rfl _ _ _ _ _ _ rfl k1.drew Tryz.underlying47 rfl (by kernel_rfl)) rfl ?_
      have h3 := (k2 w (Nat.le_refl _) hB1).drew
      exact ⟨some ⟨g, 0, none⟩, c1, none, 0, rfl, k3 _ _ _ _ _ _ HOW.out (by decide), own_nil _ _, h3, h3⟩
  · rw [if_neg hx, if_neg hx]
    rw [List.erase_of_not_mem hx] at HNX ⊢
    clear hx
    go_enter Tryz.func103, Tryz.ntmps103
    go_wp2_with (first
      | (go_at_call 118; refine (without_any (W := w) x hn (HR.out.below b0) b0).mono ?_; rw [HNX.out]; rintro e w1 ⟨A1, c1, rfl, hown1, hB1, hb1⟩
         have HK := Lib.hid ((Blk.new w 47 zeroR).below hb1); obtain ⟨x0, x1, x2, f0, f1, f2⟩ := three HK.out)
      | fail)
    obtain ⟨k1, k2, k3⟩ := put3 HK.out (.int .i64 5) (.slice none 0 0) (.int .i64 0)
    refine bodyPost_ret (results_tmp_cell_row rfl _ _ _ _ _ _ rfl k1 Tryz.underlying47 rfl (by kernel_rfl)) rfl ?_
    have h3 := k2 w (Nat.le_refl _) hB1
    exact ⟨A1, c1, none, 0, rfl, k3 _ _ _ _ _ _ hown1 (by decide), own_nil _ _, h3, h3⟩
theorem free_any : FreeC := fun x hn hc hd hr hB => (free_raw x hn hd hr).mono fun e w' h => GotIR.of hB h
theorem owner_raw (w : World) {zs : List Int} {A : Option Addr} {n c B : Nat} (hr : Rd w B A n (iv zs)) :
    Calls Tryz.prog 104 #[.slice A n c] w fun en w' => en = .returned (resV (ownerE zs) none 0 0 (ownerN zs)) ∧ Below w.heap.size w w' := by
  obtain rfl : zs.length = n := by have := hr.1; rwa [iv_length] at this
  unfold ownerE ownerN
  have b0 : Below w.heap.size w (w.alloc (.cells zeroR 47)) := (Below.refl _ _).alloc (Nat.le_refl _) _
  rcases Nat.eq_zero_or_pos zs.length with h0 | h0
  · have hz : zs = [] := List.eq_nil_of_length_eq_zero h0
    subst hz
    rw [if_pos h0]
    clear h0 hr
    go_enter Tryz.func104, Tryz.ntmps104
    go_wp2
    refine bodyPost_ret (results_cell_row rfl _ _ _ _ _ _ _ rfl (Blk.new w 47 #[.int .i64 5, .slice none 0 0, .int .i64 0]) Tryz.underlying47 rfl (by kernel_rfl)) rfl ?_
    exact ⟨rfl, (Below.refl _ _).alloc (Nat.le_refl _) _⟩
  · rw [if_neg (by omega)]
    have hne : ((zs.length : Int) == 0) = false := by rw [beq_eq_false_iff_ne]; omega
    obtain ⟨z, hz⟩ : ∃ z, zs[0]? = some z := ⟨_, List.getElem?_eq_getElem h0⟩
    obtain ⟨b, o, rfl, _⟩ := hr.int_at h0
    have hc := hr.int_cell h0 hz
    have hv : zs.head?.getD 0 = z := by rw [List.head?_eq_getElem?, hz]; rfl
    rw [hv]
    rw [Nat.add_zero] at hc
    have hc0 := (b0.cell (p := ⟨b, o, none⟩) (World.block_lt_of_cell? _ _ hc)).trans hc
    clear hv hz hc hr
    go_enter Tryz.func104, Tryz.ntmps104
    go_wp2
    refine bodyPost_ret (results_cell_row rfl _ _ _ _ _ _ _ rfl (Blk.new w 47 #[.int .i64 0, .slice none 0 0, .int .i64 z]) Tryz.underlying47 rfl (by kernel_rfl)) rfl ?_
    exact ⟨rfl, (Below.refl _ _).alloc (Nat.le_refl _) _⟩
theorem owner_any : OwnerC := fun hn hc hr hB => (owner_raw _ hr).mono fun e w' h => ⟨none, 0, h.1, own_nil _ _, hB.trans (h.2.mono hB.size), h.2⟩
end Go.Proofs.YtaknfmionkkdjaaGreat

