/- The contracts of the code: a lock's Take, Free and Owner. -/
import Derived.Test.YtcmjpjhaaookfaaLockWalks
namespace Go.Proofs.Ytcmjpjhaaookfaa
open Go.RowKit
set_option linter.unusedVariables false
theorem nox_not {zs : List Int} {x : Int} (h : x ∉ zs) : noX zs x = zs := by
  unfold noX
  rw [List.filter_eq_self]
  intro a ha
  simp only [Bool.not_eq_true', beq_eq_false_iff_ne]
  rintro rfl; exact h ha
theorem nox_erase {zs : List Int} (x : Int) (h : zs.Nodup) : noX zs x = zs.erase x := by
  unfold noX
  rw [List.Nodup.erase_eq_filter h]
  rfl
set_option maxHeartbeats 1000000 in
set_option maxRecDepth 100000 in
theorem take_raw {w : World} {zs : List Int} {A : Option Addr} {n c B : Nat} (x : Int) (hn : n ≤ 100000) (hr : Rd w B A n (iv zs)) :
    Calls Try.prog 37 #[.slice A n c, .int .i64 x] w (GotIR w w (takeS zs x) (takeE zs x) (takeN zs x)) := by
  have hB := Below.refl w.heap.size w
  have HR := Lib.hid hr.fit
  obtain rfl : zs.length = n := by have := hr.1; rwa [iv_length] at this
  have b0 : Below w.heap.size w (w.alloc (.cells zeroR 34)) := (Below.refl _ _).alloc (Nat.le_refl _) _
  clear hr
  unfold takeS takeE takeN
  by_cases hx : x ∈ zs
  · rw [if_pos hx, if_pos hx, if_pos hx]
    have HX := Lib.hid (decide_eq_true hx)
    clear hx
    go_enter Try.func37, Try.ntmps37
    go_wp2_with (first
      | (go_at_call 82; refine (cloneI_any (W := w) hn (HR.out.below b0) b0).mono ?_; rintro e w1 ⟨A1, c1, rfl, hown1, hB1, hb1⟩
         have HK := Lib.hid ((Blk.new w 34 zeroR).below hb1); obtain ⟨x0, x1, x2, f0, f1, f2⟩ := three HK.out)
      | (go_at_call 86; refine (contains_any _ x (HR.out.below hB1) (by unfold maxLen; omega)).mono ?_; rintro e w2 ⟨rfl, rfl⟩; rw [HX.out])
      | fail)
    obtain ⟨k1, k2, k3⟩ := put3 HK.out (.int .i64 6) (.slice none 0 0) (.int .i64 0)
    refine bodyPost_ret (results_tmp_cell_row rfl _ _ _ _ _ _ rfl k1 Try.underlying34 rfl (by kernel_rfl)) rfl ?_
    have h3 := k2 w (Nat.le_refl _) hB1
    exact ⟨A1, c1, none, 0, rfl, k3 _ _ _ _ _ _ hown1 (by decide), own_nil _ _, h3, h3⟩
  · rw [if_neg hx, if_neg hx, if_neg hx]
    have HX := Lib.hid (decide_eq_false hx)
    clear hx
    by_cases hf : 5 ≤ zs.length
    · rw [if_pos hf, if_pos hf, if_pos hf]
      have hfi : (5 : Int) ≤ (zs.length : Int) := by omega
      go_enter Try.func37, Try.ntmps37
      go_wp2_with (first
      | (go_at_call 82; refine (cloneI_any (W := w) hn (HR.out.below b0) b0).mono ?_; rintro e w1 ⟨A1, c1, rfl, hown1, hB1, hb1⟩
         have HK := Lib.hid ((Blk.new w 34 zeroR).below hb1); obtain ⟨x0, x1, x2, f0, f1, f2⟩ := three HK.out)
      | (go_at_call 86; refine (contains_any _ x (HR.out.below hB1) (by unfold maxLen; omega)).mono ?_; rintro e w2 ⟨rfl, rfl⟩; rw [HX.out])
      | fail)
      obtain ⟨k1, k2, k3⟩ := put3 HK.out (.int .i64 3) (.slice none 0 0) (.int .i64 0)
      refine bodyPost_ret (results_tmp_cell_row rfl _ _ _ _ _ _ rfl k1 Try.underlying34 rfl (by kernel_rfl)) rfl ?_
      have h3 := k2 w (Nat.le_refl _) hB1
      exact ⟨A1, c1, none, 0, rfl, k3 _ _ _ _ _ _ hown1 (by decide), own_nil _ _, h3, h3⟩
    · rw [if_neg hf, if_neg hf, if_neg hf]
      have hfi : ¬ (5 : Int) ≤ (zs.length : Int) := by omega
      go_enter Try.func37, Try.ntmps37
      go_wp2_with (first
      | (go_at_call 82; refine (cloneI_any (W := w) hn (HR.out.below b0) b0).mono ?_; rintro e w1 ⟨A1, c1, rfl, hown1, hB1, hb1⟩
         have HK := Lib.hid ((Blk.new w 34 zeroR).below hb1))
      | (go_at_call 86; refine (contains_any _ x (HR.out.below hB1) (by unfold maxLen; omega)).mono ?_; rintro e w2 ⟨rfl, rfl⟩; rw [HX.out])
      | (at_builtin
         refine wpList_append_cells (W := w) cellI (.tmp 19) (.tmp 21) rfl (by rfl) rfl (ownsRow_below hown1 ((Below.refl _ _).alloc (Nat.le_refl _) _)) rfl (Rd.oneV _ _ _) (by intro u hu; simp at hu; subst hu; rfl) (by omega) (by omega) (hB1.alloc hB1.size _) ?_
         intro A3 c3 w3 hown3 hB3 hg3
         have HK3 := Lib.hid ((HK.out.alloc (.cells #[.int .i64 x] 3)).apart_own (ownsRow_below hown1 ((Below.refl _ _).alloc (Nat.le_refl _) _)) (by decide) hg3)
         obtain ⟨x0, x1, x2, f0, f1, f2⟩ := three HK3.out
         clear hg3)
      | fail)
      obtain ⟨k1, k2, k3⟩ := put3 HK3.out (.int .i64 0) (.slice none 0 0) (.int .i64 (zs.length : Int))
      refine bodyPost_ret (results_tmp_cell_row rfl _ _ _ _ _ _ rfl k1 Try.underlying34 rfl (by kernel_rfl)) rfl ?_
      have h3 := k2 w (Nat.le_refl _) hB3
      have e : (zs ++ [x]).length = zs.length + 1 := by simp
      have h4 := k3 _ _ _ _ _ _ hown3 (by decide)
      rw [show iv zs ++ [Value.int .i64 x] = iv (zs ++ [x]) by simp [iv]] at h4
      exact ⟨A3, c3, none, 0, by rw [e]; rfl, by rw [e]; exact h4, own_nil _ _, h3, h3⟩
theorem take_any : TakeC := fun x hn hc hr hB => (take_raw x hn hr).mono fun e w' h => GotIR.of hB h
set_option maxHeartbeats 1000000 in
set_option maxRecDepth 100000 in
theorem free_raw {w : World} {zs : List Int} {A : Option Addr} {n c B : Nat} (x : Int) (hn : n ≤ 100000) (hd : zs.Nodup) (hr : Rd w B A n (iv zs)) :
    Calls Try.prog 38 #[.slice A n c, .int .i64 x] w (GotIR w w (zs.erase x) (freeE zs x) (freeN zs x)) := by
  have hB := Below.refl w.heap.size w
  have HR := Lib.hid hr.fit
  obtain rfl : zs.length = n := by have := hr.1; rwa [iv_length] at this
  have b0 : Below w.heap.size w (w.alloc (.cells zeroR 34)) := (Below.refl _ _).alloc (Nat.le_refl _) _
  clear hr
  have HNX := Lib.hid (nox_erase x hd)
  clear hd
  unfold freeE freeN
  by_cases hx : x ∈ zs
  · rw [if_pos hx, if_pos hx]
    have hl : (zs.erase x).length = zs.length - 1 := List.length_erase_of_mem hx
    have hp : 0 < zs.length := List.length_pos_of_mem hx
    obtain ⟨L, hL⟩ : ∃ L, zs.erase x = L := ⟨_, rfl⟩
    rw [hL] at hl HNX ⊢
    have HL := Lib.hid hl
    have hne : ((L.length : Int) == (zs.length : Int)) = false := by rw [beq_eq_false_iff_ne]; omega
    clear hx hL hl hp
    rcases Nat.eq_zero_or_pos L.length with h0 | h0
    · have hz : L = [] := List.eq_nil_of_length_eq_zero h0
      subst hz
      have hne0 : ((0 : Int) == (zs.length : Int)) = false := hne
      clear h0
      go_enter Try.func38, Try.ntmps38
      go_wp2_with (first
        | (go_at_call 87; refine (without_any (W := w) x hn (HR.out.below b0) b0).mono ?_; rw [HNX.out]; rintro e w1 ⟨A1, c1, rfl, hown1, hB1, hb1⟩
           have HK := Lib.hid ((Blk.new w 34 zeroR).below hb1); obtain ⟨x0, x1, x2, f0, f1, f2⟩ := three HK.out)
        | fail)
      obtain ⟨k1, k2, k3⟩ := put3 HK.out (.int .i64 0) (.slice none 0 0) (.int .i64 (-1))
      refine bodyPost_ret (results_tmp_cell_row rfl _ _ _ _ _ _ rfl k1 Try.underlying34 rfl (by kernel_rfl)) rfl ?_
      have h3 := k2 w (Nat.le_refl _) hB1
      exact ⟨none, 0, none, 0, rfl, ownI_nil _ _, own_nil _ _, h3, h3⟩
    · obtain ⟨z, hz⟩ : ∃ z, L[0]? = some z := ⟨_, List.getElem?_eq_getElem h0⟩
      have hv : L.head?.getD (-1) = z := by rw [List.head?_eq_getElem?, hz]; rfl
      rw [hv]
      have hne2 : ((L.length : Int) == 0) = false := by rw [beq_eq_false_iff_ne]; omega
      have HZ := Lib.hid hz
      clear hv hz
      go_enter Try.func38, Try.ntmps38
      go_wp2_with (first
        | (go_at_call 87; refine (without_any (W := w) x hn (HR.out.below b0) b0).mono ?_; rw [HNX.out]; rintro e w1 ⟨A1, c1, rfl, hown1, hB1, hb1⟩
           have HK := Lib.hid ((Blk.new w 34 zeroR).below hb1); obtain ⟨x0, x1, x2, f0, f1, f2⟩ := three HK.out
           have HOW := Lib.hid hown1; obtain ⟨g, rfl, hg1, hg2⟩ := own_addr hown1 h0; have hcl := (hown1.cellAt 0 (by omega)).trans (iv_get HZ.out); clear hown1 hg1 hg2)
        | fail)
      go_region
      all_goals go_wp2
      obtain ⟨k1, k2, k3⟩ := put3 HK.out (.int .i64 0) (.slice none 0 0) (.int .i64 z)
      refine bodyPost_ret (results_tmp_cell_row rfl _ _ _ _ _ _ rfl k1.drew Try.underlying34 rfl (by kernel_rfl)) rfl ?_
      have h3 := (k2 w (Nat.le_refl _) hB1).drew
      exact ⟨some ⟨g, 0, none⟩, c1, none, 0, rfl, k3 _ _ _ _ _ _ HOW.out (by decide), own_nil _ _, h3, h3⟩
  · rw [if_neg hx, if_neg hx]
    rw [List.erase_of_not_mem hx] at HNX ⊢
    clear hx
    go_enter Try.func38, Try.ntmps38
    go_wp2_with (first
      | (go_at_call 87; refine (without_any (W := w) x hn (HR.out.below b0) b0).mono ?_; rw [HNX.out]; rintro e w1 ⟨A1, c1, rfl, hown1, hB1, hb1⟩
         have HK := Lib.hid ((Blk.new w 34 zeroR).below hb1); obtain ⟨x0, x1, x2, f0, f1, f2⟩ := three HK.out)
      | fail)
    obtain ⟨k1, k2, k3⟩ := put3 HK.out (.int .i64 5) (.slice none 0 0) (.int .i64 0)
    refine bodyPost_ret (results_tmp_cell_row rfl _ _ _ _ _ _ rfl k1 Try.underlying34 rfl (by kernel_rfl)) rfl ?_
    have h3 := k2 w (Nat.le_refl _) hB1
    exact ⟨A1, c1, none, 0, rfl, k3 _ _ _ _ _ _ hown1 (by decide), own_nil _ _, h3, h3⟩
theorem free_any : FreeC := fun x hn hc hd hr hB => (free_raw x hn hd hr).mono fun e w' h => GotIR.of hB h
theorem owner_raw (w : World) {zs : List Int} {A : Option Addr} {n c B : Nat} (hr : Rd w B A n (iv zs)) :
    Calls Try.prog 39 #[.slice A n c] w fun en w' => en = .returned (resV (ownerE zs) none 0 0 (ownerN zs)) ∧ Below w.heap.size w w' := by
  obtain rfl : zs.length = n := by have := hr.1; rwa [iv_length] at this
  unfold ownerE ownerN
  have b0 : Below w.heap.size w (w.alloc (.cells zeroR 34)) := (Below.refl _ _).alloc (Nat.le_refl _) _
  rcases Nat.eq_zero_or_pos zs.length with h0 | h0
  · have hz : zs = [] := List.eq_nil_of_length_eq_zero h0
    subst hz
    rw [if_pos h0]
    clear h0 hr
    go_enter Try.func39, Try.ntmps39
    go_wp2
    refine bodyPost_ret (results_cell_row rfl _ _ _ _ _ _ _ rfl (Blk.new w 34 #[.int .i64 5, .slice none 0 0, .int .i64 0]) Try.underlying34 rfl (by kernel_rfl)) rfl ?_
    exact ⟨rfl, (Below.refl _ _).alloc (Nat.le_refl _) _⟩
  · rw [if_neg (by omega)]
    have hne : ((zs.length : Int) == 0) = false := by rw [beq_eq_false_iff_ne]; omega
    obtain ⟨z, hz⟩ : ∃ z, zs[0]? = some z := ⟨_, List.getElem?_eq_getElem h0⟩
    obtain ⟨b, o, rfl, _⟩ := hr.int_at h0
    have hc := hr.int_cell h0 hz
    have hv : zs.head?.getD 0 = z := by rw [List.head?_eq_getElem?, hz]; rfl
    rw [hv]
    rw [Nat.add_zero] at hc
    have hc0 := (b0.cell (p := ⟨b, o, none⟩) (World.block_lt_of_cell? _ _ hc)).trans hc
    clear hv hz hc hr
    go_enter Try.func39, Try.ntmps39
    go_wp2
    refine bodyPost_ret (results_cell_row rfl _ _ _ _ _ _ _ rfl (Blk.new w 34 #[.int .i64 0, .slice none 0 0, .int .i64 z]) Try.underlying34 rfl (by kernel_rfl)) rfl ?_
    exact ⟨rfl, (Below.refl _ _).alloc (Nat.le_refl _) _⟩
theorem owner_any : OwnerC := fun hn hc hr hB => (owner_raw _ hr).mono fun e w' h => ⟨none, 0, h.1, own_nil _ _, hB.trans (h.2.mono hB.size), h.2⟩
end Go.Proofs.Ytcmjpjhaaookfaa
