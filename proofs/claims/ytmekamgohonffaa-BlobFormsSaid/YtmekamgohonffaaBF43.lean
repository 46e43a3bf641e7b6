/- MachChk MachChk2 -/
import Derived.Test.YtmekamgohonffaaBF17
import Derived.Test.YtmekamgohonffaaBF18
import Derived.Test.YtmekamgohonffaaBF19
import Derived.Test.YtmekamgohonffaaBF22
import Derived.Test.YtmekamgohonffaaBF24
import Derived.Test.YtmekamgohonffaaBF27
import Derived.Deep.RegionHeld3
import Derived.Deep.RegionLaw
namespace Go.Proofs.Ytmekamgohonffaa
open Go.RowKit
set_option linter.unusedVariables false
theorem cmpB_neg {l m : List Nat} (hl : ∀ x ∈ l, x < 256) (hm : ∀ x ∈ m, x < 256) : (cmpB l m < 0) ↔ Mp.ltB l m = true := by
  unfold cmpB
  induction l generalizing m with
  | nil => cases m <;> simp [Lib.compareBytes, Mp.ltB]
  | cons a l ih =>
    cases m with
    | nil => simp [Lib.compareBytes, Mp.ltB]
    | cons b m =>
      have ha := hl a (by simp)
      have hb := hm b (by simp)
      have ih' := ih (m := m) (fun x hx => hl x (by simp [hx])) (fun x hx => hm x (by simp [hx]))
      have lt1 : ∀ a b : Nat, a < 256 → b < 256 → ((UInt8.ofNat a < UInt8.ofNat b) ↔ a < b) := fun a b ha hb => by
        rw [UInt8.lt_iff_toNat_lt]; simp; omega
      simp only [List.map_cons, Lib.compareBytes, Mp.ltB, Bool.or_eq_true, decide_eq_true_eq, Bool.and_eq_true]
      by_cases h1 : a < b
      · rw [if_pos ((lt1 a b ha hb).2 h1)]
        exact ⟨fun _ => .inl h1, fun _ => by omega⟩
      · rw [if_neg (fun h => h1 ((lt1 a b ha hb).1 h))]
        by_cases h2 : b < a
        · rw [if_pos ((lt1 b a hb ha).2 h2)]
          constructor
          · intro h; omega
          · rintro (h | ⟨h, _⟩) <;> omega
        · rw [if_neg (fun h => h2 ((lt1 b a hb ha).1 h))]
          have : a = b := by omega
          rw [ih']
          exact ⟨fun h => .inr ⟨this, h⟩, fun h => h.elim (fun h => absurd h h1) (·.2)⟩
theorem chainB_adj {α : Type} (lt : α → α → Bool) (l : List α) : chainB lt l = true ↔ ∀ (j : Nat) (a b : α), l[j]? = some a → l[j + 1]? = some b → lt a b = true := by
  induction l with
  | nil => simp [chainB]
  | cons a l ih =>
    cases l with
    | nil => simp [chainB]
    | cons b r =>
      simp only [chainB, Bool.and_eq_true]
      rw [ih]
      constructor
      · rintro ⟨h1, h2⟩ j x y hx hy
        cases j with
        | zero => simp at hx hy; subst hx hy; exact h1
        | succ j => simp only [List.getElem?_cons_succ] at hx hy; exact h2 j x y hx hy
      · intro h
        exact ⟨h 0 a b rfl rfl, fun j x y hx hy => h (j + 1) x y (by simpa using hx) (by simpa using hy)⟩
theorem nodup_snoc {l : List Int} {z : Int} : (l ++ [z]).Nodup ↔ l.Nodup ∧ z ∉ l := by
  unfold List.Nodup
  rw [List.pairwise_append]
  constructor
  · rintro ⟨h1, _, h3⟩; exact ⟨h1, fun h => h3 z h z (by simp) rfl⟩
  · rintro ⟨h1, h2⟩; exact ⟨h1, List.pairwise_singleton _ _, fun a ha b hb => by simp at hb; subst hb; rintro rfl; exact h2 ha⟩
set_option maxRecDepth 100000 in
theorem isOnce_any (w : World) {A : Option Addr} {n c B : Nat} {zs : List Int} (h : Rd w B A n (iv zs)) (hn : n ≤ 1000) (hc : n ≤ c) :
    Calls Try.prog 47 #[.slice A n c] w fun e w' => e = .returned (.bool (decide zs.Nodup)) ∧ w = w' := by
  have hl : zs.length = n := by have := h.1; rwa [iv_length] at this
  have HL := Lib.hid hl
  have H := Lib.hid h
  obtain ⟨i0, hi0, _, _, _⟩ := info_parts cellI.info
  clear h hl
  go_enter Try.func47, Try.ntmps47
  go_wp2
  go_loopw [3, 4, 7] (fun s3 s4 s7 wr => ∃ k : Nat, k ≤ n ∧ s7 = .int .i64 k ∧ Hid ((zs.take k).Nodup) ∧ w = wr) (fun _ _ s7 _ => n - (intOf s7).toNat)
  case atStart => exact ⟨0, Nat.zero_le _, rfl, Lib.hid (by simp), rfl⟩
  case round =>
    obtain ⟨k, hk, rfl, HS, rfl⟩ := hrel
    by_cases hlt : k < n
    · obtain ⟨z, hz⟩ : ∃ z, zs[k]? = some z := ⟨_, List.getElem?_eq_getElem (by have := HL.out; omega)⟩
      have hcell : ∃ b o, A = some ⟨b, o, none⟩ ∧ w.cell? ⟨b, o + k, none⟩ = some (.int .i64 z) := by
        obtain ⟨b, o, e, _⟩ := H.out.int_at hlt
        subst e
        exact ⟨b, o, rfl, H.out.int_cell hlt hz⟩
      obtain ⟨b, o, rfl, hc1⟩ := hcell
      have hsl := fun w => run_slice_to (P := Try.prog) Try.underlying29 hi0 (some ⟨b, o, none⟩) n c k (by omega) w
      have HZ := Lib.hid hz
      have HC : Hid (Calls Try.prog 57 #[.slice (some ⟨b, o, none⟩) k c, .int .i64 z] w fun e w' => e = .returned (.bool (decide (z ∈ zs.take k))) ∧ w = w') :=
        Lib.hid (contains_any w z (B := B) (by rw [iv_take]; exact H.out.take hk) (by unfold maxLen; omega))
      clear hz
      by_cases he : z ∈ zs.take k
      · rw [decide_eq_true he] at HC
        have HNO : Hid (decide zs.Nodup = false) := Lib.hid (decide_eq_false (by
          intro hnd
          have h2 : (zs.take (k + 1)).Nodup := List.Pairwise.sublist (List.take_sublist _ _) hnd
          rw [List.take_add_one, HZ.out] at h2
          exact (nodup_snoc.1 h2).2 he))
        clear he
        go_wp2_with (first
          | (go_at_call 57; refine HC.out.mono ?_; rintro e w2 ⟨rfl, rfl⟩)
          | fail)
        go_ret
        exact ⟨ret_bool HNO.out.symm, rfl⟩
      · rw [decide_eq_false he] at HC
        have HN : Hid ((zs.take (k + 1)).Nodup) := Lib.hid (by
          rw [List.take_add_one, HZ.out]
          exact nodup_snoc.2 ⟨HS.out, he⟩)
        clear he
        go_wp2_with (first
          | (go_at_call 57; refine HC.out.mono ?_; rintro e w2 ⟨rfl, rfl⟩)
          | fail)
        go_roundw
        case rel => exact ⟨k + 1, by omega, by go_num, HN, trivial⟩
        case measure => simp only [intOf]; omega
    · obtain rfl : k = n := by omega
      have HY : Hid (decide zs.Nodup = true) := Lib.hid (decide_eq_true (by have := HS.out; rwa [List.take_of_length_le (by have := HL.out; omega)] at this))
      go_wp2
      go_ret
      exact ⟨ret_bool HY.out.symm, rfl⟩
theorem byKey_any (w : World) {A1 A2 A3 A4 : Option Addr} {n1 c1 n2 c2 n3 c3 n4 c4 B B' : Nat} {k k' : List Nat} (h : Rd w B A1 n1 (bv k)) (h' : Rd w B' A3 n3 (bv k')) :
    Calls Try.prog 49 #[.agg #[.slice A1 n1 c1, .slice A2 n2 c2], .agg #[.slice A3 n3 c3, .slice A4 n4 c4]] w fun e w' => e = .returned (.int .i64 (cmpB k k')) ∧ Below w.heap.size w w' := by
  have b0 : Below w.heap.size w ((w.alloc (.cells #[.slice A1 n1 c1, .slice A2 n2 c2] 68)).alloc (.cells #[.slice A3 n3 c3, .slice A4 n4 c4] 68)) := ((Below.refl _ _).alloc (Nat.le_refl _) _).alloc (by simp) _
  have H := Lib.hid (h.fit.below b0)
  have H' := Lib.hid (h'.fit.below b0)
  have HB := Lib.hid b0
  have HK1 := Lib.hid ((Blk.new w 68 #[.slice A1 n1 c1, .slice A2 n2 c2]).alloc (.cells #[.slice A3 n3 c3, .slice A4 n4 c4] 68))
  have HK2 := Lib.hid (Blk.new (w.alloc (.cells #[.slice A1 n1 c1, .slice A2 n2 c2] 68)) 68 #[.slice A3 n3 c3, .slice A4 n4 c4])
  rw [World.size_alloc] at HK2
  clear h h' b0
  go_enter Try.func49, Try.ntmps49
  go_upto_region 1 with fail
  generalize (w.alloc (.cells #[.slice A1 n1 c1, .slice A2 n2 c2] 68)).alloc (.cells #[.slice A3 n3 c3, .slice A4 n4 c4] 68) = wa at H H' HB HK1 HK2 ⊢
  have x0 := HK1.out.cell 0
  have y0 := HK2.out.cell 0
  go_wp2_with (first
    | (go_at_call 58; refine (compare_any _ _ _ _ _ _ _ _ _ _ _ H.out H'.out).mono ?_; rintro e w2 ⟨rfl, rfl⟩)
    | fail)
  go_ret
  exact ⟨rfl, HB.out⟩
set_option maxRecDepth 100000 in
theorem cmpI_any (w : World) (x y : Int) : Calls Try.prog 69 #[.int .i64 x, .int .i64 y] w fun e w' => (∃ z : Int, e = .returned (.int .i64 z) ∧ (z < 0 ↔ x < y)) ∧ w = w' := by
  have HNN : ∀ (w : World) (x : Int), Calls Try.prog 76 #[.int .i64 x] w fun e w' => e = .returned (.bool false) ∧ w = w' := fun w x => by
    go_enter Try.func76, Try.ntmps76
    go_wp2_with fail
    go_ret
    exact ⟨rfl, rfl⟩
  by_cases h1 : x < y
  · go_enter Try.func69, Try.ntmps69
    go_wp2_with (first
      | (go_at_call 76; refine (HNN _ _).mono ?_; rintro e w1 ⟨rfl, rfl⟩)
      | fail)
    go_ret
    exact ⟨⟨-1, rfl, by omega⟩, rfl⟩
  · by_cases h2 : y < x
    · go_enter Try.func69, Try.ntmps69
      go_wp2_with (first
        | (go_at_call 76; refine (HNN _ _).mono ?_; rintro e w1 ⟨rfl, rfl⟩)
        | fail)
      go_ret
      exact ⟨⟨1, rfl, by omega⟩, rfl⟩
    · go_enter Try.func69, Try.ntmps69
      go_wp2_with (first
        | (go_at_call 76; refine (HNN _ _).mono ?_; rintro e w1 ⟨rfl, rfl⟩)
        | fail)
      go_ret
      exact ⟨⟨0, rfl, by omega⟩, rfl⟩
theorem bySess_any (w : World) {A A' : Option Addr} {c c' : Nat} (a b : Ls) :
    Calls Try.prog 60 #[.agg #[.int .i64 a.s, .int .i64 a.q, .int .i64 a.e, .slice A a.v.length c, .int .i64 a.n], .agg #[.int .i64 b.s, .int .i64 b.q, .int .i64 b.e, .slice A' b.v.length c', .int .i64 b.n]] w fun e w' => (∃ z : Int, e = .returned (.int .i64 z) ∧ (z < 0 ↔ a.s < b.s)) ∧ Below w.heap.size w w' := by
  have b0 : Below w.heap.size w ((w.alloc (.cells #[.int .i64 a.s, .int .i64 a.q, .int .i64 a.e, .slice A a.v.length c, .int .i64 a.n] 75)).alloc (.cells #[.int .i64 b.s, .int .i64 b.q, .int .i64 b.e, .slice A' b.v.length c', .int .i64 b.n] 75)) := ((Below.refl _ _).alloc (Nat.le_refl _) _).alloc (by simp) _
  have HB := Lib.hid b0
  have HK1 := Lib.hid ((Blk.new w 75 #[.int .i64 a.s, .int .i64 a.q, .int .i64 a.e, .slice A a.v.length c, .int .i64 a.n]).alloc (.cells #[.int .i64 b.s, .int .i64 b.q, .int .i64 b.e, .slice A' b.v.length c', .int .i64 b.n] 75))
  have HK2 := Lib.hid (Blk.new (w.alloc (.cells #[.int .i64 a.s, .int .i64 a.q, .int .i64 a.e, .slice A a.v.length c, .int .i64 a.n] 75)) 75 #[.int .i64 b.s, .int .i64 b.q, .int .i64 b.e, .slice A' b.v.length c', .int .i64 b.n])
  rw [World.size_alloc] at HK2
  clear b0
  go_enter Try.func60, Try.ntmps60
  go_upto_region 1 with fail
  generalize (w.alloc (.cells #[.int .i64 a.s, .int .i64 a.q, .int .i64 a.e, .slice A a.v.length c, .int .i64 a.n] 75)).alloc (.cells #[.int .i64 b.s, .int .i64 b.q, .int .i64 b.e, .slice A' b.v.length c', .int .i64 b.n] 75) = wa at HB HK1 HK2 ⊢
  have x0 := HK1.out.cell 0
  have y0 := HK2.out.cell 0
  go_wp2_with (first
    | (go_at_call 69; refine (cmpI_any _ _ _).mono ?_; rintro e w2 ⟨⟨z, rfl, hz⟩, rfl⟩; have HZ := Lib.hid hz; clear hz)
    | fail)
  go_ret
  exact ⟨⟨z, rfl, HZ.out⟩, HB.out⟩
set_option maxHeartbeats 4000000 in
set_option maxRecDepth 100000 in
theorem isRisingP_any (w : World) {A : Option Addr} {n c B : Nat} {xs : List Pr} (hb : ∀ p ∈ xs, ∀ x ∈ p.1, x < 256) (h : RdP w B A n xs) (hn : n ≤ 1000) :
    Calls Try.prog 48 #[.slice A n c, .func (.func 49) #[] #[]] w fun e w' => e = .returned (.bool (chainB (fun p q : Pr => Mp.ltB p.1 q.1) xs)) ∧ Below w.heap.size w w' := by
  have hl := h.length
  have HL := Lib.hid hl
  have H := Lib.hid h.fit
  have HBY := Lib.hid hb
  clear h hl hb
  go_enter Try.func48, Try.ntmps48
  go_wp2
  go_loopw [5] (fun s5 wr => ∃ j : Nat, j ≤ n ∧ s5 = .int .i64 ((j : Int) + 1) ∧ Hid (∀ (i : Nat) (a b : Pr), i < j → xs[i]? = some a → xs[i + 1]? = some b → (fun p q : Pr => Mp.ltB p.1 q.1) a b = true) ∧ Hid (Below w.heap.size w wr)) (fun s5 _ => n + 1 - (intOf s5).toNat)
  case atStart => exact ⟨0, Nat.zero_le _, rfl, Lib.hid (fun i a b hi => absurd hi (by omega)), Lib.hid (Below.refl _ _)⟩
  case round =>
    obtain ⟨j, hj, rfl, HS, HB⟩ := hrel
    by_cases hlt : j + 1 < n
    · have hi1 : (j : Int) + 1 < (n : Int) := by omega
      have hi2 : IntKind.i64.wrap ((j : Int) + 1 - 1) = (j : Int) := by rw [show (j : Int) + 1 - 1 = (j : Int) by omega]; exact IntWalk.i64_in _ (by omega)
      have hi3 : IntKind.i64.wrap ((j : Int) + 1 + 1) = (j : Int) + 1 + 1 := IntWalk.i64_in _ (by omega)
      have hi4 : (j : Int) < (n : Int) := by omega
      have hi5 : IntKind.i64.wrap (j : Int) = (j : Int) := IntWalk.i64_in _ (by omega)
      have hi6 : ¬ (j : Int) + 1 < 0 := by omega
      obtain ⟨b, o, p, A1, c1, A2, c2, rfl, hp, u0, u1, hrp, _⟩ := H.out.at (k := j) (by omega)
      obtain ⟨b', o', q, D1, d1, D2, d2, e, hq, v0, v1, hrq, _⟩ := H.out.at (k := j + 1) (by omega)
      injection e with e
      injection e with e1 e2
      subst e1 e2
      have HC : Hid (∀ wx, Below w.heap.size w wx → (wx.cell? ⟨b, o + j * 2, none⟩ = some (.slice A1 p.1.length c1) ∧ wx.cell? ⟨b, o + j * 2 + 1, none⟩ = some (.slice A2 p.2.length c2)) ∧ wx.cell? ⟨b, o + (j + 1) * 2, none⟩ = some (.slice D1 q.1.length d1) ∧ wx.cell? ⟨b, o + (j + 1) * 2 + 1, none⟩ = some (.slice D2 q.2.length d2)) :=
        Lib.hid (fun wx hb => ⟨⟨(hb.cell (World.block_lt_of_cell? _ _ u0)).trans u0, (hb.cell (World.block_lt_of_cell? _ _ u1)).trans u1⟩, (hb.cell (World.block_lt_of_cell? _ _ v0)).trans v0, (hb.cell (World.block_lt_of_cell? _ _ v1)).trans v1⟩)
      have HRP := Lib.hid hrp
      have HRQ := Lib.hid hrq
      have HBP := Lib.hid (And.intro (HBY.out p (List.mem_of_getElem? hp)) (HBY.out q (List.mem_of_getElem? hq)))
      have HP := Lib.hid (And.intro hp hq)
      clear u0 u1 v0 v1 hrp hrq hp hq
      go_upto_region 4 with fail
      have hS0 : Below w.heap.size w wr.drew := HB.out.trans ((Below.refl _ _).drew.mono HB.out.size)
      refine wp_region_held_drew (S := fun w' => Below w.heap.size w w') (by kernel_rfl) hS0 (fun _ => ?_)
      have hS := Lib.hid hS0
      clear hS0
      generalize wr.drew = wd at hS ⊢
      refine wpAnyH_take (i := 0) (v := .func (.func 49) #[] #[]) rfl (by kernel_rfl) (by kernel_rfl) (by kernel_rfl) (fun _ _ _ h => h) (Or.inl ⟨by kernel_rfl, fun w _ => by go_simp⟩) hS.out ?_
      refine wpAnyH_take (i := 1) (v := .slice (some ⟨b, o, none⟩) n c) rfl (by kernel_rfl) (by kernel_rfl) (by kernel_rfl) (fun _ _ _ h => h) (Or.inl ⟨by kernel_rfl, fun w _ => by go_simp⟩) hS.out ?_
      refine wpAnyH_take (i := 2) (v := .int .i64 ((j : Int) + 1)) rfl (by kernel_rfl) (by kernel_rfl) (by kernel_rfl) (fun _ _ _ h => h) (Or.inl ⟨by kernel_rfl, fun w _ => by go_simp⟩) hS.out ?_
      refine wpAnyH_take (i := 3) (v := .int .i64 (j : Int)) rfl (by kernel_rfl) (by kernel_rfl) (by kernel_rfl) (fun _ _ _ h => h) (Or.inl ⟨by kernel_rfl, fun w _ => by go_simp⟩) hS.out ?_
      refine wpAnyH_take (i := 6) (v := .slice (some ⟨b, o, none⟩) n c) rfl (by kernel_rfl) (by kernel_rfl) (by kernel_rfl) (fun _ _ _ h => h) (Or.inl ⟨by kernel_rfl, fun w _ => by go_simp⟩) hS.out ?_
      refine wpAnyH_take (i := 7) (v := .int .i64 ((j : Int) + 1)) rfl (by kernel_rfl) (by kernel_rfl) (by kernel_rfl) (fun _ _ _ h => h) (Or.inl ⟨by kernel_rfl, fun w _ => by go_simp⟩) hS.out ?_
      refine wpAnyH_take (i := 4) (v := .pointer (some ⟨b, o + j * 2, none⟩)) rfl (by kernel_rfl) (by kernel_rfl) (by kernel_rfl) (fun _ _ _ h => h) (Or.inl ⟨by kernel_rfl, fun w _ => by go_simp⟩) hS.out ?_
      refine wpAnyH_take (i := 8) (v := .pointer (some ⟨b, o + (j + 1) * 2, none⟩)) rfl (by kernel_rfl) (by kernel_rfl) (by kernel_rfl) (fun _ _ _ h => h) (Or.inl ⟨by kernel_rfl, fun w _ => by go_simp⟩) hS.out ?_
      refine wpAnyH_take (i := 5) (v := .agg #[.slice A1 p.1.length c1, .slice A2 p.2.length c2]) rfl (by kernel_rfl) (by kernel_rfl) (by kernel_rfl) (fun _ _ _ h => h) (Or.inl ⟨by kernel_rfl, fun w h => by obtain ⟨⟨q0, q1⟩, q2, q3⟩ := HC.out w h; go_simp⟩) hS.out ?_
      refine wpAnyH_take (i := 9) (v := .agg #[.slice D1 q.1.length d1, .slice D2 q.2.length d2]) rfl (by kernel_rfl) (by kernel_rfl) (by kernel_rfl) (fun _ _ _ h => h) (Or.inl ⟨by kernel_rfl, fun w h => by obtain ⟨⟨q0, q1⟩, q2, q3⟩ := HC.out w h; go_simp⟩) hS.out ?_
      refine wpAnyH_ready (rs := [10]) (by kernel_rfl) (by simp) ?_
      refine AllReadyH.cons rfl (fun K hK => ?_) AllReadyH.nil
      go_simp
      refine (byKey_any _ (HRP.out.below hS.out) (HRQ.out.below hS.out)).mono ?_
      rintro e w2 ⟨rfl, hb2⟩
      have hS := Lib.hid (hS.out.trans (hb2.mono hS.out.size))
      clear hb2
      go_simp
      refine hK.out _ _ hS.out (fun _ => ?_)
      clear hK K
      obtain ⟨z, hz⟩ : ∃ z, cmpB p.1 q.1 = z := ⟨_, rfl⟩
      have HZ := Lib.hid (cmpB_neg HBP.out.1 HBP.out.2)
      rw [hz] at HZ ⊢
      clear hz
      by_cases hzz : z < 0
      · have hz0 : ¬ (0 : Int) ≤ z := by omega
        have HT := Lib.hid (HZ.out.1 hzz)
        clear hzz
        refine wpAnyH_take (i := 11) (v := .bool false) rfl (by kernel_rfl) (by kernel_rfl) (by kernel_rfl) (fun _ _ _ h => h) (Or.inl ⟨by kernel_rfl, fun w _ => by go_simp⟩) hS.out ?_
        refine wpAnyH_done (by kernel_rfl) ?_ _
        go_wp2_with fail
        go_roundw
        case rel =>
          refine ⟨j + 1, by omega, by go_num, Lib.hid (fun i a b hi ha hb => ?_), hS⟩
          rcases Nat.lt_or_ge i j with h1 | h1
          · exact HS.out i a b h1 ha hb
          · obtain rfl : i = j := by omega
            obtain ⟨g1, g2⟩ := HP.out
            rw [ha] at g1
            rw [hb] at g2
            injection g1 with g1
            injection g2 with g2
            subst g1 g2
            exact HT.out
        case measure => simp only [intOf]; omega
      · have hz0 : (0 : Int) ≤ z := by omega
        have HT : Hid (¬ Mp.ltB p.1 q.1 = true) := Lib.hid (fun h => hzz (HZ.out.2 h))
        clear hzz
        refine wpAnyH_take (i := 11) (v := .bool true) rfl (by kernel_rfl) (by kernel_rfl) (by kernel_rfl) (fun _ _ _ h => h) (Or.inl ⟨by kernel_rfl, fun w _ => by go_simp⟩) hS.out ?_
        refine wpAnyH_done (by kernel_rfl) ?_ _
        have HF : Hid (chainB (fun p q : Pr => Mp.ltB p.1 q.1) xs = false) := Lib.hid (by
          rw [Bool.eq_false_iff]
          intro h
          exact HT.out ((chainB_adj _ _).1 h j p q HP.out.1 HP.out.2))
        go_wp2_with fail
        go_ret
        exact ⟨ret_bool HF.out.symm, hS.out⟩
    · have hi1 : ¬ (j : Int) + 1 < (n : Int) := by omega
      have HY : Hid (chainB (fun p q : Pr => Mp.ltB p.1 q.1) xs = true) := Lib.hid ((chainB_adj _ _).2 fun i a b ha hb => HS.out i a b (by have := (List.getElem?_eq_some_iff.1 hb).1; have := HL.out; omega) ha hb)
      go_wp2_with fail
      go_ret
      exact ⟨ret_bool HY.out.symm, HB.out⟩
set_option maxHeartbeats 4000000 in
set_option maxRecDepth 100000 in
theorem isRisingT_any (w : World) {A : Option Addr} {n c B : Nat} {xs : List Ls} (h : RdL w B A n xs) (hn : n ≤ 1000) :
    Calls Try.prog 59 #[.slice A n c, .func (.func 60) #[] #[]] w fun e w' => e = .returned (.bool (chainB (fun a b : Ls => decide (a.s < b.s)) xs)) ∧ Below w.heap.size w w' := by
  have hl := h.length
  have HL := Lib.hid hl
  have H := Lib.hid h.fit
  clear h hl
  go_enter Try.func59, Try.ntmps59
  go_wp2
  go_loopw [5] (fun s5 wr => ∃ j : Nat, j ≤ n ∧ s5 = .int .i64 ((j : Int) + 1) ∧ Hid (∀ (i : Nat) (a b : Ls), i < j → xs[i]? = some a → xs[i + 1]? = some b → (fun a b : Ls => decide (a.s < b.s)) a b = true) ∧ Hid (Below w.heap.size w wr)) (fun s5 _ => n + 1 - (intOf s5).toNat)
  case atStart => exact ⟨0, Nat.zero_le _, rfl, Lib.hid (fun i a b hi => absurd hi (by omega)), Lib.hid (Below.refl _ _)⟩
  case round =>
    obtain ⟨j, hj, rfl, HS, HB⟩ := hrel
    by_cases hlt : j + 1 < n
    · have hi1 : (j : Int) + 1 < (n : Int) := by omega
      have hi2 : IntKind.i64.wrap ((j : Int) + 1 - 1) = (j : Int) := by rw [show (j : Int) + 1 - 1 = (j : Int) by omega]; exact IntWalk.i64_in _ (by omega)
      have hi3 : IntKind.i64.wrap ((j : Int) + 1 + 1) = (j : Int) + 1 + 1 := IntWalk.i64_in _ (by omega)
      have hi4 : (j : Int) < (n : Int) := by omega
      have hi5 : IntKind.i64.wrap (j : Int) = (j : Int) := IntWalk.i64_in _ (by omega)
      have hi6 : ¬ (j : Int) + 1 < 0 := by omega
      obtain ⟨b, o, p, A1, c1, rfl, hp, u0, u1, u2, u3, u4, hrp⟩ := H.out.at (k := j) (by omega)
      obtain ⟨b', o', q, D1, d1, e, hq, v0, v1, v2, v3, v4, hrq⟩ := H.out.at (k := j + 1) (by omega)
      injection e with e
      injection e with e1 e2
      subst e1 e2
      have HC : Hid (∀ wx, Below w.heap.size w wx → (wx.cell? ⟨b, o + j * 5, none⟩ = some (.int .i64 p.s) ∧ wx.cell? ⟨b, o + j * 5 + 1, none⟩ = some (.int .i64 p.q) ∧ wx.cell? ⟨b, o + j * 5 + 2, none⟩ = some (.int .i64 p.e) ∧ wx.cell? ⟨b, o + j * 5 + 3, none⟩ = some (.slice A1 p.v.length c1) ∧ wx.cell? ⟨b, o + j * 5 + 4, none⟩ = some (.int .i64 p.n)) ∧ wx.cell? ⟨b, o + (j + 1) * 5, none⟩ = some (.int .i64 q.s) ∧ wx.cell? ⟨b, o + (j + 1) * 5 + 1, none⟩ = some (.int .i64 q.q) ∧ wx.cell? ⟨b, o + (j + 1) * 5 + 2, none⟩ = some (.int .i64 q.e) ∧ wx.cell? ⟨b, o + (j + 1) * 5 + 3, none⟩ = some (.slice D1 q.v.length d1) ∧ wx.cell? ⟨b, o + (j + 1) * 5 + 4, none⟩ = some (.int .i64 q.n)) :=
        Lib.hid (fun wx hb => ⟨⟨(hb.cell (World.block_lt_of_cell? _ _ u0)).trans u0, (hb.cell (World.block_lt_of_cell? _ _ u1)).trans u1, (hb.cell (World.block_lt_of_cell? _ _ u2)).trans u2, (hb.cell (World.block_lt_of_cell? _ _ u3)).trans u3, (hb.cell (World.block_lt_of_cell? _ _ u4)).trans u4⟩, (hb.cell (World.block_lt_of_cell? _ _ v0)).trans v0, (hb.cell (World.block_lt_of_cell? _ _ v1)).trans v1, (hb.cell (World.block_lt_of_cell? _ _ v2)).trans v2, (hb.cell (World.block_lt_of_cell? _ _ v3)).trans v3, (hb.cell (World.block_lt_of_cell? _ _ v4)).trans v4⟩)
      have HP := Lib.hid (And.intro hp hq)
      clear u0 u1 u2 u3 u4 v0 v1 v2 v3 v4 hrp hrq hp hq
      go_upto_region 4 with fail
      have hS0 : Below w.heap.size w wr.drew := HB.out.trans ((Below.refl _ _).drew.mono HB.out.size)
      refine wp_region_held_drew (S := fun w' => Below w.heap.size w w') (by kernel_rfl) hS0 (fun _ => ?_)
      have hS := Lib.hid hS0
      clear hS0
      generalize wr.drew = wd at hS ⊢
      refine wpAnyH_take (i := 0) (v := .func (.func 60) #[] #[]) rfl (by kernel_rfl) (by kernel_rfl) (by kernel_rfl) (fun _ _ _ h => h) (Or.inl ⟨by kernel_rfl, fun w _ => by go_simp⟩) hS.out ?_
      refine wpAnyH_take (i := 1) (v := .slice (some ⟨b, o, none⟩) n c) rfl (by kernel_rfl) (by kernel_rfl) (by kernel_rfl) (fun _ _ _ h => h) (Or.inl ⟨by kernel_rfl, fun w _ => by go_simp⟩) hS.out ?_
      refine wpAnyH_take (i := 2) (v := .int .i64 ((j : Int) + 1)) rfl (by kernel_rfl) (by kernel_rfl) (by kernel_rfl) (fun _ _ _ h => h) (Or.inl ⟨by kernel_rfl, fun w _ => by go_simp⟩) hS.out ?_
      refine wpAnyH_take (i := 3) (v := .int .i64 (j : Int)) rfl (by kernel_rfl) (by kernel_rfl) (by kernel_rfl) (fun _ _ _ h => h) (Or.inl ⟨by kernel_rfl, fun w _ => by go_simp⟩) hS.out ?_
      refine wpAnyH_take (i := 6) (v := .slice (some ⟨b, o, none⟩) n c) rfl (by kernel_rfl) (by kernel_rfl) (by kernel_rfl) (fun _ _ _ h => h) (Or.inl ⟨by kernel_rfl, fun w _ => by go_simp⟩) hS.out ?_
      refine wpAnyH_take (i := 7) (v := .int .i64 ((j : Int) + 1)) rfl (by kernel_rfl) (by kernel_rfl) (by kernel_rfl) (fun _ _ _ h => h) (Or.inl ⟨by kernel_rfl, fun w _ => by go_simp⟩) hS.out ?_
      refine wpAnyH_take (i := 4) (v := .pointer (some ⟨b, o + j * 5, none⟩)) rfl (by kernel_rfl) (by kernel_rfl) (by kernel_rfl) (fun _ _ _ h => h) (Or.inl ⟨by kernel_rfl, fun w _ => by go_simp⟩) hS.out ?_
      refine wpAnyH_take (i := 8) (v := .pointer (some ⟨b, o + (j + 1) * 5, none⟩)) rfl (by kernel_rfl) (by kernel_rfl) (by kernel_rfl) (fun _ _ _ h => h) (Or.inl ⟨by kernel_rfl, fun w _ => by go_simp⟩) hS.out ?_
      refine wpAnyH_take (i := 5) (v := .agg #[.int .i64 p.s, .int .i64 p.q, .int .i64 p.e, .slice A1 p.v.length c1, .int .i64 p.n]) rfl (by kernel_rfl) (by kernel_rfl) (by kernel_rfl) (fun _ _ _ h => h) (Or.inl ⟨by kernel_rfl, fun w h => by obtain ⟨⟨q0, q1, q2, q3, q4⟩, q5, q6, q7, q8, q9⟩ := HC.out w h; go_simp⟩) hS.out ?_
      refine wpAnyH_take (i := 9) (v := .agg #[.int .i64 q.s, .int .i64 q.q, .int .i64 q.e, .slice D1 q.v.length d1, .int .i64 q.n]) rfl (by kernel_rfl) (by kernel_rfl) (by kernel_rfl) (fun _ _ _ h => h) (Or.inl ⟨by kernel_rfl, fun w h => by obtain ⟨⟨q0, q1, q2, q3, q4⟩, q5, q6, q7, q8, q9⟩ := HC.out w h; go_simp⟩) hS.out ?_
      refine wpAnyH_ready (rs := [10]) (by kernel_rfl) (by simp) ?_
      refine AllReadyH.cons rfl (fun K hK => ?_) AllReadyH.nil
      go_simp
      refine (bySess_any _ p q).mono ?_
      rintro e w2 ⟨⟨z, rfl, hz⟩, hb2⟩
      have HZ := Lib.hid hz
      clear hz
      have hS := Lib.hid (hS.out.trans (hb2.mono hS.out.size))
      clear hb2
      go_simp
      refine hK.out _ _ hS.out (fun _ => ?_)
      clear hK K
      by_cases hzz : z < 0
      · have hz0 : ¬ (0 : Int) ≤ z := by omega
        have HT := Lib.hid (HZ.out.1 hzz)
        clear hzz
        refine wpAnyH_take (i := 11) (v := .bool false) rfl (by kernel_rfl) (by kernel_rfl) (by kernel_rfl) (fun _ _ _ h => h) (Or.inl ⟨by kernel_rfl, fun w _ => by go_simp⟩) hS.out ?_
        refine wpAnyH_done (by kernel_rfl) ?_ _
        go_wp2_with fail
        go_roundw
        case rel =>
          refine ⟨j + 1, by omega, by go_num, Lib.hid (fun i a b hi ha hb => ?_), hS⟩
          rcases Nat.lt_or_ge i j with h1 | h1
          · exact HS.out i a b h1 ha hb
          · obtain rfl : i = j := by omega
            obtain ⟨g1, g2⟩ := HP.out
            rw [ha] at g1
            rw [hb] at g2
            injection g1 with g1
            injection g2 with g2
            subst g1 g2
            exact decide_eq_true HT.out
        case measure => simp only [intOf]; omega
      · have hz0 : (0 : Int) ≤ z := by omega
        have HT : Hid (¬ p.s < q.s) := Lib.hid (fun h => hzz (HZ.out.2 h))
        clear hzz
        refine wpAnyH_take (i := 11) (v := .bool true) rfl (by kernel_rfl) (by kernel_rfl) (by kernel_rfl) (fun _ _ _ h => h) (Or.inl ⟨by kernel_rfl, fun w _ => by go_simp⟩) hS.out ?_
        refine wpAnyH_done (by kernel_rfl) ?_ _
        have HF : Hid (chainB (fun a b : Ls => decide (a.s < b.s)) xs = false) := Lib.hid (by
          rw [Bool.eq_false_iff]
          intro h
          exact HT.out (of_decide_eq_true ((chainB_adj _ _).1 h j p q HP.out.1 HP.out.2)))
        go_wp2_with fail
        go_ret
        exact ⟨ret_bool HF.out.symm, hS.out⟩
    · have hi1 : ¬ (j : Int) + 1 < (n : Int) := by omega
      have HY : Hid (chainB (fun a b : Ls => decide (a.s < b.s)) xs = true) := Lib.hid ((chainB_adj _ _).2 fun i a b ha hb => HS.out i a b (by have := (List.getElem?_eq_some_iff.1 hb).1; have := HL.out; omega) ha hb)
      go_wp2_with fail
      go_ret
      exact ⟨ret_bool HY.out.symm, HB.out⟩
end Go.Proofs.Ytmekamgohonffaa

namespace Go.Proofs.Ytmekamgohonffaa
open Go.RowKit
set_option linter.unusedVariables false
set_option maxRecDepth 100000 in
theorem badL_any (w : World) {A : Option Addr} {c : Nat} (l : Ls) :
    Calls Try.prog 62 #[.agg #[.int .i64 l.s, .int .i64 l.q, .int .i64 l.e, .slice A l.v.length c, .int .i64 l.n]] w fun e w' => e = .returned (.bool (decide (l.s < 1 ∨ l.q < 1))) ∧ Below w.heap.size w w' := by
  have b0 : Below w.heap.size w (w.alloc (.cells #[.int .i64 l.s, .int .i64 l.q, .int .i64 l.e, .slice A l.v.length c, .int .i64 l.n] 75)) := (Below.refl _ _).alloc (Nat.le_refl _) _
  have HB := Lib.hid b0
  have HK := Lib.hid (Blk.new w 75 #[.int .i64 l.s, .int .i64 l.q, .int .i64 l.e, .slice A l.v.length c, .int .i64 l.n])
  clear b0
  by_cases h1 : l.s < 1
  · rw [decide_eq_true (Or.inl h1)]
    go_enter Try.func62, Try.ntmps62
    go_upto_region 1 with fail
    generalize w.alloc (.cells #[.int .i64 l.s, .int .i64 l.q, .int .i64 l.e, .slice A l.v.length c, .int .i64 l.n] 75) = wa at HB HK ⊢
    obtain ⟨x0, x1, _, _, _⟩ := five HK.out
    go_wp2_with fail
    go_ret
    exact ⟨rfl, HB.out⟩
  · by_cases h2 : l.q < 1
    · rw [decide_eq_true (Or.inr h2)]
      go_enter Try.func62, Try.ntmps62
      go_upto_region 1 with fail
      generalize w.alloc (.cells #[.int .i64 l.s, .int .i64 l.q, .int .i64 l.e, .slice A l.v.length c, .int .i64 l.n] 75) = wa at HB HK ⊢
      obtain ⟨x0, x1, _, _, _⟩ := five HK.out
      go_wp2_with fail
      go_ret
      exact ⟨rfl, HB.out⟩
    · rw [decide_eq_false (by omega)]
      go_enter Try.func62, Try.ntmps62
      go_upto_region 1 with fail
      generalize w.alloc (.cells #[.int .i64 l.s, .int .i64 l.q, .int .i64 l.e, .slice A l.v.length c, .int .i64 l.n] 75) = wa at HB HK ⊢
      obtain ⟨x0, x1, _, _, _⟩ := five HK.out
      go_wp2_with fail
      go_ret
      exact ⟨rfl, HB.out⟩
set_option maxHeartbeats 1000000 in
theorem indexFuncT_any (w : World) {n c B : Nat} {A : Option Addr} {ls : List Ls} (hn : n ≤ 100000) (h : RdL w B A n ls) :
    Calls Try.prog 70 #[.slice A n c, .func (.func 62) #[] #[]] w fun e w' => (∃ z : Int, e = .returned (.int .i64 z) ∧ (0 ≤ z ↔ ∃ l ∈ ls, l.s < 1 ∨ l.q < 1)) ∧ Below w.heap.size w w' := by
  obtain rfl := h.length
  have H := Lib.hid h.fit
  clear h
  go_enter Try.func70, Try.ntmps70
  go_wp2_with fail
  go_loopw [5, 8] (fun s5 s8 wr => ∃ j : Nat, j ≤ ls.length ∧ s8 = .int .i64 j ∧ Hid (∀ (i : Nat) (m : Ls), i < j → ls[i]? = some m → ¬ (m.s < 1 ∨ m.q < 1)) ∧ Hid (Below w.heap.size w wr)) (fun _ s8 _ => ls.length - (intOf s8).toNat)
  case atStart => exact ⟨0, Nat.zero_le _, rfl, Lib.hid (fun i m hi => absurd hi (by omega)), Lib.hid (Below.refl _ _)⟩
  case round =>
    obtain ⟨j, hj, rfl, HS, HB0⟩ := hrel
    by_cases hlt : j < ls.length
    · obtain ⟨b, o, l, A1, c1, rfl, hl, y0, y1, y2, y3, y4, hrd⟩ := ((H.out.below HB0.out).fit).at hlt
      have HP := Lib.hid hl
      clear hl hrd
      by_cases he : l.s < 1 ∨ l.q < 1
      · have HE := Lib.hid he
        have HD := Lib.hid (decide_eq_true he)
        clear he
        go_wp2_with (first
          | (go_at_call 62; refine (badL_any _ _).mono ?_; rw [HD.out]; rintro e w2 ⟨rfl, hb2⟩)
          | fail)
        go_ret
        exact ⟨⟨(j : Int), rfl, ⟨fun _ => ⟨l, List.mem_of_getElem? HP.out, HE.out⟩, fun _ => by omega⟩⟩, HB0.out.trans (hb2.mono HB0.out.size)⟩
      · have HE := Lib.hid he
        have HD := Lib.hid (decide_eq_false he)
        clear he
        go_wp2_with (first
          | (go_at_call 62; refine (badL_any _ _).mono ?_; rw [HD.out]; rintro e w2 ⟨rfl, hb2⟩)
          | fail)
        go_roundw
        case rel =>
          refine ⟨j + 1, by omega, by go_num, Lib.hid (fun i m hi hm => ?_), Lib.hid (HB0.out.trans (hb2.mono HB0.out.size))⟩
          rcases Nat.lt_or_ge i j with h1 | h1
          · exact HS.out i m h1 hm
          · obtain rfl : i = j := by omega
            rw [HP.out] at hm
            injection hm with hm
            subst hm
            exact HE.out
        case measure => simp [intOf]; omega
    · obtain rfl : j = ls.length := by omega
      go_wp2_with fail
      go_ret
      refine ⟨⟨-1, rfl, ⟨fun h => absurd h (by omega), ?_⟩⟩, HB0.out⟩
      rintro ⟨l, hl, hbad⟩
      obtain ⟨i, hi, e⟩ := List.getElem_of_mem hl
      exact absurd hbad (HS.out i l hi (by rw [List.getElem?_eq_getElem hi, e]))
theorem containsFuncT_any (w : World) {n c B : Nat} {A : Option Addr} {ls : List Ls} (hn : n ≤ 100000) (h : RdL w B A n ls) :
    Calls Try.prog 61 #[.slice A n c, .func (.func 62) #[] #[]] w fun e w' => e = .returned (.bool (decide (∃ l ∈ ls, l.s < 1 ∨ l.q < 1))) ∧ Below w.heap.size w w' := by
  have HC := Lib.hid (indexFuncT_any w (c := c) hn h)
  clear h
  obtain ⟨D, hD⟩ : ∃ D : Bool, decide (∃ l ∈ ls, l.s < 1 ∨ l.q < 1) = D := ⟨_, rfl⟩
  have HD : Hid (D = true ↔ ∃ l ∈ ls, l.s < 1 ∨ l.q < 1) := Lib.hid (by rw [← hD]; exact decide_eq_true_iff)
  rw [hD]
  clear hD
  go_enter Try.func61, Try.ntmps61
  go_wp2_with (first
    | (go_at_call 70; refine HC.out.mono ?_; rintro e w2 ⟨⟨z, rfl, hz⟩, hb2⟩; have HZ := Lib.hid hz; have HB := Lib.hid hb2; clear hz hb2 HC)
    | fail)
  go_ret
  refine ⟨ret_bool ?_, HB.out⟩
  rw [Bool.eq_iff_iff]
  rw [HD.out, ← HZ.out]
  simp
/-- a table that was read, within its bounds -/
theorem okT_of {ls : List Ls} (hb : ∀ l ∈ ls, l.s ≤ 1073741824 ∧ l.q ≤ 1073741824) : okT ls = (chainB (fun a b : Ls => decide (a.s < b.s)) ls && !decide (∃ l ∈ ls, l.s < 1 ∨ l.q < 1)) := by
  unfold okT
  rw [Bool.and_comm]
  congr 1
  rw [Bool.eq_iff_iff]
  simp only [List.all_eq_true, decide_eq_true_eq, Bool.not_eq_true', decide_eq_false_iff_not, not_exists, not_and]
  constructor
  · intro h l hl hbad
    have := h l hl
    unfold Tb.named at this
    omega
  · intro h l hl
    have h1 := h l hl
    have h2 := hb l hl
    unfold Tb.named
    omega
theorem isTable_any (w : World) {n c B : Nat} {A : Option Addr} {ls : List Ls} (hb : ∀ l ∈ ls, l.s ≤ 1073741824 ∧ l.q ≤ 1073741824) (hn : n ≤ 1000) (h : RdL w B A n ls) :
    Calls Try.prog 50 #[.slice A n c] w fun e w' => e = .returned (.bool (okT ls)) ∧ Below w.heap.size w w' := by
  rw [okT_of hb]
  have H := Lib.hid h.fit
  have HR := Lib.hid (isRisingT_any w (c := c) h hn)
  have HC : Hid (∀ wx, Below w.heap.size w wx → Calls Try.prog 61 #[.slice A n c, .func (.func 62) #[] #[]] wx fun e w' => e = .returned (.bool (decide (∃ l ∈ ls, l.s < 1 ∨ l.q < 1))) ∧ Below wx.heap.size wx w') :=
    Lib.hid (fun wx hb => containsFuncT_any wx (by omega) (h.fit.below hb))
  clear h hb
  obtain ⟨D, hD⟩ : ∃ D : Bool, decide (∃ l ∈ ls, l.s < 1 ∨ l.q < 1) = D := ⟨_, rfl⟩
  obtain ⟨C, hC⟩ : ∃ C : Bool, chainB (fun a b : Ls => decide (a.s < b.s)) ls = C := ⟨_, rfl⟩
  rw [hD] at HC ⊢
  rw [hC] at HR ⊢
  clear hD hC
  cases C with
  | false =>
    go_enter Try.func50, Try.ntmps50
    go_wp2_with (first
      | (go_at_call 59; refine HR.out.mono ?_; rintro e w2 ⟨rfl, hb2⟩)
      | fail)
    go_ret
    exact ⟨rfl, hb2⟩
  | true =>
    go_enter Try.func50, Try.ntmps50
    go_wp2_with (first
      | (go_at_call 59; refine HR.out.mono ?_; rintro e w2 ⟨rfl, hb2⟩)
      | (go_at_call 61; refine (HC.out _ hb2).mono ?_; rintro e w3 ⟨rfl, hb3⟩)
      | fail)
    go_ret
    exact ⟨rfl, hb2.trans (hb3.mono hb2.size)⟩
end Go.Proofs.Ytmekamgohonffaa

