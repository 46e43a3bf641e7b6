/- ObjsCopy LockWalks LockWalks2 ObjsOk0 -/
import Derived.Test.YtaknfmionkkdjaaFM06
import Derived.Test.YtaknfmionkkdjaaFM09
import Derived.Test.YtaknfmionkkdjaaFM14
import Derived.Test.YtaknfmionkkdjaaFM15
import Derived.Test.YtaknfmionkkdjaaFM16
import Derived.Test.YtaknfmionkkdjaaFM27
namespace Go.Proofs.Ytaknfmionkkdjaa
open Go.RowKit
set_option linter.unusedVariables false
set_option maxHeartbeats 1000000 in
set_option maxRecDepth 100000 in
theorem eachQ_raw (qs : List (List Nat)) (A : Option Addr) (n c B : Nat) (hn : n ≤ 100000) (hL : LimL qs) (w : World) (hr : RdQ w B A n qs) :
    Calls Try.prog 53 #[.slice A n c, .func (.func 49) #[] #[]] w (GotQ w w qs) := by
  have HL := Lib.hid hL
  have HR := Lib.hid hr.fit
  have hlen := hr.length
  obtain ⟨i0, hi0, hi1, hi2, hi3⟩ := info_parts cellQ.info
  clear hr hL
  go_enter Try.func53, Try.ntmps53
  go_wp2_with (first
    | (at_make
       refine wpList_make_own w rfl _ _ 34 rfl w.heap.size 26 i0 _ 1 Try.underlying34 hi0 hi1 hi2 _ _ _ n rfl rfl rfl (by rw [hi3]; omega) (by unfold maxLen; omega) (Nat.le_refl _) ?_
       intro w0 hown0 hg0)
    | fail)
  go_loopw [5, 7, 13] (fun s5 _ s13 wr => ∃ (k c' : Nat) (A' : Option Addr), k ≤ n ∧ s13 = .int .i64 (k : Int) ∧ s5 = .slice A' k c' ∧ Hid (OwnQ w wr A' k c' (qs.take k)) ∧ Hid (Below w.heap.size w wr)) (fun _ _ s13 _ => n - (intOf s13).toNat)
  case atStart => exact ⟨0, _, _, Nat.zero_le _, rfl, rfl, Lib.hid ⟨[], hown0, by simpa using Owns.nil w w0⟩, Lib.hid ((Below.refl _ _).grown hg0 (Nat.le_refl _) (fun k hk => by cases hk))⟩
  case round =>
    obtain ⟨k, c', A', hk, rfl, rfl, HO, HB⟩ := hrel
    by_cases hlt : k < n
    · obtain ⟨b, o, l, A1, c1, rfl, hl, hcell, hrd⟩ := (HR.out.below HB.out).at hlt
      have hll : Lim 0 l.length := HL.out l (List.mem_of_getElem? hl)
      have HRD := Lib.hid hrd
      have HLL := Lib.hid hl
      clear hrd hl
      go_wp2_with (first
        | (go_at_call 49; refine (clone_any (W := w) hll HRD.out HB.out).mono ?_; rintro e w1 ⟨A2, c2, rfl, ho2, hB2, hb2⟩; obtain ⟨vs, hv1, hv2⟩ := HO.out.below hb2)
        | (at_builtin
           refine wpList_append_cells (W := w) cellQ (.tmp 17) (.tmp 21) rfl (by rfl) rfl (ownsRow_below hv1 ((Below.refl _ _).alloc (Nat.le_refl _) _)) rfl (Rd.oneV _ _ _) (by intro u hu; simp at hu; subst hu; rfl) (by omega) (by omega) (hB2.alloc hB2.size _) ?_
           intro A3 c3 w3 hown3 hB3 hg3)
        | fail)
      go_roundw
      case rel =>
        refine ⟨k + 1, c3, A3, by omega, by go_num, rfl, Lib.hid ?_, Lib.hid hB3⟩
        have b1 : Below w1.heap.size w1 (w1.alloc (.cells #[.slice A2 l.length c2] 26)) := (Below.refl _ _).alloc (Nat.le_refl _) _
        refine ⟨vs ++ [.slice A2 l.length c2], hown3, ?_⟩
        rw [List.take_add_one, HLL.out]
        exact ((hv2.snoc ho2).below b1).grown (ownsRow_below hv1 b1) hg3
      case measure => simp only [intOf]; omega
    · obtain rfl : k = n := by omega
      go_wp2_with fail
      go_ret
      have HO2 := HO.out
      rw [List.take_of_length_le (by omega)] at HO2
      subst hlen
      exact ⟨A', c', rfl, HO2, HB.out, HB.out⟩
theorem eachQ_any {W w : World} {qs : List (List Nat)} {A : Option Addr} {n c B : Nat} (hn : n ≤ 100000) (hL : LimL qs) (hr : RdQ w B A n qs) (hB : Below W.heap.size W w) :
    Calls Try.prog 53 #[.slice A n c, .func (.func 49) #[] #[]] w (GotQ W w qs) :=
  (eachQ_raw qs A n c B hn hL w hr).mono fun e w' h => GotQ.of hB h
/-- a pair of the call's own -/
def GotPair (W w : World) (p : Pr) (e : Ending) (w' : World) : Prop := ∃ A1 c1 A2 c2, e = .returned (.agg #[.slice A1 p.1.length c1, .slice A2 p.2.length c2]) ∧ OwnB W w' A1 p.1.length c1 p.1 ∧ OwnB W w' A2 p.2.length c2 p.2 ∧ Below W.heap.size W w' ∧ Below w.heap.size w w'
set_option maxHeartbeats 2000000 in
set_option maxRecDepth 100000 in
theorem pairCopied_raw (w : World) {A1 A2 : Option Addr} {c1 c2 B : Nat} {p : Pr} (hl1 : Lim 0 p.1.length) (hl2 : Lim 0 p.2.length) (h1 : Rd w B A1 p.1.length (bv p.1)) (h2 : Rd w B A2 p.2.length (bv p.2)) :
    Calls Try.prog 56 #[.agg #[.slice A1 p.1.length c1, .slice A2 p.2.length c2]] w (GotPair w w p) := by
  obtain ⟨g, hg⟩ : ∃ g, w.heap.size = g := ⟨_, rfl⟩
  obtain ⟨wz, hwz⟩ : ∃ wz, (w.alloc (.cells #[.slice A1 p.1.length c1, .slice A2 p.2.length c2] 109)).alloc (.cells #[.slice none 0 0, .slice none 0 0] 109) = wz := ⟨_, rfl⟩
  have hbz : Below w.heap.size w wz := by rw [← hwz]; exact ((Below.refl _ _).alloc (Nat.le_refl _) _).alloc (by simp) _
  have HR1 := Lib.hid (h1.fit.below hbz).fit
  have HR2 := Lib.hid (h2.fit.below hbz).fit
  have HBZ := Lib.hid hbz
  have HW := Lib.hid hwz
  have HG := Lib.hid hg
  have HV : Hid (Blk wz g 109 #[.slice A1 p.1.length c1, .slice A2 p.2.length c2] ∧ Blk wz (g + 1) 109 #[.slice none 0 0, .slice none 0 0]) := Lib.hid (by
    subst hg
    rw [← hwz]
    refine ⟨(Blk.new _ _ _).alloc _, ?_⟩
    have := Blk.new (w.alloc (.cells #[.slice A1 p.1.length c1, .slice A2 p.2.length c2] 109)) 109 #[.slice none 0 0, .slice none 0 0]
    rwa [World.size_alloc] at this)
  clear hbz h1 h2 hwz hg
  go_enter Try.func56, Try.ntmps56
  go_upto_region 1 with fail
  rw [HG.out]
  rw [HW.out]
  have m1 : (⟨g + 1, 0, none⟩ : Addr).block < wz.heap.size := HV.out.2.lt
  refine region_T (n := 7) (S := fun w' => Below wz.heap.size wz w') (by kernel_rfl) ?_
  have hS0 : Below wz.heap.size wz wz.drew := (Below.refl _ _).drew
  generalize wz.drew = w4 at hS0 ⊢
  have hS := Lib.hid hS0
  clear hS0 m1
  refine AnyT.take (i := 0) (v := .pointer (some ⟨g, 0, none⟩)) rfl (by kernel_rfl) (by kernel_rfl) (by kernel_rfl) (by kernel_rfl) (fun _ _ _ h => h) (Or.inl ⟨by kernel_rfl, fun w _ => by go_simp⟩) hS.out ?_
  refine AnyT.take (i := 3) (v := .pointer (some ⟨g, 1, none⟩)) rfl (by kernel_rfl) (by kernel_rfl) (by kernel_rfl) (by kernel_rfl) (fun _ _ _ h => h) (Or.inl ⟨by kernel_rfl, fun w _ => by go_simp⟩) hS.out ?_
  refine AnyT.take (i := 1) (v := .slice A1 p.1.length c1) rfl (by kernel_rfl) (by kernel_rfl) (by kernel_rfl) (by kernel_rfl) (fun _ _ _ h => h) (Or.inl ⟨by kernel_rfl, fun w h => by have q := (Below.cell h (p := ⟨g, 0, none⟩) HV.out.1.lt).trans (HV.out.1.cell 0); go_simp⟩) hS.out ?_
  refine AnyT.take (i := 4) (v := .slice A2 p.2.length c2) rfl (by kernel_rfl) (by kernel_rfl) (by kernel_rfl) (by kernel_rfl) (fun _ _ _ h => h) (Or.inl ⟨by kernel_rfl, fun w h => by have q := (Below.cell h (p := ⟨g, 1, none⟩) HV.out.1.lt).trans (HV.out.1.cell 1); go_simp⟩) hS.out ?_
  refine AnyT.ready (rs := [2]) (by kernel_rfl) (by simp) ?_
  refine AllT.cons rfl (fun K hK => ?_) AllT.nil
  go_simp
  refine (clone_any (W := wz) hl1 (HR1.out.below hS.out) hS.out).mono ?_
  rintro e w5 ⟨A5, c5, rfl, ho5, hB5, hb5⟩
  have hS := Lib.hid (hS.out.trans (hb5.mono hS.out.size))
  go_simp
  refine hK.out _ _ (Or.inr (hS.out)) (fun _ => ?_)
  clear hK K
  refine AnyT.ready (rs := [5]) (by kernel_rfl) (by simp) ?_
  refine AllT.cons rfl (fun K hK => ?_) AllT.nil
  go_simp
  refine (clone_any (W := wz) hl2 (HR2.out.below hS.out) hS.out).mono ?_
  rintro e w6 ⟨A6, c6, rfl, ho6, hB6, hb6⟩
  have hS := Lib.hid (hS.out.trans (hb6.mono hS.out.size))
  have ho5 := own_below ho5 hb6
  have HK := Lib.hid (HV.out.2.below hS.out)
  have f0 := HK.out.frozen 0
  have f1 := HK.out.frozen 1
  have x0 := HK.out.cell 0
  have x1 := HK.out.cell 1
  go_simp
  refine hK.out _ _ (Or.inr (hS.out)) (fun _ => ?_)
  clear hK K
  refine AnyT.take (i := 6) (v := .agg #[.slice A5 p.1.length c5, .slice A6 p.2.length c6]) rfl (by kernel_rfl) (by kernel_rfl) (by kernel_rfl) (by kernel_rfl) (fun _ _ _ h => h) (Or.inl ⟨by kernel_rfl, fun w _ => by go_simp⟩) hS.out ?_
  refine AnyT.ready (rs := [7]) (by kernel_rfl) (by simp) ?_
  refine AllT.cons rfl (fun K hK => ?_) AllT.nil
  go_simp
  refine hK.out _ _ (Or.inl rfl) (fun _ => ?_)
  clear hK K
  refine AnyT.done (by kernel_rfl) ?_ _
  go_wp2_with fail
  have k1 := (HK.out.set_ 0 (.slice A5 p.1.length c5)).set_ 1 (.slice A6 p.2.length c6)
  refine bodyPost_ret (results_cell_row rfl _ _ _ _ _ _ _ rfl k1 Try.underlying109 rfl (by kernel_rfl)) rfl ?_
  have hwb : w.heap.size ≤ g + 1 := by have := HG.out; omega
  have hw : Below w.heap.size w w6 := HBZ.out.trans (hS.out.mono HBZ.out.size)
  have h3 : Below w.heap.size w ((w6.setCell ⟨g + 1, 0, none⟩ (.slice A5 p.1.length c5)).setCell ⟨g + 1, 1, none⟩ (.slice A6 p.2.length c6)) := (hw.setCell (p := ⟨g + 1, 0, none⟩) hwb _).setCell (p := ⟨g + 1, 1, none⟩) hwb _
  exact ⟨A5, c5, A6, c6, rfl, more_ HBZ.out.size (own_set_t (own_set_t ho5 HK.out (by decide)) (HK.out.set_ 0 _) (by decide)), more_ HBZ.out.size (own_set_t (own_set_t ho6 HK.out (by decide)) (HK.out.set_ 0 _) (by decide)), h3, h3⟩
theorem pairCopied_any {W w : World} {A1 A2 : Option Addr} {c1 c2 B : Nat} {p : Pr} (hl1 : Lim 0 p.1.length) (hl2 : Lim 0 p.2.length) (h1 : Rd w B A1 p.1.length (bv p.1)) (h2 : Rd w B A2 p.2.length (bv p.2)) (hB : Below W.heap.size W w) :
    Calls Try.prog 56 #[.agg #[.slice A1 p.1.length c1, .slice A2 p.2.length c2]] w (GotPair W w p) :=
  (pairCopied_raw w hl1 hl2 h1 h2).mono fun e w' ⟨A1, c1, A2, c2, h1, h2, h3, h4, h5⟩ => ⟨A1, c1, A2, c2, h1, more_ hB.size h2, more_ hB.size h3, hB.trans (h4.mono hB.size), h5⟩
set_option maxHeartbeats 2000000 in
set_option maxRecDepth 100000 in
theorem eachP_raw (ps : List Pr) (A : Option Addr) (n c B : Nat) (hn : n ≤ 100000) (hL : LimP ps) (w : World) (hr : RdP w B A n ps) :
    Calls Try.prog 55 #[.slice A n c, .func (.func 56) #[] #[]] w (GotP w w ps) := by
  have HL := Lib.hid hL
  have HR := Lib.hid hr.fit
  have hlen := hr.length
  obtain ⟨i0, hi0, hi1, hi2, hi3⟩ := info_parts cellP.info
  clear hr hL
  go_enter Try.func55, Try.ntmps55
  go_wp2_with (first
    | (at_make
       refine wpList_make_own w rfl _ _ 35 rfl w.heap.size 109 i0 _ 2 Try.underlying35 hi0 hi1 hi2 _ _ _ n rfl rfl rfl (by rw [hi3]; omega) (by unfold maxLen; omega) (Nat.le_refl _) ?_
       intro w0 hown0 hg0)
    | fail)
  clear hi0 hi1 hi2 hi3
  obtain ⟨g, hg⟩ : ∃ g, w.heap.size = g := ⟨_, rfl⟩
  have HB00 := Lib.hid ((Below.refl w.heap.size w).grown hg0 (Nat.le_refl _) (fun k hk => by cases hk))
  have HO00 : Hid (OwnP w w0 (some ⟨g, 0, none⟩) 0 n []) := Lib.hid ⟨[], by rw [← hg]; exact hown0, Owns.nil w w0⟩
  clear hown0 hg0
  rw [hg]
  have HG := Lib.hid hg
  clear hg
  go_loopw [5, 7, 13] (fun s5 s7 s13 wr => ∃ (k : Nat), k ≤ n ∧ s13 = .int .i64 (k : Int) ∧ s5 = .slice (some ⟨g, 0, none⟩) k n ∧ Hid (OwnP w wr (some ⟨g, 0, none⟩) k n (ps.take k)) ∧ Hid (Below w.heap.size w wr)) (fun _ _ s13 _ => n - (intOf s13).toNat)
  case atStart => exact ⟨0, Nat.zero_le _, rfl, rfl, Lib.hid (by simpa using HO00.out), HB00⟩
  case round =>
    obtain ⟨k, hk, rfl, rfl, HO, HB⟩ := hrel
    by_cases hlt : k < n
    · obtain ⟨b, o, p, A1, c1, A2, c2, rfl, hp, hcell1, hcell2, hrd1, hrd2⟩ := ((HR.out.below HB.out).fit).at hlt
      have hl1 : Lim 0 p.1.length := (HL.out p (List.mem_of_getElem? hp)).1
      have hl2 : Lim 0 p.2.length := (HL.out p (List.mem_of_getElem? hp)).2
      have b0 : Below wr.heap.size wr (wr.alloc (.cells #[.slice A1 p.1.length c1, .slice A2 p.2.length c2] 109)) := (Below.refl _ _).alloc (Nat.le_refl _) _
      have HC := Lib.hid (pairCopied_any (W := w) (c1 := c1) (c2 := c2) hl1 hl2 (hrd1.below b0) (hrd2.below b0) (HB.out.trans (b0.mono HB.out.size)))
      have HB0 := Lib.hid b0
      have HP := Lib.hid hp
      clear hrd1 hrd2 hp b0
      go_wp2_with (first
        | (go_at_call 56; refine HC.out.mono ?_; rintro e w1 ⟨A4, c4, A5, c5, rfl, ho1, ho2, hB2, hb2⟩; obtain ⟨vs, hv1, hv2⟩ := HO.out.below (HB0.out.trans (hb2.mono HB0.out.size)))
        | (at_builtin
           refine wpList_append_fits (W := w) cellP (.tmp 17) (.tmp 21) rfl (by rfl) rfl (ownsRow_below hv1 ((Below.refl _ _).alloc (Nat.le_refl _) _)) rfl (Rd.twoAt _ _ _ _ rfl) (by intro u hu; simp at hu; rcases hu with rfl | rfl <;> rfl) (by omega) (by omega) (hB2.alloc hB2.size _) ?_
           intro w3 hown3 hB3 hg3)
        | fail)
      go_roundw
      case rel =>
        refine ⟨k + 1, by omega, by go_num, rfl, Lib.hid ?_, Lib.hid hB3⟩
        have b1 : Below w1.heap.size w1 (w1.alloc (.cells #[.slice A4 p.1.length c4, .slice A5 p.2.length c5] 109)) := (Below.refl _ _).alloc (Nat.le_refl _) _
        refine ⟨vs ++ [.slice A4 p.1.length c4, .slice A5 p.2.length c5], hown3, ?_⟩
        rw [List.take_add_one, HP.out, flat_append]
        exact ((hv2.two ho1 ho2).below b1).grownP (ownsRow_below hv1 b1) hg3
      case measure => simp only [intOf]; omega
    · obtain rfl : k = n := by omega
      go_wp2_with fail
      go_ret
      have HO2 := HO.out
      rw [List.take_of_length_le (by omega)] at HO2
      subst hlen
      exact ⟨_, _, rfl, HO2, HB.out, HB.out⟩
theorem eachP_any {W w : World} {ps : List Pr} {A : Option Addr} {n c B : Nat} (hn : n ≤ 100000) (hL : LimP ps) (hr : RdP w B A n ps) (hB : Below W.heap.size W w) :
    Calls Try.prog 55 #[.slice A n c, .func (.func 56) #[] #[]] w (GotP W w ps) :=
  (eachP_raw ps A n c B hn hL w hr).mono fun e w' h => GotP.of hB h
end Go.Proofs.Ytaknfmionkkdjaa

namespace Go.Proofs.Ytaknfmionkkdjaa
open Go.RowKit
set_option linter.unusedVariables false
/-- integers that a call made -/
def GotI (W w : World) (l : List Int) (en : Ending) (w' : World) : Prop :=
  ∃ A c, en = .returned (.slice A l.length c) ∧ OwnI W w' A l.length c l ∧ Below W.heap.size W w' ∧ Below w.heap.size w w'
theorem GotI.of {W w w' : World} {l : List Int} {en : Ending} (hB : Below W.heap.size W w) (h : GotI w w l en w') : GotI W w l en w' := by
  obtain ⟨A, c, h1, h2, h3, h4⟩ := h
  exact ⟨A, c, h1, own_of hB.size h2, hB.trans (h3.mono hB.size), h4⟩
set_option maxRecDepth 100000 in
theorem cloneI_raw {w : World} {zs : List Int} {A : Option Addr} {n c B : Nat} (hn : n ≤ 100000) (hr : Rd w B A n (iv zs)) :
    Calls Try.prog 54 #[.slice A n c] w (GotI w w zs) := by
  have H := Lib.hid hr.fit
  have hB0 : Below w.heap.size w w := Below.refl _ _
  obtain rfl : zs.length = n := by have := hr.1; rwa [iv_length] at this
  cases A with
  | none =>
    have h0 : zs.length = 0 := by
      rcases Nat.eq_zero_or_pos zs.length with h | h
      · exact h
      · obtain ⟨b, o, h1, _⟩ := hr.2 h
        cases h1
    have hl : zs = [] := List.eq_nil_of_length_eq_zero h0
    subst hl
    clear hr H h0
    have he : ∀ (w : World) (n : Nat), (binOp .eql 22 (.slice none n c) (.slice none 0 0)).run Try.prog w = .ok (.bool true) w := fun _ _ => rfl
    go_enter Try.func54, Try.ntmps54
    go_wp2
    go_ret
    exact ⟨none, 0, rfl, ownI_nil _ _, hB0, hB0⟩
  | some a =>
    clear hr
    have he : ∀ (w : World) (n : Nat), (binOp .eql 22 (.slice (some a) n c) (.slice none 0 0)).run Try.prog w = .ok (.bool false) w := fun _ _ => rfl
    go_enter Try.func54, Try.ntmps54
    go_wp2_with (first
      | (at_builtin
         refine wpList_append_cells (W := w) cellI (.tmp 5) (.tmp 6) rfl (by rfl) rfl (ownI_empty hB0) rfl (H.out.below (hB0.alloc (Nat.le_refl _) _)) (iv_one _) (by omega) (by omega) (hB0.alloc (Nat.le_refl _) _) ?_
         intro A1 c1 w1 hown1 hB1 hg1
         simp only [Nat.zero_add] at hown1)
      | fail)
    go_ret
    exact ⟨A1, c1, rfl, hown1, hB1, hB1⟩
theorem cloneI_any {W w : World} {zs : List Int} {A : Option Addr} {n c B : Nat} (hn : n ≤ 100000) (hr : Rd w B A n (iv zs)) (hB : Below W.heap.size W w) :
    Calls Try.prog 54 #[.slice A n c] w (GotI W w zs) :=
  (cloneI_raw hn hr).mono fun e w' h => GotI.of hB h
theorem index_any (w : World) {A : Option Addr} {n c B : Nat} {zs : List Int} (x : Int) (h : Rd w B A n (iv zs)) (hn : n ≤ maxLen) :
    Calls Try.prog 90 #[.slice A n c, .int .i64 x] w fun e w' => e = .returned (.int .i64 (placeI zs x)) ∧ w = w' := by
  have hl : zs.length = n := by have := h.1; rwa [iv_length] at this
  unfold maxLen at hn
  have HN : Hid (n ≤ 9223372036854775807) := Lib.hid (by omega)
  have HL := Lib.hid hl
  have H := Lib.hid h
  clear h hl hn
  go_enter Try.func90, Try.ntmps90
  go_wp2
  go_loopw [8] (fun i wr => ∃ k : Nat, k ≤ n ∧ i = .int .i64 k ∧ Hid (∀ j, j < k → zs[j]? ≠ some x) ∧ w = wr) (fun i _ => n - (intOf i).toNat)
  case atStart => exact ⟨0, Nat.zero_le _, rfl, Lib.hid (fun j hj => absurd hj (by omega)), rfl⟩
  case round =>
    obtain ⟨k, hk, rfl, HS, rfl⟩ := hrel
    by_cases hlt : k < n
    · obtain ⟨z, hz⟩ : ∃ z, zs[k]? = some z := ⟨_, List.getElem?_eq_getElem (by have := HL.out; omega)⟩
      obtain ⟨b, o, rfl, _⟩ := H.out.int_at hlt
      have hc := H.out.int_cell hlt hz
      have hv : IntKind.i64.wrap ((k : Int) + 1) = (k : Int) + 1 := IntWalk.i64_in _ (by have := HN.out; omega)
      have HZ := Lib.hid hz
      clear hz
      by_cases he : z = x
      · subst he
        have HP := Lib.hid (place_first HZ.out HS.out)
        go_wp2
        go_ret
        exact ⟨ret_int HP.out.symm, rfl⟩
      · have he' : (x == z) = false := by simpa using fun h => he h.symm
        have HE := Lib.hid he
        clear he
        go_wp2
        go_roundw
        case rel =>
          refine ⟨k + 1, by omega, by go_num, Lib.hid (fun j hj => ?_), trivial⟩
          rcases Nat.lt_or_ge j k with h1 | h1
          · exact HS.out j h1
          · obtain rfl : j = k := by omega
            rw [HZ.out]
            intro h; injection h with h; exact HE.out h
        case measure => simp [intOf]; omega
    · obtain rfl : k = n := by omega
      have HP := Lib.hid (place_none (s := zs) (x := x) (by rw [HL.out]; exact HS.out))
      go_wp2
      go_ret
      exact ⟨ret_int HP.out.symm, rfl⟩
theorem contains_any (w : World) {A : Option Addr} {n c B : Nat} {zs : List Int} (x : Int) (h : Rd w B A n (iv zs)) (hn : n ≤ maxLen) :
    Calls Try.prog 82 #[.slice A n c, .int .i64 x] w fun e w' => e = .returned (.bool (decide (x ∈ zs))) ∧ w = w' := by
  have H := Lib.hid h
  clear h
  by_cases hx : x ∈ zs
  · obtain ⟨k, hk, hk1, _⟩ := place_lt hx
    have h0 : (0 : Int) ≤ (k : Int) := by omega
    have HP := Lib.hid hk
    rw [decide_eq_true hx]
    clear hk hx
    go_enter Try.func82, Try.ntmps82
    go_wp2_with (first
      | (go_at_call 90; refine (index_any _ x H.out hn).mono ?_; rintro e w2 ⟨rfl, rfl⟩; rw [HP.out])
      | fail)
    go_ret
    exact ⟨rfl, rfl⟩
  · have HP := Lib.hid (place_no hx)
    rw [decide_eq_false hx]
    clear hx
    go_enter Try.func82, Try.ntmps82
    go_wp2_with (first
      | (go_at_call 90; refine (index_any _ x H.out hn).mono ?_; rintro e w2 ⟨rfl, rfl⟩; rw [HP.out])
      | fail)
    go_ret
    exact ⟨rfl, rfl⟩
/-- those that are not x -/
def noX (zs : List Int) (x : Int) : List Int := zs.filter (fun z => !(z == x))
set_option maxRecDepth 100000 in
theorem without_raw {w : World} {zs : List Int} {A : Option Addr} {n c B : Nat} (x : Int) (hn : n ≤ 100000) (hr : Rd w B A n (iv zs)) :
    Calls Try.prog 83 #[.slice A n c, .int .i64 x] w (GotI w w (noX zs x)) := by
  have HR := Lib.hid hr.fit
  have hl : zs.length = n := by have := hr.1; rwa [iv_length] at this
  have HL := Lib.hid hl
  obtain ⟨i0, hi0, hi1, hi2, hi3⟩ := info_parts cellI.info
  clear hr hl
  go_enter Try.func83, Try.ntmps83
  go_wp2_with (first
    | (at_make
       refine wpList_make_own w rfl _ _ 22 rfl w.heap.size 3 i0 _ 1 Try.underlying22 hi0 hi1 hi2 _ _ _ n rfl rfl (by rfl) (by rw [hi3]; omega) (by unfold maxLen; omega) (Nat.le_refl _) ?_
       intro w0 hown0 hg0)
    | fail)
  go_loopw [5, 13] (fun s5 s13 wr => ∃ (k m c' : Nat) (A' : Option Addr), k ≤ n ∧ m ≤ k ∧ s13 = .int .i64 (k : Int) ∧ s5 = .slice A' m c' ∧ Hid (OwnI w wr A' m c' (noX (zs.take k) x)) ∧ Hid (Below w.heap.size w wr)) (fun _ s13 _ => n - (intOf s13).toNat)
  case atStart => exact ⟨0, 0, _, _, Nat.zero_le _, Nat.zero_le _, rfl, rfl, Lib.hid hown0, Lib.hid ((Below.refl _ _).grown hg0 (Nat.le_refl _) (fun k hk => by cases hk))⟩
  case round =>
    obtain ⟨k, m, c', A', hk, hmk, rfl, rfl, HO, HB⟩ := hrel
    by_cases hlt : k < n
    · obtain ⟨z, hz⟩ : ∃ z, zs[k]? = some z := ⟨_, List.getElem?_eq_getElem (by have := HL.out; omega)⟩
      obtain ⟨b, o, rfl, _⟩ := (HR.out.below HB.out).int_at hlt
      have hc := (HR.out.below HB.out).int_cell hlt hz
      have hv : IntKind.i64.wrap ((k : Int) + 1) = (k : Int) + 1 := IntWalk.i64_in _ (by omega)
      have HZ := Lib.hid hz
      clear hz
      by_cases he : z = x
      · subst he
        go_wp2_with fail
        go_roundw
        case rel =>
          refine ⟨k + 1, m, c', A', by omega, by omega, by go_num, rfl, Lib.hid ?_, HB⟩
          have h := HO.out
          rw [show noX (zs.take (k + 1)) z = noX (zs.take k) z by rw [List.take_add_one, HZ.out]; simp [noX]]
          exact h
        case measure => simp only [intOf]; omega
      · have he' : (z == x) = false := by simpa using he
        have HE := Lib.hid he'
        go_wp2_with (first
          | (at_builtin
             refine wpList_append_cells (W := w) cellI (.tmp 20) (.tmp 22) rfl (by rfl) rfl (ownsRow_below HO.out ((Below.refl _ _).alloc (Nat.le_refl _) _)) rfl (Rd.oneV _ _ _) (by intro u hu; simp at hu; subst hu; rfl) (by omega) (by omega) (HB.out.alloc HB.out.size _) ?_
             intro A3 c3 w3 hown3 hB3 hg3)
          | fail)
        go_roundw
        case rel =>
          refine ⟨k + 1, m + 1, c3, A3, by omega, by omega, by go_num, rfl, Lib.hid ?_, Lib.hid hB3⟩
          rw [show noX (zs.take (k + 1)) x = noX (zs.take k) x ++ [z] by rw [List.take_add_one, HZ.out]; simp [noX, HE.out]]
          unfold OwnI
          rw [show iv (noX (zs.take k) x ++ [z]) = iv (noX (zs.take k) x) ++ [Value.int .i64 z] by simp [iv]]
          exact hown3
        case measure => simp only [intOf]; omega
    · obtain rfl : k = n := by omega
      go_wp2_with fail
      go_ret
      have HO2 := HO.out
      rw [List.take_of_length_le (by have := HL.out; omega)] at HO2
      obtain rfl := ownI_len HO2
      exact ⟨A', c', rfl, HO2, HB.out, HB.out⟩
theorem without_any {W w : World} {zs : List Int} {A : Option Addr} {n c B : Nat} (x : Int) (hn : n ≤ 100000) (hr : Rd w B A n (iv zs)) (hB : Below W.heap.size W w) :
    Calls Try.prog 83 #[.slice A n c, .int .i64 x] w (GotI W w (noX zs x)) :=
  (without_raw x hn hr).mono fun e w' h => GotI.of hB h
end Go.Proofs.Ytaknfmionkkdjaa

namespace Go.Proofs.Ytaknfmionkkdjaa
open Go.RowKit
set_option linter.unusedVariables false
theorem nox_erase {zs : List Int} (x : Int) (h : zs.Nodup) : noX zs x = zs.erase x := by
  unfold noX
  rw [List.Nodup.erase_eq_filter h]
  rfl
set_option maxHeartbeats 1000000 in
set_option maxRecDepth 100000 in
theorem take_raw {w : World} {zs : List Int} {A : Option Addr} {n c B : Nat} (x : Int) (hn : n ≤ 100000) (hr : Rd w B A n (iv zs)) :
    Calls Try.prog 69 #[.slice A n c, .int .i64 x] w (GotIR w w (takeS zs x) (takeE zs x) (takeN zs x)) := by
  have hB := Below.refl w.heap.size w
  have HR := Lib.hid hr.fit
  obtain rfl : zs.length = n := by have := hr.1; rwa [iv_length] at this
  have b0 : Below w.heap.size w (w.alloc (.cells zeroR 65)) := (Below.refl _ _).alloc (Nat.le_refl _) _
  clear hr
  unfold takeS takeE takeN
  by_cases hx : x ∈ zs
  · rw [if_pos hx, if_pos hx, if_pos hx]
    have HX := Lib.hid (decide_eq_true hx)
    clear hx
    go_enter Try.func69, Try.ntmps69
    go_wp2_with (first
      | (go_at_call 54; refine (cloneI_any (W := w) hn (HR.out.below b0) b0).mono ?_; rintro e w1 ⟨A1, c1, rfl, hown1, hB1, hb1⟩
         have HK := Lib.hid ((Blk.new w 65 zeroR).below hb1); obtain ⟨x0, x1, x2, f0, f1, f2⟩ := three HK.out)
      | (go_at_call 82; refine (contains_any _ x (HR.out.below hB1) (by unfold maxLen; omega)).mono ?_; rintro e w2 ⟨rfl, rfl⟩; rw [HX.out])
      | fail)
    obtain ⟨k1, k2, k3⟩ := put3 HK.out (.int .i64 6) (.slice none 0 0) (.int .i64 0)
    refine bodyPost_ret (results_tmp_cell_row rfl _ _ _ _ _ _ rfl k1 Try.underlying65 rfl (by kernel_rfl)) rfl ?_
    have h3 := k2 w (Nat.le_refl _) hB1
    exact ⟨A1, c1, none, 0, rfl, k3 _ _ _ _ _ _ hown1 (by decide), own_nil _ _, h3, h3⟩
  · rw [if_neg hx, if_neg hx, if_neg hx]
    have HX := Lib.hid (decide_eq_false hx)
    clear hx
    by_cases hf : 5 ≤ zs.length
    · rw [if_pos hf, if_pos hf, if_pos hf]
      have hfi : (5 : Int) ≤ (zs.length : Int) := by omega
      go_enter Try.func69, Try.ntmps69
      go_wp2_with (first
      | (go_at_call 54; refine (cloneI_any (W := w) hn (HR.out.below b0) b0).mono ?_; rintro e w1 ⟨A1, c1, rfl, hown1, hB1, hb1⟩
         have HK := Lib.hid ((Blk.new w 65 zeroR).below hb1); obtain ⟨x0, x1, x2, f0, f1, f2⟩ := three HK.out)
      | (go_at_call 82; refine (contains_any _ x (HR.out.below hB1) (by unfold maxLen; omega)).mono ?_; rintro e w2 ⟨rfl, rfl⟩; rw [HX.out])
      | fail)
      obtain ⟨k1, k2, k3⟩ := put3 HK.out (.int .i64 3) (.slice none 0 0) (.int .i64 0)
      refine bodyPost_ret (results_tmp_cell_row rfl _ _ _ _ _ _ rfl k1 Try.underlying65 rfl (by kernel_rfl)) rfl ?_
      have h3 := k2 w (Nat.le_refl _) hB1
      exact ⟨A1, c1, none, 0, rfl, k3 _ _ _ _ _ _ hown1 (by decide), own_nil _ _, h3, h3⟩
    · rw [if_neg hf, if_neg hf, if_neg hf]
      have hfi : ¬ (5 : Int) ≤ (zs.length : Int) := by omega
      go_enter Try.func69, Try.ntmps69
      go_wp2_with (first
      | (go_at_call 54; refine (cloneI_any (W := w) hn (HR.out.below b0) b0).mono ?_; rintro e w1 ⟨A1, c1, rfl, hown1, hB1, hb1⟩
         have HK := Lib.hid ((Blk.new w 65 zeroR).below hb1))
      | (go_at_call 82; refine (contains_any _ x (HR.out.below hB1) (by unfold maxLen; omega)).mono ?_; rintro e w2 ⟨rfl, rfl⟩; rw [HX.out])
      | (at_builtin
         refine wpList_append_cells (W := w) cellI (.tmp 19) (.tmp 21) rfl (by rfl) rfl (ownsRow_below hown1 ((Below.refl _ _).alloc (Nat.le_refl _) _)) rfl (Rd.oneV _ _ _) (by intro u hu; simp at hu; subst hu; rfl) (by omega) (by omega) (hB1.alloc hB1.size _) ?_
         intro A3 c3 w3 hown3 hB3 hg3
         have HK3 := Lib.hid ((HK.out.alloc (.cells #[.int .i64 x] 3)).apart_own (ownsRow_below hown1 ((Below.refl _ _).alloc (Nat.le_refl _) _)) (by decide) hg3)
         obtain ⟨x0, x1, x2, f0, f1, f2⟩ := three HK3.out
         clear hg3)
      | fail)
      obtain ⟨k1, k2, k3⟩ := put3 HK3.out (.int .i64 0) (.slice none 0 0) (.int .i64 (zs.length : Int))
      refine bodyPost_ret (results_tmp_cell_row rfl _ _ _ _ _ _ rfl k1 Try.underlying65 rfl (by kernel_rfl)) rfl ?_
      have h3 := k2 w (Nat.le_refl _) hB3
      have e : (zs ++ [x]).length = zs.length + 1 := by simp
      have h4 := k3 _ _ _ _ _ _ hown3 (by decide)
      rw [show iv zs ++ [Value.int .i64 x] = iv (zs ++ [x]) by simp [iv]] at h4
      exact ⟨A3, c3, none, 0, by rw [e]; rfl, by rw [e]; exact h4, own_nil _ _, h3, h3⟩
theorem take_any : TakeC := fun x hn hc hr hB => (take_raw x hn hr).mono fun e w' h => GotIR.of hB h
set_option maxHeartbeats 1000000 in
set_option maxRecDepth 100000 in
theorem free_raw {w : World} {zs : List Int} {A : Option Addr} {n c B : Nat} (x : Int) (hn : n ≤ 100000) (hd : zs.Nodup) (hr : Rd w B A n (iv zs)) :
    Calls Try.prog 70 #[.slice A n c, .int .i64 x] w (GotIR w w (zs.erase x) (freeE zs x) (freeN zs x)) := by
  have hB := Below.refl w.heap.size w
  have HR := Lib.hid hr.fit
  obtain rfl : zs.length = n := by have := hr.1; rwa [iv_length] at this
  have b0 : Below w.heap.size w (w.alloc (.cells zeroR 65)) := (Below.refl _ _).alloc (Nat.le_refl _) _
  clear hr
  have HNX := Lib.hid (nox_erase x hd)
  clear hd
  unfold freeE freeN
  by_cases hx : x ∈ zs
  · rw [if_pos hx, if_pos hx]
    have hl : (zs.erase x).length = zs.length - 1 := List.length_erase_of_mem hx
    have hp : 0 < zs.length := List.length_pos_of_mem hx
    obtain ⟨L, hL⟩ : ∃ L, zs.erase x = L := ⟨_, rfl⟩
    rw [hL] at hl HNX ⊢
    have HL := Lib.hid hl
    have hne : ((L.length : Int) == (zs.length : Int)) = false := by rw [beq_eq_false_iff_ne]; omega
    clear hx hL hl hp
    rcases Nat.eq_zero_or_pos L.length with h0 | h0
    · have hz : L = [] := List.eq_nil_of_length_eq_zero h0
      subst hz
      have hne0 : ((0 : Int) == (zs.length : Int)) = false := hne
      clear h0
      go_enter Try.func70, Try.ntmps70
      go_wp2_with (first
        | (go_at_call 83; refine (without_any (W := w) x hn (HR.out.below b0) b0).mono ?_; rw [HNX.out]; rintro e w1 ⟨A1, c1, rfl, hown1, hB1, hb1⟩
           have HK := Lib.hid ((Blk.new w 65 zeroR).below hb1); obtain ⟨x0, x1, x2, f0, f1, f2⟩ := three HK.out)
        | fail)
      obtain ⟨k1, k2, k3⟩ := put3 HK.out (.int .i64 0) (.slice none 0 0) (.int .i64 (-1))
      refine bodyPost_ret (results_tmp_cell_row rfl _ _ _ _ _ _ rfl k1 Try.underlying65 rfl (by kernel_rfl)) rfl ?_
      have h3 := k2 w (Nat.le_refl _) hB1
      exact ⟨none, 0, none, 0, rfl, ownI_nil _ _, own_nil _ _, h3, h3⟩
    · obtain ⟨z, hz⟩ : ∃ z, L[0]? = some z := ⟨_, List.getElem?_eq_getElem h0⟩
      have hv : L.head?.getD (-1) = z := by rw [List.head?_eq_getElem?, hz]; rfl
      rw [hv]
      have hne2 : ((L.length : Int) == 0) = false := by rw [beq_eq_false_iff_ne]; omega
      have HZ := Lib.hid hz
      clear hv hz
      go_enter Try.func70, Try.ntmps70
      go_wp2_with (first
        | (go_at_call 83; refine (without_any (W := w) x hn (HR.out.below b0) b0).mono ?_; rw [HNX.out]; rintro e w1 ⟨A1, c1, rfl, hown1, hB1, hb1⟩
           have HK := Lib.hid ((Blk.new w 65 zeroR).below hb1); obtain ⟨x0, x1, x2, f0, f1, f2⟩ := three HK.out
           have HOW := Lib.hid hown1; obtain ⟨g, rfl, hg1, hg2⟩ := own_addr hown1 h0; have hcl := (hown1.cellAt 0 (by omega)).trans (iv_get HZ.out); clear hown1 hg1 hg2)
        | fail)
      go_region
      all_goals go_wp2
      obtain ⟨k1, k2, k3⟩ := put3 HK.out (.int .i64 0) (.slice none 0 0) (.int .i64 z)
      refine bodyPost_ret (results_tmp_cell_row rfl _ _ _ _ _ _ rfl k1.drew Try.underlying65 rfl (by kernel_rfl)) rfl ?_
      have h3 := (k2 w (Nat.le_refl _) hB1).drew
      exact ⟨some ⟨g, 0, none⟩, c1, none, 0, rfl, k3 _ _ _ _ _ _ HOW.out (by decide), own_nil _ _, h3, h3⟩
  · rw [if_neg hx, if_neg hx]
    rw [List.erase_of_not_mem hx] at HNX ⊢
    clear hx
    go_enter Try.func70, Try.ntmps70
    go_wp2_with (first
      | (go_at_call 83; refine (without_any (W := w) x hn (HR.out.below b0) b0).mono ?_; rw [HNX.out]; rintro e w1 ⟨A1, c1, rfl, hown1, hB1, hb1⟩
         have HK := Lib.hid ((Blk.new w 65 zeroR).below hb1); obtain ⟨x0, x1, x2, f0, f1, f2⟩ := three HK.out)
      | fail)
    obtain ⟨k1, k2, k3⟩ := put3 HK.out (.int .i64 5) (.slice none 0 0) (.int .i64 0)
    refine bodyPost_ret (results_tmp_cell_row rfl _ _ _ _ _ _ rfl k1 Try.underlying65 rfl (by kernel_rfl)) rfl ?_
    have h3 := k2 w (Nat.le_refl _) hB1
    exact ⟨A1, c1, none, 0, rfl, k3 _ _ _ _ _ _ hown1 (by decide), own_nil _ _, h3, h3⟩
theorem free_any : FreeC := fun x hn hc hd hr hB => (free_raw x hn hd hr).mono fun e w' h => GotIR.of hB h
theorem owner_raw (w : World) {zs : List Int} {A : Option Addr} {n c B : Nat} (hr : Rd w B A n (iv zs)) :
    Calls Try.prog 71 #[.slice A n c] w fun en w' => en = .returned (resV (ownerE zs) none 0 0 (ownerN zs)) ∧ Below w.heap.size w w' := by
  obtain rfl : zs.length = n := by have := hr.1; rwa [iv_length] at this
  unfold ownerE ownerN
  have b0 : Below w.heap.size w (w.alloc (.cells zeroR 65)) := (Below.refl _ _).alloc (Nat.le_refl _) _
  rcases Nat.eq_zero_or_pos zs.length with h0 | h0
  · have hz : zs = [] := List.eq_nil_of_length_eq_zero h0
    subst hz
    rw [if_pos h0]
    clear h0 hr
    go_enter Try.func71, Try.ntmps71
    go_wp2
    refine bodyPost_ret (results_cell_row rfl _ _ _ _ _ _ _ rfl (Blk.new w 65 #[.int .i64 5, .slice none 0 0, .int .i64 0]) Try.underlying65 rfl (by kernel_rfl)) rfl ?_
    exact ⟨rfl, (Below.refl _ _).alloc (Nat.le_refl _) _⟩
  · rw [if_neg (by omega)]
    have hne : ((zs.length : Int) == 0) = false := by rw [beq_eq_false_iff_ne]; omega
    obtain ⟨z, hz⟩ : ∃ z, zs[0]? = some z := ⟨_, List.getElem?_eq_getElem h0⟩
    obtain ⟨b, o, rfl, _⟩ := hr.int_at h0
    have hc := hr.int_cell h0 hz
    have hv : zs.head?.getD 0 = z := by rw [List.head?_eq_getElem?, hz]; rfl
    rw [hv]
    rw [Nat.add_zero] at hc
    have hc0 := (b0.cell (p := ⟨b, o, none⟩) (World.block_lt_of_cell? _ _ hc)).trans hc
    clear hv hz hc hr
    go_enter Try.func71, Try.ntmps71
    go_wp2
    refine bodyPost_ret (results_cell_row rfl _ _ _ _ _ _ _ rfl (Blk.new w 65 #[.int .i64 0, .slice none 0 0, .int .i64 z]) Try.underlying65 rfl (by kernel_rfl)) rfl ?_
    exact ⟨rfl, (Below.refl _ _).alloc (Nat.le_refl _) _⟩
theorem owner_any : OwnerC := fun hn hc hr hB => (owner_raw _ hr).mono fun e w' h => ⟨none, 0, h.1, own_nil _ _, hB.trans (h.2.mono hB.size), h.2⟩
end Go.Proofs.Ytaknfmionkkdjaa

namespace Go.Proofs.Ytaknfmionkkdjaa
open Go.RowKit
set_option linter.unusedVariables false
theorem isKind_any (w : World) (k : Int) : Calls Try.prog 78 #[.int .i64 k] w fun e w' => e = .returned (.bool (decide (1 ≤ k ∧ k ≤ 11))) ∧ w' = w := by
  by_cases h1 : 1 ≤ k
  · by_cases h2 : k ≤ 11
    · rw [decide_eq_true (show 1 ≤ k ∧ k ≤ 11 from ⟨h1, h2⟩)]
      go_enter Try.func78, Try.ntmps78
      go_wp2_with fail
      go_ret
      exact ⟨rfl, rfl⟩
    · rw [decide_eq_false (show ¬ (1 ≤ k ∧ k ≤ 11) by omega)]
      go_enter Try.func78, Try.ntmps78
      go_wp2_with fail
      go_ret
      exact ⟨rfl, rfl⟩
  · rw [decide_eq_false (show ¬ (1 ≤ k ∧ k ≤ 11) by omega)]
    go_enter Try.func78, Try.ntmps78
    go_wp2_with fail
    go_ret
    exact ⟨rfl, rfl⟩
theorem isWho_any (w : World) (k : Int) : Calls Try.prog 79 #[.int .i64 k] w fun e w' => e = .returned (.bool (decide (0 ≤ k ∧ k ≤ 999))) ∧ w' = w := by
  by_cases h1 : 0 ≤ k
  · by_cases h2 : k ≤ 999
    · rw [decide_eq_true (show 0 ≤ k ∧ k ≤ 999 from ⟨h1, h2⟩)]
      go_enter Try.func79, Try.ntmps79
      go_wp2_with fail
      go_ret
      exact ⟨rfl, rfl⟩
    · rw [decide_eq_false (show ¬ (0 ≤ k ∧ k ≤ 999) by omega)]
      go_enter Try.func79, Try.ntmps79
      go_wp2_with fail
      go_ret
      exact ⟨rfl, rfl⟩
  · rw [decide_eq_false (show ¬ (0 ≤ k ∧ k ≤ 999) by omega)]
    go_enter Try.func79, Try.ntmps79
    go_wp2_with fail
    go_ret
    exact ⟨rfl, rfl⟩
theorem isKind_yes (w : World) {k : Int} (h : 1 ≤ k ∧ k ≤ 11) : Calls Try.prog 78 #[.int .i64 k] w fun e w' => e = .returned (.bool true) ∧ w' = w := by
  have := isKind_any w k; rwa [decide_eq_true h] at this
theorem isKind_no (w : World) {k : Int} (h : ¬ (1 ≤ k ∧ k ≤ 11)) : Calls Try.prog 78 #[.int .i64 k] w fun e w' => e = .returned (.bool false) ∧ w' = w := by
  have := isKind_any w k; rwa [decide_eq_false h] at this
theorem isWho_yes (w : World) {k : Int} (h : 0 ≤ k ∧ k ≤ 999) : Calls Try.prog 79 #[.int .i64 k] w fun e w' => e = .returned (.bool true) ∧ w' = w := by
  have := isWho_any w k; rwa [decide_eq_true h] at this
theorem isWho_no (w : World) {k : Int} (h : ¬ (0 ≤ k ∧ k ≤ 999)) : Calls Try.prog 79 #[.int .i64 k] w fun e w' => e = .returned (.bool false) ∧ w' = w := by
  have := isWho_any w k; rwa [decide_eq_false h] at this
/-- may a command be handed on? -/
def Cm.known (c : Cm) : Bool := decide (1 ≤ c.kind ∧ c.kind ≤ 11 ∧ (c.kind = 6 ∨ c.kind = 7 → 0 ≤ c.who ∧ c.who ≤ 999))
set_option maxRecDepth 100000 in
set_option maxHeartbeats 2000000 in
theorem isKnown_any (w : World) (ca : CA) (c : Cm) : Calls Try.prog 63 #[cmdV ca c] w fun e w' => e = .returned (.bool c.known) ∧ Below w.heap.size w w' := by
  have b0 : Below w.heap.size w (w.alloc (.cells (cmdC ca c) 28)) := (Below.refl _ _).alloc (Nat.le_refl _) _
  obtain ⟨Ak, ck, Av, cv, Ao, co⟩ := ca
  obtain ⟨kind, who, key, val, old⟩ := c
  unfold cmdV
  simp only [cmdC] at b0 ⊢
  have bad : ¬ (1 ≤ kind ∧ kind ≤ 11 ∧ (kind = 6 ∨ kind = 7 → 0 ≤ who ∧ who ≤ 999)) → Cm.known ⟨kind, who, key, val, old⟩ = false := fun h => decide_eq_false h
  have good : (1 ≤ kind ∧ kind ≤ 11 ∧ (kind = 6 ∨ kind = 7 → 0 ≤ who ∧ who ≤ 999)) → Cm.known ⟨kind, who, key, val, old⟩ = true := fun h => decide_eq_true h
  by_cases h1 : 1 ≤ kind ∧ kind ≤ 11
  · have HK := Lib.hid (fun w => isKind_yes w h1)
    by_cases h2 : 0 ≤ who ∧ who ≤ 999
    · have HW := Lib.hid (fun w => isWho_yes w h2)
      rw [good ⟨h1.1, h1.2, fun _ => h2⟩]
      clear bad good
      by_cases h6 : kind = 6
      · subst h6
        clear h1 h2
        go_enter Try.func63, Try.ntmps63
        go_wp2_with (first
          | (go_at_call 78; refine (HK.out _).mono ?_; rintro e w1 ⟨rfl, rfl⟩)
          | (go_at_call 79; refine (HW.out _).mono ?_; rintro e w1 ⟨rfl, rfl⟩)
          | fail)
        go_ret
        exact ⟨rfl, b0⟩
      · have k6 : (kind == 6) = false := by simp; omega
        clear h1 h2 h6
        go_enter Try.func63, Try.ntmps63
        go_wp2_with (first
          | (go_at_call 78; refine (HK.out _).mono ?_; rintro e w1 ⟨rfl, rfl⟩)
          | (go_at_call 79; refine (HW.out _).mono ?_; rintro e w1 ⟨rfl, rfl⟩)
          | fail)
        go_ret
        exact ⟨rfl, b0⟩
    · have HW := Lib.hid (fun w => isWho_no w h2)
      by_cases h6 : kind = 6
      · rw [bad (by omega)]
        subst h6
        clear h1 h2 bad good
        go_enter Try.func63, Try.ntmps63
        go_wp2_with (first
          | (go_at_call 78; refine (HK.out _).mono ?_; rintro e w1 ⟨rfl, rfl⟩)
          | (go_at_call 79; refine (HW.out _).mono ?_; rintro e w1 ⟨rfl, rfl⟩)
          | fail)
        go_ret
        exact ⟨rfl, b0⟩
      · have k6 : (kind == 6) = false := by simp; omega
        by_cases h7 : kind = 7
        · rw [bad (by omega)]
          subst h7
          clear h1 h2 bad good
          go_enter Try.func63, Try.ntmps63
          go_wp2_with (first
            | (go_at_call 78; refine (HK.out _).mono ?_; rintro e w1 ⟨rfl, rfl⟩)
            | (go_at_call 79; refine (HW.out _).mono ?_; rintro e w1 ⟨rfl, rfl⟩)
            | fail)
          go_ret
          exact ⟨rfl, b0⟩
        · have k7 : (kind == 7) = false := by simp; omega
          rw [good ⟨h1.1, h1.2, fun h => by omega⟩]
          clear h1 h2 h6 h7 bad good
          go_enter Try.func63, Try.ntmps63
          go_wp2_with (first
            | (go_at_call 78; refine (HK.out _).mono ?_; rintro e w1 ⟨rfl, rfl⟩)
            | (go_at_call 79; refine (HW.out _).mono ?_; rintro e w1 ⟨rfl, rfl⟩)
            | fail)
          go_ret
          exact ⟨rfl, b0⟩
  · have HK := Lib.hid (fun w => isKind_no w h1)
    rw [bad (by omega)]
    clear h1 bad good
    by_cases h6 : kind = 6
    · subst h6
      go_enter Try.func63, Try.ntmps63
      go_wp2_with (first
        | (go_at_call 78; refine (HK.out _).mono ?_; rintro e w1 ⟨rfl, rfl⟩)
        | fail)
      go_ret
      exact ⟨rfl, b0⟩
    · have k6 : (kind == 6) = false := by simp; omega
      clear h6
      go_enter Try.func63, Try.ntmps63
      go_wp2_with (first
        | (go_at_call 78; refine (HK.out _).mono ?_; rintro e w1 ⟨rfl, rfl⟩)
        | fail)
      go_ret
      exact ⟨rfl, b0⟩
end Go.Proofs.Ytaknfmionkkdjaa

