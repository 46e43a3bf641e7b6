/- The contracts of the code: objs' eachCopied of rows and of pairs, pairCopied. -/
import Derived.Test.YtcmjpjhaaookfaaObjKit
import Derived.Test.YtcmjpjhaaookfaaCloneKit
import Derived.Test.YtcmjpjhaaookfaaInPlaceKit
import Derived.Test.YtcmjpjhaaookfaaFifoWalks
import Derived.Test.YtcmjpjhaaookfaaRegionT
namespace Go.Proofs.Ytcmjpjhaaookfaa
open Go.RowKit
set_option linter.unusedVariables false
set_option maxHeartbeats 1000000 in
set_option maxRecDepth 100000 in
theorem eachQ_raw (qs : List (List Nat)) (A : Option Addr) (n c B : Nat) (hn : n ≤ 100000) (hL : LimL qs) (w : World) (hr : RdQ w B A n qs) :
    Calls Try.prog 81 #[.slice A n c, .func (.func 80) #[] #[]] w (GotQ w w qs) := by
  have HL := Lib.hid hL
  have HR := Lib.hid hr.fit
  have hlen := hr.length
  obtain ⟨i0, hi0, hi1, hi2, hi3⟩ := info_parts cellQ.info
  clear hr hL
  go_enter Try.func81, Try.ntmps81
  go_wp2_with (first
    | (at_make
       refine wpList_make_own w rfl _ _ 28 rfl w.heap.size 22 i0 _ 1 Try.underlying28 hi0 hi1 hi2 _ _ _ n rfl rfl rfl (by rw [hi3]; omega) (by unfold maxLen; omega) (Nat.le_refl _) ?_
       intro w0 hown0 hg0)
    | fail)
  go_loopw [5, 7, 13] (fun s5 _ s13 wr => ∃ (k c' : Nat) (A' : Option Addr), k ≤ n ∧ s13 = .int .i64 (k : Int) ∧ s5 = .slice A' k c' ∧ Hid (OwnQ w wr A' k c' (qs.take k)) ∧ Hid (Below w.heap.size w wr)) (fun _ _ s13 _ => n - (intOf s13).toNat)
  case atStart => exact ⟨0, _, _, Nat.zero_le _, rfl, rfl, Lib.hid ⟨[], hown0, by simpa using Owns.nil w w0⟩, Lib.hid ((Below.refl _ _).grown hg0 (Nat.le_refl _) (fun k hk => by cases hk))⟩
  case round =>
    obtain ⟨k, c', A', hk, rfl, rfl, HO, HB⟩ := hrel
    by_cases hlt : k < n
    · obtain ⟨b, o, l, A1, c1, rfl, hl, hcell, hrd⟩ := (HR.out.below HB.out).at hlt
      have hll : Lim 0 l.length := HL.out l (List.mem_of_getElem? hl)
      have HRD := Lib.hid hrd
      have HLL := Lib.hid hl
      clear hrd hl
      go_wp2_with (first
        | (go_at_call 80; refine (clone_any (W := w) hll HRD.out HB.out).mono ?_; rintro e w1 ⟨A2, c2, rfl, ho2, hB2, hb2⟩; obtain ⟨vs, hv1, hv2⟩ := HO.out.below hb2)
        | (at_builtin
           refine wpList_append_cells (W := w) cellQ (.tmp 17) (.tmp 21) rfl (by rfl) rfl (ownsRow_below hv1 ((Below.refl _ _).alloc (Nat.le_refl _) _)) rfl (Rd.oneV _ _ _) (by intro u hu; simp at hu; subst hu; rfl) (by omega) (by omega) (hB2.alloc hB2.size _) ?_
           intro A3 c3 w3 hown3 hB3 hg3)
        | fail)
      go_roundw
      case rel =>
        refine ⟨k + 1, c3, A3, by omega, by go_num, rfl, Lib.hid ?_, Lib.hid hB3⟩
        have b1 : Below w1.heap.size w1 (w1.alloc (.cells #[.slice A2 l.length c2] 22)) := (Below.refl _ _).alloc (Nat.le_refl _) _
        refine ⟨vs ++ [.slice A2 l.length c2], hown3, ?_⟩
        rw [List.take_add_one, HLL.out]
        exact ((hv2.snoc ho2).below b1).grown (ownsRow_below hv1 b1) hg3
      case measure => simp only [intOf]; omega
    · obtain rfl : k = n := by omega
      go_wp2_with fail
      go_ret
      have HO2 := HO.out
      rw [List.take_of_length_le (by omega)] at HO2
      subst hlen
      exact ⟨A', c', rfl, HO2, HB.out, HB.out⟩
theorem eachQ_any {W w : World} {qs : List (List Nat)} {A : Option Addr} {n c B : Nat} (hn : n ≤ 100000) (hL : LimL qs) (hr : RdQ w B A n qs) (hB : Below W.heap.size W w) :
    Calls Try.prog 81 #[.slice A n c, .func (.func 80) #[] #[]] w (GotQ W w qs) :=
  (eachQ_raw qs A n c B hn hL w hr).mono fun e w' h => GotQ.of hB h
/-- a pair of the call's own -/
def GotPair (W w : World) (p : Pr) (e : Ending) (w' : World) : Prop := ∃ A1 c1 A2 c2, e = .returned (.agg #[.slice A1 p.1.length c1, .slice A2 p.2.length c2]) ∧ OwnB W w' A1 p.1.length c1 p.1 ∧ OwnB W w' A2 p.2.length c2 p.2 ∧ Below W.heap.size W w' ∧ Below w.heap.size w w'
set_option maxHeartbeats 2000000 in
set_option maxRecDepth 100000 in
theorem pairCopied_raw (w : World) {A1 A2 : Option Addr} {c1 c2 B : Nat} {p : Pr} (hl1 : Lim 0 p.1.length) (hl2 : Lim 0 p.2.length) (h1 : Rd w B A1 p.1.length (bv p.1)) (h2 : Rd w B A2 p.2.length (bv p.2)) :
    Calls Try.prog 84 #[.agg #[.slice A1 p.1.length c1, .slice A2 p.2.length c2]] w (GotPair w w p) := by
  obtain ⟨g, hg⟩ : ∃ g, w.heap.size = g := ⟨_, rfl⟩
  obtain ⟨wz, hwz⟩ : ∃ wz, (w.alloc (.cells #[.slice A1 p.1.length c1, .slice A2 p.2.length c2] 42)).alloc (.cells #[.slice none 0 0, .slice none 0 0] 42) = wz := ⟨_, rfl⟩
  have hbz : Below w.heap.size w wz := by rw [← hwz]; exact ((Below.refl _ _).alloc (Nat.le_refl _) _).alloc (by simp) _
  have HR1 := Lib.hid (h1.fit.below hbz).fit
  have HR2 := Lib.hid (h2.fit.below hbz).fit
  have HBZ := Lib.hid hbz
  have HW := Lib.hid hwz
  have HG := Lib.hid hg
  have HV : Hid (Blk wz g 42 #[.slice A1 p.1.length c1, .slice A2 p.2.length c2] ∧ Blk wz (g + 1) 42 #[.slice none 0 0, .slice none 0 0]) := Lib.hid (by
    subst hg
    rw [← hwz]
    refine ⟨(Blk.new _ _ _).alloc _, ?_⟩
    have := Blk.new (w.alloc (.cells #[.slice A1 p.1.length c1, .slice A2 p.2.length c2] 42)) 42 #[.slice none 0 0, .slice none 0 0]
    rwa [World.size_alloc] at this)
  clear hbz h1 h2 hwz hg
  go_enter Try.func84, Try.ntmps84
  go_upto_region 1 with fail
  rw [HG.out]
  rw [HW.out]
  have m1 : (⟨g + 1, 0, none⟩ : Addr).block < wz.heap.size := HV.out.2.lt
  refine region_T (n := 7) (S := fun w' => Below wz.heap.size wz w') (by kernel_rfl) ?_
  have hS0 : Below wz.heap.size wz wz.drew := (Below.refl _ _).drew
  generalize wz.drew = w4 at hS0 ⊢
  have hS := Lib.hid hS0
  clear hS0 m1
  refine AnyT.take (i := 0) (v := .pointer (some ⟨g, 0, none⟩)) rfl (by kernel_rfl) (by kernel_rfl) (by kernel_rfl) (by kernel_rfl) (fun _ _ _ h => h) (Or.inl ⟨by kernel_rfl, fun w _ => by go_simp⟩) hS.out ?_
  refine AnyT.take (i := 3) (v := .pointer (some ⟨g, 1, none⟩)) rfl (by kernel_rfl) (by kernel_rfl) (by kernel_rfl) (by kernel_rfl) (fun _ _ _ h => h) (Or.inl ⟨by kernel_rfl, fun w _ => by go_simp⟩) hS.out ?_
  refine AnyT.take (i := 1) (v := .slice A1 p.1.length c1) rfl (by kernel_rfl) (by kernel_rfl) (by kernel_rfl) (by kernel_rfl) (fun _ _ _ h => h) (Or.inl ⟨by kernel_rfl, fun w h => by have q := (Below.cell h (p := ⟨g, 0, none⟩) HV.out.1.lt).trans (HV.out.1.cell 0); go_simp⟩) hS.out ?_
  refine AnyT.take (i := 4) (v := .slice A2 p.2.length c2) rfl (by kernel_rfl) (by kernel_rfl) (by kernel_rfl) (by kernel_rfl) (fun _ _ _ h => h) (Or.inl ⟨by kernel_rfl, fun w h => by have q := (Below.cell h (p := ⟨g, 1, none⟩) HV.out.1.lt).trans (HV.out.1.cell 1); go_simp⟩) hS.out ?_
  refine AnyT.ready (rs := [2]) (by kernel_rfl) (by simp) ?_
  refine AllT.cons rfl (fun K hK => ?_) AllT.nil
  go_simp
  refine (clone_any (W := wz) hl1 (HR1.out.below hS.out) hS.out).mono ?_
  rintro e w5 ⟨A5, c5, rfl, ho5, hB5, hb5⟩
  have hS := Lib.hid (hS.out.trans (hb5.mono hS.out.size))
  go_simp
  refine hK.out _ _ (Or.inr (hS.out)) (fun _ => ?_)
  clear hK K
  refine AnyT.ready (rs := [5]) (by kernel_rfl) (by simp) ?_
  refine AllT.cons rfl (fun K hK => ?_) AllT.nil
  go_simp
  refine (clone_any (W := wz) hl2 (HR2.out.below hS.out) hS.out).mono ?_
  rintro e w6 ⟨A6, c6, rfl, ho6, hB6, hb6⟩
  have hS := Lib.hid (hS.out.trans (hb6.mono hS.out.size))
  have ho5 := own_below ho5 hb6
  have HK := Lib.hid (HV.out.2.below hS.out)
  have f0 := HK.out.frozen 0
  have f1 := HK.out.frozen 1
  have x0 := HK.out.cell 0
  have x1 := HK.out.cell 1
  go_simp
  refine hK.out _ _ (Or.inr (hS.out)) (fun _ => ?_)
  clear hK K
  refine AnyT.take (i := 6) (v := .agg #[.slice A5 p.1.length c5, .slice A6 p.2.length c6]) rfl (by kernel_rfl) (by kernel_rfl) (by kernel_rfl) (by kernel_rfl) (fun _ _ _ h => h) (Or.inl ⟨by kernel_rfl, fun w _ => by go_simp⟩) hS.out ?_
  refine AnyT.ready (rs := [7]) (by kernel_rfl) (by simp) ?_
  refine AllT.cons rfl (fun K hK => ?_) AllT.nil
  go_simp
  refine hK.out _ _ (Or.inl rfl) (fun _ => ?_)
  clear hK K
  refine AnyT.done (by kernel_rfl) ?_ _
  go_wp2_with fail
  have k1 := (HK.out.set_ 0 (.slice A5 p.1.length c5)).set_ 1 (.slice A6 p.2.length c6)
  refine bodyPost_ret (results_cell_row rfl _ _ _ _ _ _ _ rfl k1 Try.underlying42 rfl (by kernel_rfl)) rfl ?_
  have hwb : w.heap.size ≤ g + 1 := by have := HG.out; omega
  have hw : Below w.heap.size w w6 := HBZ.out.trans (hS.out.mono HBZ.out.size)
  have h3 : Below w.heap.size w ((w6.setCell ⟨g + 1, 0, none⟩ (.slice A5 p.1.length c5)).setCell ⟨g + 1, 1, none⟩ (.slice A6 p.2.length c6)) := (hw.setCell (p := ⟨g + 1, 0, none⟩) hwb _).setCell (p := ⟨g + 1, 1, none⟩) hwb _
  exact ⟨A5, c5, A6, c6, rfl, more_ HBZ.out.size (own_set_t (own_set_t ho5 HK.out (by decide)) (HK.out.set_ 0 _) (by decide)), more_ HBZ.out.size (own_set_t (own_set_t ho6 HK.out (by decide)) (HK.out.set_ 0 _) (by decide)), h3, h3⟩
theorem pairCopied_any {W w : World} {A1 A2 : Option Addr} {c1 c2 B : Nat} {p : Pr} (hl1 : Lim 0 p.1.length) (hl2 : Lim 0 p.2.length) (h1 : Rd w B A1 p.1.length (bv p.1)) (h2 : Rd w B A2 p.2.length (bv p.2)) (hB : Below W.heap.size W w) :
    Calls Try.prog 84 #[.agg #[.slice A1 p.1.length c1, .slice A2 p.2.length c2]] w (GotPair W w p) :=
  (pairCopied_raw w hl1 hl2 h1 h2).mono fun e w' ⟨A1, c1, A2, c2, h1, h2, h3, h4, h5⟩ => ⟨A1, c1, A2, c2, h1, more_ hB.size h2, more_ hB.size h3, hB.trans (h4.mono hB.size), h5⟩
set_option maxHeartbeats 2000000 in
set_option maxRecDepth 100000 in
theorem eachP_raw (ps : List Pr) (A : Option Addr) (n c B : Nat) (hn : n ≤ 100000) (hL : LimP ps) (w : World) (hr : RdP w B A n ps) :
    Calls Try.prog 83 #[.slice A n c, .func (.func 84) #[] #[]] w (GotP w w ps) := by
  have HL := Lib.hid hL
  have HR := Lib.hid hr.fit
  have hlen := hr.length
  obtain ⟨i0, hi0, hi1, hi2, hi3⟩ := info_parts cellP.info
  clear hr hL
  go_enter Try.func83, Try.ntmps83
  go_wp2_with (first
    | (at_make
       refine wpList_make_own w rfl _ _ 30 rfl w.heap.size 42 i0 _ 2 Try.underlying30 hi0 hi1 hi2 _ _ _ n rfl rfl rfl (by rw [hi3]; omega) (by unfold maxLen; omega) (Nat.le_refl _) ?_
       intro w0 hown0 hg0)
    | fail)
  clear hi0 hi1 hi2 hi3
  obtain ⟨g, hg⟩ : ∃ g, w.heap.size = g := ⟨_, rfl⟩
  have HB00 := Lib.hid ((Below.refl w.heap.size w).grown hg0 (Nat.le_refl _) (fun k hk => by cases hk))
  have HO00 : Hid (OwnP w w0 (some ⟨g, 0, none⟩) 0 n []) := Lib.hid ⟨[], by rw [← hg]; exact hown0, Owns.nil w w0⟩
  clear hown0 hg0
  rw [hg]
  have HG := Lib.hid hg
  clear hg
  go_loopw [5, 7, 13] (fun s5 s7 s13 wr => ∃ (k : Nat), k ≤ n ∧ s13 = .int .i64 (k : Int) ∧ s5 = .slice (some ⟨g, 0, none⟩) k n ∧ Hid (OwnP w wr (some ⟨g, 0, none⟩) k n (ps.take k)) ∧ Hid (Below w.heap.size w wr)) (fun _ _ s13 _ => n - (intOf s13).toNat)
  case atStart => exact ⟨0, Nat.zero_le _, rfl, rfl, Lib.hid (by simpa using HO00.out), HB00⟩
  case round =>
    obtain ⟨k, hk, rfl, rfl, HO, HB⟩ := hrel
    by_cases hlt : k < n
    · obtain ⟨b, o, p, A1, c1, A2, c2, rfl, hp, hcell1, hcell2, hrd1, hrd2⟩ := ((HR.out.below HB.out).fit).at hlt
      have hl1 : Lim 0 p.1.length := (HL.out p (List.mem_of_getElem? hp)).1
      have hl2 : Lim 0 p.2.length := (HL.out p (List.mem_of_getElem? hp)).2
      have b0 : Below wr.heap.size wr (wr.alloc (.cells #[.slice A1 p.1.length c1, .slice A2 p.2.length c2] 42)) := (Below.refl _ _).alloc (Nat.le_refl _) _
      have HC := Lib.hid (pairCopied_any (W := w) (c1 := c1) (c2 := c2) hl1 hl2 (hrd1.below b0) (hrd2.below b0) (HB.out.trans (b0.mono HB.out.size)))
      have HB0 := Lib.hid b0
      have HP := Lib.hid hp
      clear hrd1 hrd2 hp b0
      go_wp2_with (first
        | (go_at_call 84; refine HC.out.mono ?_; rintro e w1 ⟨A4, c4, A5, c5, rfl, ho1, ho2, hB2, hb2⟩; obtain ⟨vs, hv1, hv2⟩ := HO.out.below (HB0.out.trans (hb2.mono HB0.out.size)))
        | (at_builtin
           refine wpList_append_fits (W := w) cellP (.tmp 17) (.tmp 21) rfl (by rfl) rfl (ownsRow_below hv1 ((Below.refl _ _).alloc (Nat.le_refl _) _)) rfl (Rd.twoAt _ _ _ _ rfl) (by intro u hu; simp at hu; rcases hu with rfl | rfl <;> rfl) (by omega) (by omega) (hB2.alloc hB2.size _) ?_
           intro w3 hown3 hB3 hg3)
        | fail)
      go_roundw
      case rel =>
        refine ⟨k + 1, by omega, by go_num, rfl, Lib.hid ?_, Lib.hid hB3⟩
        have b1 : Below w1.heap.size w1 (w1.alloc (.cells #[.slice A4 p.1.length c4, .slice A5 p.2.length c5] 42)) := (Below.refl _ _).alloc (Nat.le_refl _) _
        refine ⟨vs ++ [.slice A4 p.1.length c4, .slice A5 p.2.length c5], hown3, ?_⟩
        rw [List.take_add_one, HP.out, flat_append]
        exact ((hv2.two ho1 ho2).below b1).grownP (ownsRow_below hv1 b1) hg3
      case measure => simp only [intOf]; omega
    · obtain rfl : k = n := by omega
      go_wp2_with fail
      go_ret
      have HO2 := HO.out
      rw [List.take_of_length_le (by omega)] at HO2
      subst hlen
      exact ⟨_, _, rfl, HO2, HB.out, HB.out⟩
theorem eachP_any {W w : World} {ps : List Pr} {A : Option Addr} {n c B : Nat} (hn : n ≤ 100000) (hL : LimP ps) (hr : RdP w B A n ps) (hB : Below W.heap.size W w) :
    Calls Try.prog 83 #[.slice A n c, .func (.func 84) #[] #[]] w (GotP W w ps) :=
  (eachP_raw ps A n c B hn hL w hr).mono fun e w' h => GotP.of hB h
end Go.Proofs.Ytcmjpjhaaookfaa
