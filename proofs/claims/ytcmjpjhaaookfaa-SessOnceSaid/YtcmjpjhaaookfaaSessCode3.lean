/- The code's sweep: the calls of the others, in a row of the call's own with room for one more. -/
import Derived.Test.YtcmjpjhaaookfaaSessCode1
import Derived.Test.YtcmjpjhaaookfaaLastInsert
import Derived.Test.YtcmjpjhaaookfaaRegionT
namespace Go.Proofs.Ytcmjpjhaaookfaa
open Go.RowKit
set_option linter.unusedVariables false
theorem five_frozen5 {w : World} {b : Nat} {t : TypeId} {x y z u v : Value} (h : Blk w b t #[x, y, z, u, v]) :
    w.frozen? ⟨b, 0, none⟩ = false ∧ w.frozen? ⟨b, 1, none⟩ = false ∧ w.frozen? ⟨b, 2, none⟩ = false ∧ w.frozen? ⟨b, 3, none⟩ = false ∧ w.frozen? ⟨b, 4, none⟩ = false :=
  ⟨h.frozen 0, h.frozen 1, h.frozen 2, h.frozen 3, h.frozen 4⟩
set_option maxHeartbeats 2000000 in
set_option maxRecDepth 100000 in
theorem lastA_raw (w : World) {A : Option Addr} {c B : Nat} (l : Ls) (hn : Lim 0 l.v.length) (h : Rd w B A l.v.length (bv l.v)) :
    Calls Try.prog 94 #[.agg #[.int .i64 l.s, .int .i64 l.q, .int .i64 l.e, .slice A l.v.length c, .int .i64 l.n]] w fun e w' => ∃ A' c', e = .returned (.agg #[.int .i64 l.s, .int .i64 l.q, .int .i64 l.e, .slice A' l.v.length c', .int .i64 l.n]) ∧ OwnB w w' A' l.v.length c' l.v ∧ Below w.heap.size w w' := by
  obtain ⟨g, hg⟩ : ∃ g, w.heap.size = g := ⟨_, rfl⟩
  obtain ⟨wz, hwz⟩ : ∃ wz, (w.alloc (.cells #[.int .i64 l.s, .int .i64 l.q, .int .i64 l.e, .slice A l.v.length c, .int .i64 l.n] 57)).alloc (.cells #[.int .i64 0, .int .i64 0, .int .i64 0, .slice none 0 0, .int .i64 0] 57) = wz := ⟨_, rfl⟩
  have hbz : Below w.heap.size w wz := by rw [← hwz]; exact ((Below.refl _ _).alloc (Nat.le_refl _) _).alloc (by simp) _
  have HR := Lib.hid (h.fit.below hbz).fit
  have HBZ := Lib.hid hbz
  have HW := Lib.hid hwz
  have HG := Lib.hid hg
  have HV : Hid (Blk wz g 57 #[.int .i64 l.s, .int .i64 l.q, .int .i64 l.e, .slice A l.v.length c, .int .i64 l.n] ∧ Blk wz (g + 1) 57 #[.int .i64 0, .int .i64 0, .int .i64 0, .slice none 0 0, .int .i64 0]) := Lib.hid (by
    subst hg
    rw [← hwz]
    refine ⟨(Blk.new _ _ _).alloc _, ?_⟩
    have := Blk.new (w.alloc (.cells #[.int .i64 l.s, .int .i64 l.q, .int .i64 l.e, .slice A l.v.length c, .int .i64 l.n] 57)) 57 #[.int .i64 0, .int .i64 0, .int .i64 0, .slice none 0 0, .int .i64 0]
    rwa [World.size_alloc] at this)
  clear hbz h hwz hg
  go_enter Try.func94, Try.ntmps94
  go_upto_region 1 with fail
  rw [HG.out]
  rw [HW.out]
  refine region_T (n := 8) (S := fun w' => Below wz.heap.size wz w') (by kernel_rfl) ?_
  have hS0 : Below wz.heap.size wz wz.drew := (Below.refl _ _).drew
  generalize wz.drew = w4 at hS0 ⊢
  have hS := Lib.hid hS0
  clear hS0
  refine AnyT.take (i := 0) (v := .pointer (some ⟨g, 0, none⟩)) rfl (by kernel_rfl) (by kernel_rfl) (by kernel_rfl) (by kernel_rfl) (fun _ _ _ h => h) (Or.inl ⟨by kernel_rfl, fun w _ => by go_simp⟩) hS.out ?_
  refine AnyT.take (i := 2) (v := .pointer (some ⟨g, 1, none⟩)) rfl (by kernel_rfl) (by kernel_rfl) (by kernel_rfl) (by kernel_rfl) (fun _ _ _ h => h) (Or.inl ⟨by kernel_rfl, fun w _ => by go_simp⟩) hS.out ?_
  refine AnyT.take (i := 4) (v := .pointer (some ⟨g, 2, none⟩)) rfl (by kernel_rfl) (by kernel_rfl) (by kernel_rfl) (by kernel_rfl) (fun _ _ _ h => h) (Or.inl ⟨by kernel_rfl, fun w _ => by go_simp⟩) hS.out ?_
  refine AnyT.take (i := 1) (v := .int .i64 l.s) rfl (by kernel_rfl) (by kernel_rfl) (by kernel_rfl) (by kernel_rfl) (fun _ _ _ h => h) (Or.inl ⟨by kernel_rfl, fun w h => by have q := (Below.cell h (p := ⟨g, 0, none⟩) HV.out.1.lt).trans (HV.out.1.cell 0); go_simp⟩) hS.out ?_
  refine AnyT.take (i := 3) (v := .int .i64 l.q) rfl (by kernel_rfl) (by kernel_rfl) (by kernel_rfl) (by kernel_rfl) (fun _ _ _ h => h) (Or.inl ⟨by kernel_rfl, fun w h => by have q := (Below.cell h (p := ⟨g, 1, none⟩) HV.out.1.lt).trans (HV.out.1.cell 1); go_simp⟩) hS.out ?_
  refine AnyT.take (i := 5) (v := .agg #[.int .i64 l.e, .slice A l.v.length c, .int .i64 l.n]) rfl (by kernel_rfl) (by kernel_rfl) (by kernel_rfl) (by kernel_rfl) (fun _ _ _ h => h) (Or.inl ⟨by kernel_rfl, fun w h => by
    have q2 := (Below.cell h (p := ⟨g, 2, none⟩) HV.out.1.lt).trans (HV.out.1.cell 2)
    have q3 := (Below.cell h (p := ⟨g, 3, none⟩) HV.out.1.lt).trans (HV.out.1.cell 3)
    have q4 := (Below.cell h (p := ⟨g, 4, none⟩) HV.out.1.lt).trans (HV.out.1.cell 4)
    go_simp⟩) hS.out ?_
  refine AnyT.ready (rs := [6]) (by kernel_rfl) (by simp) ?_
  refine AllT.cons rfl (fun K hK => ?_) AllT.nil
  go_simp
  refine (copied9_any (W := wz) l.e l.n hn (HR.out.below hS.out) hS.out).mono ?_
  rintro e w5 ⟨A5, c5, rfl, ho5, hB5, hb5⟩
  have hS := Lib.hid (hS.out.trans (hb5.mono hS.out.size))
  unfold resV
  go_simp
  refine hK.out _ _ (Or.inr (hS.out)) (fun _ => ?_)
  clear hK K
  have HK := Lib.hid (HV.out.2.below hS.out)
  obtain ⟨f0, f1, f2, f3, f4⟩ := five_frozen5 HK.out
  obtain ⟨x0, x1, x2, x3, x4⟩ := five5 HK.out
  refine AnyT.take (i := 7) (v := .agg #[.int .i64 l.s, .int .i64 l.q, .int .i64 l.e, .slice A5 l.v.length c5, .int .i64 l.n]) rfl (by kernel_rfl) (by kernel_rfl) (by kernel_rfl) (by kernel_rfl) (fun _ _ _ h => h) (Or.inl ⟨by kernel_rfl, fun w _ => by go_simp⟩) hS.out ?_
  refine AnyT.ready (rs := [8]) (by kernel_rfl) (by simp) ?_
  refine AllT.cons rfl (fun K hK => ?_) AllT.nil
  go_simp
  refine hK.out _ _ (Or.inl rfl) (fun _ => ?_)
  clear hK K
  refine AnyT.done (by kernel_rfl) ?_ _
  go_wp2_with fail
  have k0 := HK.out
  have k1 := k0.set_ 0 (.int .i64 l.s)
  have k2 := k1.set_ 1 (.int .i64 l.q)
  have k3 := k2.set_ 2 (.int .i64 l.e)
  have k4 := k3.set_ 3 (.slice A5 l.v.length c5)
  have k5 := k4.set_ 4 (.int .i64 l.n)
  refine bodyPost_ret (results_cell_row rfl _ _ _ _ _ _ _ rfl k5 Try.underlying57 rfl (by kernel_rfl)) rfl ?_
  have hwb : w.heap.size ≤ g + 1 := by have := HG.out; omega
  have hw : Below w.heap.size w w5 := HBZ.out.trans (hS.out.mono HBZ.out.size)
  exact ⟨A5, c5, rfl, own_moreL HBZ.out.size (own_set_t (own_set_t (own_set_t (own_set_t (own_set_t ho5 k0 (by decide)) k1 (by decide)) k2 (by decide)) k3 (by decide)) k4 (by decide)), ((((hw.setCell (p := ⟨g + 1, 0, none⟩) hwb _).setCell (p := ⟨g + 1, 1, none⟩) hwb _).setCell (p := ⟨g + 1, 2, none⟩) hwb _).setCell (p := ⟨g + 1, 3, none⟩) hwb _).setCell (p := ⟨g + 1, 4, none⟩) hwb _⟩
theorem lastA_any {W w : World} {A : Option Addr} {c B : Nat} (l : Ls) (hn : Lim 0 l.v.length) (h : Rd w B A l.v.length (bv l.v)) (hB : Below W.heap.size W w) :
    Calls Try.prog 94 #[.agg #[.int .i64 l.s, .int .i64 l.q, .int .i64 l.e, .slice A l.v.length c, .int .i64 l.n]] w fun e w' => ∃ A' c', e = .returned (.agg #[.int .i64 l.s, .int .i64 l.q, .int .i64 l.e, .slice A' l.v.length c', .int .i64 l.n]) ∧ OwnB W w' A' l.v.length c' l.v ∧ Below W.heap.size W w' ∧ Below w.heap.size w w' :=
  (lastA_raw w l hn h).mono fun en w' ⟨A', c', h1, h2, h3⟩ => ⟨A', c', h1, own_moreL hB.size h2, hB.trans (h3.mono hB.size), h3⟩
set_option maxHeartbeats 2000000 in
set_option maxRecDepth 100000 in
theorem without9_raw (ls : List Ls) (A : Option Addr) (n c B : Nat) (s : Int) (hn : n ≤ 100000) (hL : LimLs ls) (w : World) (hr : RdL w B A n ls) :
    Calls Try.prog 73 #[.slice A n c, .int .i64 s] w fun e w' => ∃ g, e = .returned (.slice (some ⟨g, 0, none⟩) (Tb.less ls s).length (ls.length + 1)) ∧ OwnL w w' (some ⟨g, 0, none⟩) (Tb.less ls s).length (ls.length + 1) (Tb.less ls s) ∧ Below w.heap.size w w' := by
  obtain rfl := hr.length
  have HL := Lib.hid hL
  have HR := Lib.hid hr.fit
  obtain ⟨i0, hi0, hi1, hi2, hi3⟩ := info_parts cellL.info
  clear hr hL
  go_enter Try.func73, Try.ntmps73
  go_wp2_with (first
    | (at_make
       refine wpList_make_own w rfl _ _ 52 rfl w.heap.size 57 i0 _ 5 Try.underlying52 hi0 hi1 hi2 _ _ _ (ls.length + 1) rfl rfl (by push_cast; rfl) (by rw [hi3]; omega) (by unfold maxLen; omega) (Nat.le_refl _) ?_
       intro w0 hown0 hg0)
    | fail)
  clear hi0 hi1 hi2 hi3
  obtain ⟨g, hg⟩ : ∃ g, w.heap.size = g := ⟨_, rfl⟩
  have HB00 := Lib.hid ((Below.refl w.heap.size w).grown hg0 (Nat.le_refl _) (fun k hk => by cases hk))
  have HO00 : Hid (OwnL w w0 (some ⟨g, 0, none⟩) 0 (ls.length + 1) []) := Lib.hid ⟨[], by rw [← hg]; exact hown0, CellsL.nil⟩
  clear hown0 hg0
  rw [hg]
  have HG := Lib.hid hg
  clear hg
  go_loopw [5, 7, 14] (fun s5 s7 s14 wr => ∃ (k m : Nat), k ≤ ls.length ∧ m ≤ k ∧ s14 = .int .i64 (k : Int) ∧ s5 = .slice (some ⟨g, 0, none⟩) m (ls.length + 1) ∧ Hid (OwnL w wr (some ⟨g, 0, none⟩) m (ls.length + 1) (Tb.less (ls.take k) s)) ∧ Hid (Below w.heap.size w wr)) (fun _ _ s14 _ => ls.length - (intOf s14).toNat)
  case atStart => exact ⟨0, 0, Nat.zero_le _, Nat.zero_le _, rfl, rfl, Lib.hid HO00.out, HB00⟩
  case round =>
    obtain ⟨k, m, hk, hm, rfl, rfl, HO, HB⟩ := hrel
    by_cases hlt : k < ls.length
    · obtain ⟨b, o, l, A1, c1, rfl, hl, y0, y1, y2, y3, y4, hrd⟩ := ((HR.out.below HB.out).fit).at hlt
      have hl1 : Lim 0 l.v.length := HL.out l (List.mem_of_getElem? hl)
      have HRD := Lib.hid hrd
      have HP := Lib.hid hl
      clear hrd hl
      have hb0 : Below wr.heap.size wr (wr.alloc (.cells #[.int .i64 l.s, .int .i64 l.q, .int .i64 l.e, .slice A1 l.v.length c1, .int .i64 l.n] 57)) := (Below.refl _ _).alloc (Nat.le_refl _) _
      by_cases hs : l.s = s
      · have hsb : (l.s != s) = false := by simpa using hs
        have HT := Lib.hid (Tb.less_take (s := s) HP.out)
        have HS := Lib.hid hs
        have HB0 := Lib.hid hb0
        clear hb0 hs
        go_wp2_with fail
        go_roundw
        case rel =>
          refine ⟨k + 1, m, by omega, by omega, by go_num, rfl, Lib.hid ?_, Lib.hid (HB.out.trans (HB0.out.mono HB.out.size))⟩
          rw [HT.out, if_pos HS.out]
          exact HO.out.below HB0.out
        case measure => simp only [intOf]; omega
      · have hsb : (l.s != s) = true := by simpa using hs
        have HT := Lib.hid (Tb.less_take (s := s) HP.out)
        have HS := Lib.hid hs
        clear hs
        have HB0 := Lib.hid hb0
        have HC := Lib.hid (lastA_any (W := w) (c := c1) l hl1 (HRD.out.below hb0) (HB.out.trans (hb0.mono HB.out.size)))
        clear hb0
        go_wp2_with (first
          | (go_at_call 94; refine HC.out.mono ?_; rintro e w1 ⟨A4, c4, rfl, ho1, hB1, hb1⟩; obtain ⟨vs, hv1, hv2⟩ := HO.out.below (HB0.out.trans (hb1.mono HB0.out.size)))
          | (at_builtin
             refine wpList_append_fits (W := w) cellL (.tmp 22) (.tmp 25) rfl (by rfl) rfl (ownsRow_below hv1 ((Below.refl _ _).alloc (Nat.le_refl _) _)) rfl (Rd.lastAt _ A4 c4 l _ rfl) (lastC_one _ _ _) (by omega) (by omega) (hB1.alloc hB1.size _) ?_
             intro w3 hown3 hB3 hg3)
          | fail)
        go_roundw
        case rel =>
          refine ⟨k + 1, m + 1, by omega, by omega, by go_num, rfl, Lib.hid ?_, Lib.hid hB3⟩
          have b1 : Below w1.heap.size w1 (w1.alloc (.cells #[.int .i64 l.s, .int .i64 l.q, .int .i64 l.e, .slice A4 l.v.length c4, .int .i64 l.n] 57)) := (Below.refl _ _).alloc (Nat.le_refl _) _
          refine ⟨vs ++ lastC A4 c4 l, hown3, ?_⟩
          rw [HT.out, if_neg HS.out]
          exact ((hv2.snoc ho1).below b1).grown (by decide) (ownsRow_below hv1 b1) hg3
        case measure => simp only [intOf]; omega
    · obtain rfl : k = ls.length := by omega
      go_wp2_with fail
      go_ret
      have HO2 := HO.out
      rw [List.take_of_length_le (Nat.le_refl _)] at HO2
      obtain rfl := HO2.length
      exact ⟨g, rfl, HO2, HB.out⟩
theorem without9_any {W w : World} {ls : List Ls} {A : Option Addr} {n c B : Nat} (s : Int) (hn : n ≤ 100000) (hL : LimLs ls) (hr : RdL w B A n ls) (hB : Below W.heap.size W w) :
    Calls Try.prog 73 #[.slice A n c, .int .i64 s] w fun e w' => ∃ g, e = .returned (.slice (some ⟨g, 0, none⟩) (Tb.less ls s).length (ls.length + 1)) ∧ OwnL W w' (some ⟨g, 0, none⟩) (Tb.less ls s).length (ls.length + 1) (Tb.less ls s) ∧ Below W.heap.size W w' ∧ Below w.heap.size w w' :=
  (without9_raw ls A n c B s hn hL w hr).mono fun e w' ⟨g, h1, h2, h3⟩ => ⟨g, h1, h2.of hB.size, hB.trans (h3.mono hB.size), h3⟩
end Go.Proofs.Ytcmjpjhaaookfaa
