/- ObjsCopy LastInsert -/
import Derived.Test.YtaknfmionkkdjaaGreatFO05
import Derived.Test.YtaknfmionkkdjaaGreatFO06
import Derived.Test.YtaknfmionkkdjaaGreatFO11
import Derived.Test.YtaknfmionkkdjaaGreatFO13
import Derived.Test.YtaknfmionkkdjaaGreatFO18
import Derived.Test.YtaknfmionkkdjaaGreatFO32
import Derived.Lib.Overlaps
namespace Go.Proofs.YtaknfmionkkdjaaGreat
open Go.RowKit
set_option linter.unusedVariables false
set_option maxHeartbeats 1000000 in
set_option maxRecDepth 100000 in
theorem eachQ_raw (qs : List (List Nat)) (A : Option Addr) (n c B : Nat) (hn : n ≤ 100000) (hL : LimL qs) (w : World) (hr : RdQ w B A n qs) :
    Calls Tryz.prog 86 #[.slice A n c, .func (.func 64) #[] #[]] w (GotQ w w qs) := by
  have HL := Lib.hid hL
  have HR := Lib.hid hr.fit
  have hlen := hr.length
  obtain ⟨i0, hi0, hi1, hi2, hi3⟩ := info_parts cellQ.info
  clear hr hL
  go_enter Tryz.func86, Tryz.ntmps86
  go_wp2_with (first
    | (at_make
       refine wpList_make_own w rfl _ _ 27 rfl w.heap.size 26 i0 _ 1 Tryz.underlying27 hi0 hi1 hi2 _ _ _ n rfl rfl rfl (by rw [hi3]; omega) (by unfold maxLen; omega) (Nat.le_refl _) ?_
       intro w0 hown0 hg0)
    | fail)
  go_loopw [5, 7, 13] (fun s5 _ s13 wr => ∃ (k c' : Nat) (A' : Option Addr), k ≤ n ∧ s13 = .int .i64 (k : Int) ∧ s5 = .slice A' k c' ∧ Hid (OwnQ w wr A' k c' (qs.take k)) ∧ Hid (Below w.heap.size w wr)) (fun _ _ s13 _ => n - (intOf s13).toNat)
  case atStart => exact ⟨0, _, _, Nat.zero_le _, rfl, rfl, Lib.hid ⟨[], hown0, by simpa using Owns.nil w w0⟩, Lib.hid ((Below.refl _ _).grown hg0 (Nat.le_refl _) (fun k hk => by cases hk))⟩
  case round =>
    obtain ⟨k, c', A', hk, rfl, rfl, HO, HB⟩ := hrel
    by_cases hlt : k < n
    · obtain ⟨b, o, l, A1, c1, rfl, hl, hcell, hrd⟩ := (HR.out.below HB.out).at hlt
      have hll : Lim 0 l.length := HL.out l (List.mem_of_getElem? hl)
      have HRD := Lib.hid hrd
      have HLL := Lib.hid hl
      clear hrd hl
      go_wp2_with (first
        | (go_at_call 64; refine (clone_any (W := w) hll HRD.out HB.out).mono ?_; rintro e w1 ⟨A2, c2, rfl, ho2, hB2, hb2⟩; obtain ⟨vs, hv1, hv2⟩ := HO.out.below hb2)
        | (at_builtin
           refine wpList_append_cells (W := w) cellQ (.tmp 17) (.tmp 21) rfl (by rfl) rfl (ownsRow_below hv1 ((Below.refl _ _).alloc (Nat.le_refl _) _)) rfl (Rd.oneV _ _ _) (by intro u hu; simp at hu; subst hu; rfl) (by omega) (by omega) (hB2.alloc hB2.size _) ?_
           intro A3 c3 w3 hown3 hB3 hg3)
        | fail)
      go_roundw
      case rel =>
        refine ⟨k + 1, c3, A3, by omega, by go_num, rfl, Lib.hid ?_, Lib.hid hB3⟩
        have b1 : Below w1.heap.size w1 (w1.alloc (.cells #[.slice A2 l.length c2] 26)) := (Below.refl _ _).alloc (Nat.le_refl _) _
        refine ⟨vs ++ [.slice A2 l.length c2], hown3, ?_⟩
        rw [List.take_add_one, HLL.out]
        exact ((hv2.snoc ho2).below b1).grown (ownsRow_below hv1 b1) hg3
      case measure => simp only [intOf]; omega
    · obtain rfl : k = n := by omega
      go_wp2_with fail
      go_ret
      have HO2 := HO.out
      rw [List.take_of_length_le (by omega)] at HO2
      subst hlen
      exact ⟨A', c', rfl, HO2, HB.out, HB.out⟩
theorem eachQ_any {W w : World} {qs : List (List Nat)} {A : Option Addr} {n c B : Nat} (hn : n ≤ 100000) (hL : LimL qs) (hr : RdQ w B A n qs) (hB : Below W.heap.size W w) :
    Calls Tryz.prog 86 #[.slice A n c, .func (.func 64) #[] #[]] w (GotQ W w qs) :=
  (eachQ_raw qs A n c B hn hL w hr).mono fun e w' h => GotQ.of hB h
/-- a pair of the call's own -/
def GotPair (W w : World) (p : Pr) (e : Ending) (w' : World) : Prop := ∃ A1 c1 A2 c2, e = .returned (.agg #[.slice A1 p.1.length c1, .slice A2 p.2.length c2]) ∧ OwnB W w' A1 p.1.length c1 p.1 ∧ OwnB W w' A2 p.2.length c2 p.2 ∧ Below W.heap.size W w' ∧ Below w.heap.size w w'
set_option maxHeartbeats 2000000 in
set_option maxRecDepth 100000 in
theorem pairCopied_raw (w : World) {A1 A2 : Option Addr} {c1 c2 B : Nat} {p : Pr} (hl1 : Lim 0 p.1.length) (hl2 : Lim 0 p.2.length) (h1 : Rd w B A1 p.1.length (bv p.1)) (h2 : Rd w B A2 p.2.length (bv p.2)) :
    Calls Tryz.prog 89 #[.agg #[.slice A1 p.1.length c1, .slice A2 p.2.length c2]] w (GotPair w w p) := by
  obtain ⟨g, hg⟩ : ∃ g, w.heap.size = g := ⟨_, rfl⟩
  obtain ⟨wz, hwz⟩ : ∃ wz, (w.alloc (.cells #[.slice A1 p.1.length c1, .slice A2 p.2.length c2] 55)).alloc (.cells #[.slice none 0 0, .slice none 0 0] 55) = wz := ⟨_, rfl⟩
  have hbz : Below w.heap.size w wz := by rw [← hwz]; exact ((Below.refl _ _).alloc (Nat.le_refl _) _).alloc (by simp) _
  have HR1 := Lib.hid (h1.fit.below hbz).fit
  have HR2 := Lib.hid (h2.fit.below hbz).fit
  have HBZ := Lib.hid hbz
  have HW := Lib.hid hwz
  have HG := Lib.hid hg
  have HV : Hid (Blk wz g 55 #[.slice A1 p.1.length c1, .slice A2 p.2.length c2] ∧ Blk wz (g + 1) 55 #[.slice none 0 0, .slice none 0 0]) := Lib.hid (by
    subst hg
    rw [← hwz]
    refine ⟨(Blk.new _ _ _).alloc _, ?_⟩
    have := Blk.new (w.alloc (.cells #[.slice A1 p.1.length c1, .slice A2 p.2.length c2] 55)) 55 #[.slice none 0 0, .slice none 0 0]
    rwa [World.size_alloc] at this)
  clear hbz h1 h2 hwz hg
  go_enter Tryz.func89, Tryz.ntmps89
  go_upto_region 1 with fail
  rw [HG.out]
  rw [HW.out]
  have m1 : (⟨g + 1, 0, none⟩ : Addr).block < wz.heap.size := HV.out.2.lt
  refine region_T (n := 7) (S := fun w' => Below wz.heap.size wz w') (by kernel_rfl) ?_
  have hS0 : Below wz.heap.size wz wz.drew := (Below.refl _ _).drew
  generalize wz.drew = w4 at hS0 ⊢
  have hS := Lib.hid hS0
  clear hS0 m1
  refine AnyT.take (i := 0) (v := .pointer (some ⟨g, 0, none⟩)) rfl (by kernel_rfl) (by kernel_rfl) (by kernel_rfl) (by kernel_rfl) (fun _ _ _ h => h) (Or.inl ⟨by kernel_rfl, fun w _ => by go_simp⟩) hS.out ?_
  refine AnyT.take (i := 3) (v := .pointer (some ⟨g, 1, none⟩)) rfl (by kernel_rfl) (by kernel_rfl) (by kernel_rfl) (by kernel_rfl) (fun _ _ _ h => h) (Or.inl ⟨by kernel_rfl, fun w _ => by go_simp⟩) hS.out ?_
  refine AnyT.take (i := 1) (v := .slice A1 p.1.length c1) rfl (by kernel_rfl) (by kernel_rfl) (by kernel_rfl) (by kernel_rfl) (fun _ _ _ h => h) (Or.inl ⟨by kernel_rfl, fun w h => by have q := (Below.cell h (p := ⟨g, 0, none⟩) HV.out.1.lt).trans (HV.out.1.cell 0); go_simp⟩) hS.out ?_
  refine AnyT.take (i := 4) (v := .slice A2 p.2.length c2) rfl (by kernel_rfl) (by kernel_rfl) (by kernel_rfl) (by kernel_rfl) (fun _ _ _ h => h) (Or.inl ⟨by kernel_rfl, fun w h => by have q := (Below.cell h (p := ⟨g, 1, none⟩) HV.out.1.lt).trans (HV.out.1.cell 1); go_simp⟩) hS.out ?_
  refine AnyT.ready (rs := [2]) (by kernel_rfl) (by simp) ?_
  refine AllT.cons rfl (fun K hK => ?_) AllT.nil
  go_simp
  refine (clone_any (W := wz) hl1 (HR1.out.below hS.out) hS.out).mono ?_
  rintro e w5 ⟨A5, c5, rfl, ho5, hB5, hb5⟩
  have hS := Lib.hid (hS.out.trans (hb5.mono hS.out.size))
  go_simp
  refine hK.out _ _ (Or.inr (hS.out)) (fun _ => ?_)
  clear hK K
  refine AnyT.ready (rs := [5]) (by kernel_rfl) (by simp) ?_
  refine AllT.cons rfl (fun K hK => ?_) AllT.nil
  go_simp
  refine (clone_any (W := wz) hl2 (HR2.out.below hS.out) hS.out).mono ?_
  rintro e w6 ⟨A6, c6, rfl, ho6, hB6, hb6⟩
  have hS := Lib.hid (hS.out.trans (hb6.mono hS.out.size))
  have ho5 := own_below ho5 hb6
  have HK := Lib.hid (HV.out.2.below hS.out)
  have f0 := HK.out.frozen 0
  have f1 := HK.out.frozen 1
  have x0 := HK.out.cell 0
  have x1 := HK.out.cell 1
  go_simp
  refine hK.out _ _ (Or.inr (hS.out)) (fun _ => ?_)
  clear hK K
  refine AnyT.take (i := 6) (v := .agg #[.slice A5 p.1.length c5, .slice A6 p.2.length c6]) rfl (by kernel_rfl) (by kernel_rfl) (by kernel_rfl) (by kernel_rfl) (fun _ _ _ h => h) (Or.inl ⟨by kernel_rfl, fun w _ => by go_simp⟩) hS.out ?_
  refine AnyT.ready (rs := [7]) (by kernel_rfl) (by simp) ?_
  refine AllT.cons rfl (fun K hK => ?_) AllT.nil
  go_simp
  refine hK.out _ _ (Or.inl rfl) (fun _ => ?_)
  clear hK K
  refine AnyT.done (by kernel_rfl) ?_ _
  go_wp2_with fail
  have k1 := (HK.out.set_ 0 (.slice A5 p.1.length c5)).set_ 1 (.slice A6 p.2.length c6)
  refine bodyPost_ret (results_cell_row rfl _ _ _ _ _ _ _ rfl k1 Tryz.underlying55 rfl (by kernel_rfl)) rfl ?_
  have hwb : w.heap.size ≤ g + 1 := by have := HG.out; omega
  have hw : Below w.heap.size w w6 := HBZ.out.trans (hS.out.mono HBZ.out.size)
  have h3 : Below w.heap.size w ((w6.setCell ⟨g + 1, 0, none⟩ (.slice A5 p.1.length c5)).setCell ⟨g + 1, 1, none⟩ (.slice A6 p.2.length c6)) := (hw.setCell (p := ⟨g + 1, 0, none⟩) hwb _).setCell (p := ⟨g + 1, 1, none⟩) hwb _
  exact ⟨A5, c5, A6, c6, rfl, more_ HBZ.out.size (own_set_t (own_set_t ho5 HK.out (by decide)) (HK.out.set_ 0 _) (by decide)), more_ HBZ.out.size (own_set_t (own_set_t ho6 HK.out (by decide)) (HK.out.set_ 0 _) (by decide)), h3, h3⟩
theorem pairCopied_any {W w : World} {A1 A2 : Option Addr} {c1 c2 B : Nat} {p : Pr} (hl1 : Lim 0 p.1.length) (hl2 : Lim 0 p.2.length) (h1 : Rd w B A1 p.1.length (bv p.1)) (h2 : Rd w B A2 p.2.length (bv p.2)) (hB : Below W.heap.size W w) :
    Calls Tryz.prog 89 #[.agg #[.slice A1 p.1.length c1, .slice A2 p.2.length c2]] w (GotPair W w p) :=
  (pairCopied_raw w hl1 hl2 h1 h2).mono fun e w' ⟨A1, c1, A2, c2, h1, h2, h3, h4, h5⟩ => ⟨A1, c1, A2, c2, h1, more_ hB.size h2, more_ hB.size h3, hB.trans (h4.mono hB.size), h5⟩
set_option maxHeartbeats 2000000 in
set_option maxRecDepth 100000 in
theorem eachP_raw (ps : List Pr) (A : Option Addr) (n c B : Nat) (hn : n ≤ 100000) (hL : LimP ps) (w : World) (hr : RdP w B A n ps) :
    Calls Tryz.prog 88 #[.slice A n c, .func (.func 89) #[] #[]] w (GotP w w ps) := by
  have HL := Lib.hid hL
  have HR := Lib.hid hr.fit
  have hlen := hr.length
  obtain ⟨i0, hi0, hi1, hi2, hi3⟩ := info_parts cellP.info
  clear hr hL
  go_enter Tryz.func88, Tryz.ntmps88
  go_wp2_with (first
    | (at_make
       refine wpList_make_own w rfl _ _ 28 rfl w.heap.size 55 i0 _ 2 Tryz.underlying28 hi0 hi1 hi2 _ _ _ n rfl rfl rfl (by rw [hi3]; omega) (by unfold maxLen; omega) (Nat.le_refl _) ?_
       intro w0 hown0 hg0)
    | fail)
  clear hi0 hi1 hi2 hi3
  obtain ⟨g, hg⟩ : ∃ g, w.heap.size = g := ⟨_, rfl⟩
  have HB00 := Lib.hid ((Below.refl w.heap.size w).grown hg0 (Nat.le_refl _) (fun k hk => by cases hk))
  have HO00 : Hid (OwnP w w0 (some ⟨g, 0, none⟩) 0 n []) := Lib.hid ⟨[], by rw [← hg]; exact hown0, Owns.nil w w0⟩
  clear hown0 hg0
  rw [hg]
  have HG := Lib.hid hg
  clear hg
  go_loopw [5, 7, 13] (fun s5 s7 s13 wr => ∃ (k : Nat), k ≤ n ∧ s13 = .int .i64 (k : Int) ∧ s5 = .slice (some ⟨g, 0, none⟩) k n ∧ Hid (OwnP w wr (some ⟨g, 0, none⟩) k n (ps.take k)) ∧ Hid (Below w.heap.size w wr)) (fun _ _ s13 _ => n - (intOf s13).toNat)
  case atStart => exact ⟨0, Nat.zero_le _, rfl, rfl, Lib.hid (by simpa using HO00.out), HB00⟩
  case round =>
    obtain ⟨k, hk, rfl, rfl, HO, HB⟩ := hrel
    by_cases hlt : k < n
    · obtain ⟨b, o, p, A1, c1, A2, c2, rfl, hp, hcell1, hcell2, hrd1, hrd2⟩ := ((HR.out.below HB.out).fit).at hlt
      have hl1 : Lim 0 p.1.length := (HL.out p (List.mem_of_getElem? hp)).1
      have hl2 : Lim 0 p.2.length := (HL.out p (List.mem_of_getElem? hp)).2
      have b0 : Below wr.heap.size wr (wr.alloc (.cells #[.slice A1 p.1.length c1, .slice A2 p.2.length c2] 55)) := (Below.refl _ _).alloc (Nat.le_refl _) _
      have HC := Lib.hid (pairCopied_any (W := w) (c1 := c1) (c2 := c2) hl1 hl2 (hrd1.below b0) (hrd2.below b0) (HB.out.trans (b0.mono HB.out.size)))
      have HB0 := Lib.hid b0
      have HP := Lib.hid hp
      clear hrd1 hrd2 hp b0
      go_wp2_with (first
        | (go_at_call 89; refine HC.out.mono ?_; rintro e w1 ⟨A4, c4, A5, c5, rfl, ho1, ho2, hB2, hb2⟩; obtain ⟨vs, hv1, hv2⟩ := HO.out.below (HB0.out.trans (hb2.mono HB0.out.size)))
        | (at_builtin
           refine wpList_append_fits (W := w) cellP (.tmp 17) (.tmp 21) rfl (by rfl) rfl (ownsRow_below hv1 ((Below.refl _ _).alloc (Nat.le_refl _) _)) rfl (Rd.twoAt _ _ _ _ rfl) (by intro u hu; simp at hu; rcases hu with rfl | rfl <;> rfl) (by omega) (by omega) (hB2.alloc hB2.size _) ?_
           intro w3 hown3 hB3 hg3)
        | fail)
      go_roundw
      case rel =>
        refine ⟨k + 1, by omega, by go_num, rfl, Lib.hid ?_, Lib.hid hB3⟩
        have b1 : Below w1.heap.size w1 (w1.alloc (.cells #[.slice A4 p.1.length c4, .slice A5 p.2.length c5] 55)) := (Below.refl _ _).alloc (Nat.le_refl _) _
        refine ⟨vs ++ [.slice A4 p.1.length c4, .slice A5 p.2.length c5], hown3, ?_⟩
        rw [List.take_add_one, HP.out, flat_append]
        exact ((hv2.two ho1 ho2).below b1).grownP (ownsRow_below hv1 b1) hg3
      case measure => simp only [intOf]; omega
    · obtain rfl : k = n := by omega
      go_wp2_with fail
      go_ret
      have HO2 := HO.out
      rw [List.take_of_length_le (by omega)] at HO2
      subst hlen
      exact ⟨_, _, rfl, HO2, HB.out, HB.out⟩
theorem eachP_any {W w : World} {ps : List Pr} {A : Option Addr} {n c B : Nat} (hn : n ≤ 100000) (hL : LimP ps) (hr : RdP w B A n ps) (hB : Below W.heap.size W w) :
    Calls Tryz.prog 88 #[.slice A n c, .func (.func 89) #[] #[]] w (GotP W w ps) :=
  (eachP_raw ps A n c B hn hL w hr).mono fun e w' h => GotP.of hB h
end Go.Proofs.YtaknfmionkkdjaaGreat

namespace Go.Proofs.YtaknfmionkkdjaaGreat
open Go.RowKit
set_option linter.unusedVariables false
section
variable {P : Program}
end
theorem own_drewL {w : World} {base n size : Nat} {e : TypeId} {v : Value} {vs : List Value} (h : w.ownsRow base e size v n vs) : w.drew.ownsRow base e size v n vs := ownsRow_below h (Below.refl _ _).drew
set_option maxHeartbeats 4000000 in
set_option maxRecDepth 100000 in
theorem insertL_any {W w : World} {g n c i vb c1 : Nat} {A1 : Option Addr} {ps : List Ls} {l : Ls} (hn : n ≤ 100000) (hin : i ≤ n) (hnc : n < c) (hgv : vb ≠ g)
    (h : OwnL W w (some ⟨g, 0, none⟩) n c ps) (hvb : Blk w vb 57 #[.int .i64 l.s, .int .i64 l.q, .int .i64 l.e, .slice A1 l.v.length c1, .int .i64 l.n]) (ho1 : OwnB W w A1 l.v.length c1 l.v) (hB : Below W.heap.size W w) :
    Calls Tryz.prog 109 #[.slice (some ⟨g, 0, none⟩) n c, .int .i64 (i : Int), .slice (some ⟨vb, 0, none⟩) 1 1] w fun e w' => e = .returned (.slice (some ⟨g, 0, none⟩) (n + 1) c) ∧ OwnL W w' (some ⟨g, 0, none⟩) (n + 1) c (ps.take i ++ l :: ps.drop i) ∧ Below W.heap.size W w' := by
  obtain rfl := h.length
  obtain ⟨vs, hrow, hown⟩ := h
  have hvl : vs.length = ps.length * 5 := hrow.1
  obtain ⟨cur, hbk, hcs, htk, _, hbase⟩ := own_cur hrow
  obtain ⟨t0, ht0, htz, hts, _⟩ := info_parts cellL.info
  have hcmax : c ≤ 9223372036854775807 := by have := (own_cap hrow).2; unfold maxLen at this; omega
  have hsl := fun (m j : Nat) (hj : j ≤ m) (w : World) => run_slice_fromS_ (P := Tryz.prog) Tryz.underlying31 ht0 hts (some ⟨g, 0, none⟩) m c j hj w
  have hcut : ∀ j, j < c → cutS (some ⟨g, 0, none⟩) c j 5 = some ⟨g, j * 5, none⟩ := fun j hj => by
    unfold cutS; rw [if_neg (by omega), Option.map_some, adr_add, Nat.zero_add]
  have hs1 := hsl ps.length i hin
  rw [hcut i (by omega)] at hs1
  have hz1 : ¬ (1 : Int) = 0 := by omega
  rcases Nat.lt_or_ge i ps.length with hlt | hge
  · have hne : ¬ ((i : Int) = (ps.length : Int)) := by omega
    have hs2 := hsl (ps.length + 1) (i + 1) (by omega)
    rw [hcut (i + 1) (by omega), show ps.length + 1 - (i + 1) = ps.length - i by omega] at hs2
    have hs3 := hsl (ps.length + 1) i (by omega)
    rw [hcut i (by omega)] at hs3
    have hs4 := run_slice_to (P := Tryz.prog) (t := 31) Tryz.underlying31 ht0 (some ⟨g, 0, none⟩) ps.length c (ps.length + 1) (by omega)
    rw [show (((i + 1 : Nat)) : Int) = (i : Int) + 1 by omega] at hs2
    rw [show (((ps.length + 1 : Nat)) : Int) = (ps.length : Int) + 1 by omega] at hs4
    have hw1 : IntKind.i64.wrap ((ps.length : Int) + 1) = (ps.length : Int) + 1 := IntWalk.i64_in _ (by omega)
    have hw2 : IntKind.i64.wrap ((i : Int) + 1) = (i : Int) + 1 := IntWalk.i64_in _ (by omega)
    have hroom : ¬ (c : Int) < (ps.length : Int) + 1 := by omega
    have hcur2 : cur.size = c * 5 := hcs
    have hdl : (vs.drop (i * 5)).length = (ps.length - i) * 5 := by rw [List.length_drop, hvl]; omega
    have hcp1 : ∀ ty dc sc, (Builtin.copy_ #[31, 31] ty #[.slice (some ⟨g, (i + 1) * 5, none⟩) (ps.length - i) dc, .slice (some ⟨g, i * 5, none⟩) (ps.length + 1 - i) sc]).run Tryz.prog w.drew = .ok (.int .i64 ((ps.length - i : Nat) : Int)) (w.drew.setRow g (cur.toList.take ((i + 1) * 5) ++ vs.drop (i * 5) ++ cur.toList.drop ((i + 1) * 5 + (vs.drop (i * 5)).length)).toArray) := fun ty dc sc =>
      run_copy_blk (P := Tryz.prog) w.drew _ _ ty 57 g ((i + 1) * 5) (ps.length - i) dc ⟨g, i * 5, none⟩ (ps.length + 1 - i) sc cur 57 (vs.drop (i * 5)) 5 (ps.length - i) Tryz.underlying31 (by rw [ht0]; simp [hts]) hbk (by simp only [Nat.min_def]; split <;> omega) hdl
        (fun j u hj => by
          rw [List.getElem?_drop] at hj
          rw [adr_add, ← hj]
          have hjl : i * 5 + j < vs.length := (List.getElem?_eq_some_iff.1 hj).1
          exact hrow.cellAt (i * 5 + j) (by omega)) (by rw [hdl]; omega) (fun u hu => hown.one u (List.mem_of_mem_drop hu))
    obtain ⟨cs1, hcs1⟩ : ∃ cs1, (cur.toList.take ((i + 1) * 5) ++ vs.drop (i * 5) ++ cur.toList.drop ((i + 1) * 5 + (vs.drop (i * 5)).length)) = cs1 := ⟨_, rfl⟩
    rw [hcs1] at hcp1
    have hcs1l : cs1.length = c * 5 := by rw [← hcs1]; simp [hdl]; omega
    obtain ⟨W1, hW1⟩ : ∃ W1, w.drew.setRow g cs1.toArray = W1 := ⟨_, rfl⟩
    rw [hW1] at hcp1
    have hbk1 : Blk W1 g 57 cs1.toArray := by rw [← hW1]; exact setRow_heap w.drew g cur _ _ _ hbk
    have hvb1 : Blk W1 vb 57 #[.int .i64 l.s, .int .i64 l.q, .int .i64 l.e, .slice A1 l.v.length c1, .int .i64 l.n] := by rw [← hW1]; exact (setRow_other w.drew g vb _ hgv).trans hvb
    have hcp2 : ∀ ty dc, (Builtin.copy_ #[31, 31] ty #[.slice (some ⟨g, i * 5, none⟩) (ps.length + 1 - i) dc, .slice (some ⟨vb, 0, none⟩) 1 1]).run Tryz.prog W1 = .ok (.int .i64 ((1 : Nat) : Int)) (W1.setRow g (cs1.toArray.toList.take (i * 5) ++ lastC A1 c1 l ++ cs1.toArray.toList.drop (i * 5 + 5)).toArray) := fun ty dc =>
      run_copy_blk (P := Tryz.prog) W1 _ _ ty 57 g (i * 5) (ps.length + 1 - i) dc ⟨vb, 0, none⟩ 1 1 cs1.toArray 57 (lastC A1 c1 l) 5 1 Tryz.underlying31 (by rw [ht0]; simp [hts]) hbk1 (by simp only [Nat.min_def]; split <;> omega) rfl
        (fun j u hj => by rw [adr_add, hvb1.cell, Nat.zero_add]; simpa [lastC] using hj) (by simp [lastC_length]; omega) (lastC_one A1 c1 l)
    obtain ⟨cs2, hcs2⟩ : ∃ cs2, (cs1.toArray.toList.take (i * 5) ++ lastC A1 c1 l ++ cs1.toArray.toList.drop (i * 5 + 5)) = cs2 := ⟨_, rfl⟩
    rw [hcs2] at hcp2
    obtain ⟨W2, hW2⟩ : ∃ W2, W1.setRow g cs2.toArray = W2 := ⟨_, rfl⟩
    rw [hW2] at hcp2
    have hov : ∀ lb cb, (callFunc 123 #[.slice (some ⟨vb, 0, none⟩) 1 1, .slice (some ⟨g, (i + 1) * 5, none⟩) lb cb]).run Tryz.prog w = .ok (.value (.bool false)) w := fun lb cb => by
      rw [run_callFunc_extern Tryz.func123 (by kernel_rfl) (by kernel_rfl) (by kernel_rfl) (e := Extern.SlicesOverlaps.overlaps #[31, 31] #[4]) (by kernel_rfl),
        Lib.run_overlaps_apart w 31 4 57 Tryz.underlying31 5 (fun w => by simp [sizeOf, typeInfo, ht0, hts]) ⟨vb, 0, none⟩ ⟨g, (i + 1) * 5, none⟩ 1 1 lb cb hgv 57 57 5 cur.size
          (by unfold Blk at hvb; simp [World.shape?, hvb]) (by unfold Blk at hbk; simp [World.shape?, hbk]) (by omega) (hvb.frozen 0) (hvb.frozen 5)]
      rfl
    have HFIN : Hid (OwnL W W2 (some ⟨g, 0, none⟩) (ps.length + 1) c (ps.take i ++ l :: ps.drop i) ∧ Below W.heap.size W W2) := Lib.hid (by
      have hW : W2 = w.drew.setRow g cs2.toArray := by rw [← hW2, ← hW1, setRow_setRow]
      have hc2l : cs2.length = c * 5 := by rw [← hcs2]; simp [lastC_length]; omega
      have htk2 : cs2.take ((ps.length + 1) * 5) = vs.take (i * 5) ++ lastC A1 c1 l ++ vs.drop (i * 5) := by
        have hxl : (cur.toList.take ((i + 1) * 5)).length = (i + 1) * 5 := by simp; omega
        have e1 : cs1.take (i * 5) = vs.take (i * 5) := by
          rw [← hcs1, List.append_assoc, List.take_append_of_le_length (by omega), List.take_take, Nat.min_eq_left (by omega), ← htk, List.take_take, Nat.min_eq_left (by omega)]
        have e2 : cs1.drop (i * 5 + 5) = vs.drop (i * 5) ++ cur.toList.drop ((i + 1) * 5 + (vs.drop (i * 5)).length) := by
          rw [← hcs1, List.append_assoc, show i * 5 + 5 = (i + 1) * 5 by omega, List.drop_append_of_le_length (by omega), List.drop_of_length_le (by omega)]; rfl
        rw [← hcs2]
        rw [e1, e2, ← List.append_assoc, List.take_append_of_le_length (by simp [lastC_length]; omega), List.take_of_length_le (by simp [lastC_length]; omega)]
      obtain ⟨r1, r2⟩ := own_written (w := w.drew) (own_drewL hrow) (n' := ps.length + 1) (vs' := vs.take (i * 5) ++ lastC A1 c1 l ++ vs.drop (i * 5)) cs2.toArray (by simpa using hc2l) (by omega) (by simp [hvl, lastC_length]; omega) (by simpa using htk2)
      rw [← hW] at r1 r2
      refine ⟨⟨_, r1, ?_⟩, hB.drew.grown r2 hB.size (fun k hk => by injection hk with hk; omega)⟩
      have hd : Below w.heap.size w w.drew := (Below.refl _ _).drew
      have hmid : OwnsL W w.drew (lastC A1 c1 l) [l] := CellsL.one5 (R := fun A c l => OwnB W w.drew A l.length c l) (own_below ho1 hd)
      have h9 := OwnsL.grown (CellsL.append (CellsL.append (OwnsL.below (CellsL.take hown i) hd) hmid) (OwnsL.below (CellsL.drop hown i) hd)) (by decide) (own_drewL hrow) r2
      rw [List.append_assoc (ps.take i), List.singleton_append] at h9
      exact h9)
    clear hbk hcs htk ht0 htz hts hsl hcut hrow hown hvb ho1 hB hdl hcs1 hcs1l hW1 hbk1 hvb1 hcs2 hW2 hcur2 hvl hbase
    go_enter Tryz.func109, Tryz.ntmps109
    go_wp2_with (simp only [hov])
    go_region_law (refine step_copy_knownL rfl _ _ 31 31 rfl _ _ (by simp [Act.eval, Act.put]) (by simp [Act.eval, Act.put]) (hcp1 _ _ _) ?_)
    go_wp2_with (at_builtin; refine wpList_copy_knownL _ rfl _ _ 31 31 rfl _ _ rfl rfl (hcp2 _ _) ?_)
    go_ret
    exact ⟨rfl, HFIN.out⟩
  · obtain rfl : i = ps.length := by omega
    have HROW := Lib.hid hrow
    have HOWN := Lib.hid hown
    have HVB := Lib.hid hvb
    have HO1 := Lib.hid ho1
    have HBW := Lib.hid hB
    have HSRC : Hid (Rd w w.heap.size (some ⟨vb, 0, none⟩) (1 * 5) (lastC A1 c1 l)) := Lib.hid ⟨rfl, fun _ => ⟨vb, 0, rfl, hvb.lt, fun j hj => by rw [Nat.zero_add, hvb.cell]; simp [lastC]⟩⟩
    clear hbk hcs htk ht0 htz hts hsl hcut hrow hown hvb ho1 hB hvl hbase
    go_enter Tryz.func109, Tryz.ntmps109
    go_wp2_with (first
      | (at_builtin
         refine wpList_append_fits (W := W) cellL (.tmp 23) (.tmp 24) rfl (by rfl) rfl HROW.out rfl HSRC.out (lastC_one A1 c1 l) (by omega) (by omega) HBW.out ?_
         intro w2 hown2 hB2 hg2)
      | fail)
    go_ret
    refine ⟨rfl, ⟨_, hown2, ?_⟩, hB2⟩
    rw [List.take_length, List.drop_length]
    exact OwnsL.grown (OwnsL.snoc HOWN.out HO1.out) (by decide) HROW.out hg2
end Go.Proofs.YtaknfmionkkdjaaGreat

