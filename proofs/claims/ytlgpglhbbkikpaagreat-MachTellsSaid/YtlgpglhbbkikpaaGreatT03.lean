/- SessRef3 SessC00 PackMath MachMath MachKit MachBytes MachBytes2 MapsRef MapsRef2 MapsRef3 -/
import Derived.Test.YtlgpglhbbkikpaaGreatT00
import Derived.Test.YtlgpglhbbkikpaaGreatT01
import Derived.Test.YtlgpglhbbkikpaaGreatT02
import Derived.BigQuiet
import Derived.Deep.QuietTactic
import Derived.Deep.RegionLaw
import Derived.Deep.RegionWith
namespace Go.Proofs.YtlgpglhbbkikpaaGreat
open Go.RowKit
set_option linter.unusedVariables false
theorem own_emptyL {W w : World} (hB : Below W.heap.size W w) (t : TypeId) : (w.alloc (.cells #[] t)).ownsRow W.heap.size t 5 (.slice (some ⟨w.heap.size, 0, none⟩) 0 0) 0 [] :=
 World.ownsRow_made w #[] 0 hB.size (by decide) rfl
theorem ownL_at {W w : World} (hB : Below W.heap.size W w) (t : TypeId) {g : Nat} (hg : w.heap.size = g) : (w.alloc (.cells #[] t)).ownsRow W.heap.size t 5 (.slice (some ⟨g, 0, none⟩) 0 0) 0 [] := by
 subst hg; exact own_emptyL hB t
theorem OwnL.store {W w : World} {g n c i : Nat} {ls : List Ls} {l : Ls} {A' : Option Addr} {c' : Nat} (h : OwnL W w (some ⟨g, 0, none⟩) n c ls) (hi : i < n) (ho : OwnB W w A' l.v.length c' l.v) :
 OwnL W (((((w.setCell ⟨g, i * 5, none⟩ (.int .i64 l.s)).setCell ⟨g, i * 5 + 1, none⟩ (.int .i64 l.q)).setCell ⟨g, i * 5 + 2, none⟩ (.int .i64 l.e)).setCell ⟨g, i * 5 + 3, none⟩ (.slice A' l.v.length c')).setCell ⟨g, i * 5 + 4, none⟩ (.int .i64 l.n)) (some ⟨g, 0, none⟩) n c (ls.set i l) := by
 obtain ⟨vs, h1, h2⟩ := h
 have hlen : vs.length = n * 5 := h1.1
 obtain ⟨cur, hbk⟩ : ∃ cur, Blk w g 71 cur := by
  rcases own_blk h1 with ⟨q1, _⟩ | ⟨g', cur, q1, _, q2⟩
  · cases q1
  · injection q1 with q1; injection q1 with q1; subst q1; exact ⟨cur, q2⟩
 have k1 := hbk.set_ (i * 5) (.int .i64 l.s)
 have k2 := k1.set_ (i * 5 + 1) (.int .i64 l.q)
 have k3 := k2.set_ (i * 5 + 2) (.int .i64 l.e)
 have k4 := k3.set_ (i * 5 + 3) (.slice A' l.v.length c')
 have r := ((((h1.stored (i * 5) (.int .i64 l.s)).1.stored (i * 5 + 1) (.int .i64 l.q)).1.stored (i * 5 + 2) (.int .i64 l.e)).1.stored (i * 5 + 3) (.slice A' l.v.length c')).1.stored (i * 5 + 4) (.int .i64 l.n)
 have hne : 5 ≠ 71 := by decide
 refine ⟨_, r.1, CellsL.set (vs := vs) (A := A') (c := c') (((((h2.set_t hbk hne).set_t k1 hne).set_t k2 hne).set_t k3 hne).set_t k4 hne) i (own_set_t (own_set_t (own_set_t (own_set_t (own_set_t ho hbk hne) k1 hne) k2 hne) k3 hne) k4 hne) (by simp) (fun j v hv => ?_) (fun k hk => ?_)⟩
 · have hj : j < 5 := by
    rcases Nat.lt_or_ge j 5 with h' | h'
    · exact h'
    · rw [List.getElem?_eq_none (by rw [lastC_length]; exact h')] at hv; cases hv
   have hb : i * 5 + j < vs.length := by omega
   match j, hj with
   | 0, _ => rw [<- hv]; simp [List.getElem?_set, lastC]; omega
   | 1, _ => rw [<- hv]; simp [List.getElem?_set, lastC]; omega
   | 2, _ => rw [<- hv]; simp [List.getElem?_set, lastC]; omega
   | 3, _ => rw [<- hv]; simp [List.getElem?_set, lastC]; omega
   | 4, _ => rw [<- hv]; simp [List.getElem?_set, lastC]; omega
 · rw [List.getElem?_set_ne (by omega), List.getElem?_set_ne (by omega), List.getElem?_set_ne (by omega), List.getElem?_set_ne (by omega), List.getElem?_set_ne (by omega)]
theorem five5 {w : World} {b : Nat} {t : TypeId} {x y z u v : Value} (h : Blk w b t #[x, y, z, u, v]) :
 w.cell? ⟨b, 0, none⟩ = some x /\ w.cell? ⟨b, 1, none⟩ = some y /\ w.cell? ⟨b, 2, none⟩ = some z /\ w.cell? ⟨b, 3, none⟩ = some u /\ w.cell? ⟨b, 4, none⟩ = some v :=
 ⟨h.cell 0, h.cell 1, h.cell 2, h.cell 3, h.cell 4⟩
theorem OwnL.at {W w : World} {A : Option Addr} {n c k : Nat} {ls : List Ls} (h : OwnL W w A n c ls) (hk : k < n) : ∃ g l A2 c2, A = some ⟨g, 0, none⟩ /\ ls[k]? = some l /\ W.heap.size <= g /\ g < w.heap.size ∧
 w.cell? ⟨g, k * 5, none⟩ = some (.int .i64 l.s) /\ w.cell? ⟨g, k * 5 + 1, none⟩ = some (.int .i64 l.q) /\ w.cell? ⟨g, k * 5 + 2, none⟩ = some (.int .i64 l.e) ∧
 w.cell? ⟨g, k * 5 + 3, none⟩ = some (.slice A2 l.v.length c2) /\ w.cell? ⟨g, k * 5 + 4, none⟩ = some (.int .i64 l.n) /\ (∀ j, w.frozen? ⟨g, j, none⟩ = false) /\ OwnB W w A2 l.v.length c2 l.v := by
 have hlen := h.length
 obtain ⟨vs, h1, h2⟩ := h
 obtain ⟨g, rfl, hg1, hg2⟩ := own_addrS h1 (by omega)
 obtain ⟨l, hl⟩ : ∃ l, ls[k]? = some l := ⟨_, List.getElem?_eq_getElem (by omega)⟩
 obtain ⟨A2, c2, e, ho⟩ := h2.cell k l hl
 have hh : ∀ j v, (lastC A2 c2 l)[j]? = some v -> w.cell? ⟨g, k * 5 + j, none⟩ = some v := fun j v hv => by
  have hj : j < 5 := by
   rcases Nat.lt_or_ge j 5 with h' | h'
   · exact h'
   · rw [List.getElem?_eq_none (by rw [lastC_length]; exact h')] at hv; cases hv
  exact (h1.cellAt (k * 5 + j) (by omega)).trans (e j v hv)
 exact ⟨g, l, A2, c2, rfl, hl, hg1, hg2, hh 0 _ rfl, hh 1 _ rfl, hh 2 _ rfl, hh 3 _ rfl, hh 4 _ rfl, own_frozenS h1, ho⟩
theorem Blk.rd {w : World} {g : Nat} {t : TypeId} {cs : Array Value} (h : Blk w g t cs) : Rd w w.heap.size (some ⟨g, 0, none⟩) cs.size cs.toList :=
 ⟨by simp, fun _ => ⟨g, 0, rfl, h.lt, fun i hi => by rw [Nat.zero_add, h.cell i]; simp⟩⟩
theorem lastKept {wx wy : World} {g : Nat} {row : Option Nat} {t : TypeId} {A : Option Addr} {c : Nat} {l : Ls} (h : Blk wx g t #[.int .i64 l.s, .int .i64 l.q, .int .i64 l.e, .slice A l.v.length c, .int .i64 l.n]) (hg : wx.grownBy wy row) (hne : some g ≠ row) :
 Rd wy wy.heap.size (some ⟨g, 0, none⟩) (1 * 5) (lastC A c l) := (h.grown hg hne).rd
theorem Blk.newAt (w : World) (t : TypeId) (cs : Array Value) {g : Nat} (hg : w.heap.size = g) : Blk (w.alloc (.cells cs t)) g t cs := by subst hg; exact Blk.new w t cs
structure PutAt (w wx : World) (gl c1 n i : Nat) (A1 : Option Addr) (ls : List Ls) (l : Ls) (A3 : Option Addr) (c3 : Nat) : Prop where
 own : OwnL w wx A1 n c1 ls
 lb : Blk wx gl 71 #[.int .i64 l.s, .int .i64 l.q, .int .i64 l.e, .slice A3 l.v.length c3, .int .i64 l.n]
 lo : OwnB w wx A3 l.v.length c3 l.v
 bel : Below w.heap.size w wx
 le : w.heap.size <= gl
 at_ : Tb.At ls l.s i
set_option maxHeartbeats 2000000 in
set_option maxRecDepth 100000 in
theorem refPut_raw {w : World} {ls : List Ls} {l : Ls} {A A' : Option Addr} {n c c' B B' : Nat} (hn : n <= 100000) (hL : LimLs ls) (hll : Lim 0 l.v.length) (hr : Tb.Rises ls) (h : RdL w B A n ls) (h' : Rd w B' A' l.v.length (bv l.v)) :
 Calls Tryz.prog 31 #[.slice A n c, .int .i64 l.s, .int .i64 l.q, resV l.e A' l.v.length c' l.n] w (GotL w w (Tb.put ls l)) := by
 obtain rfl := h.length
 have b0 : Below w.heap.size w (w.alloc (.cells #[.int .i64 l.e, .slice A' l.v.length c', .int .i64 l.n] 41)) := (Below.refl _ _).alloc lR _
 have H := hD h.fit
 have H' := hD h'.fit
 have HLI := hD hL
 have HRI := hD hr
 have HB := hD b0
 have HK := hD (Blk.new w 41 #[.int .i64 l.e, .slice A' l.v.length c', .int .i64 l.n])
 clear h h' hL hr b0
 unfold resV
 go_enter Tryz.func31, Tryz.ntmps31
 go_wp2_with fail
 refine (refTable_any (W := w) hn HLI.out (H.out.below HB.out) HB.out).mono ?_
 rintro e w1 ⟨A1, c1, rfl, ho1, hB1, hb1⟩
 have HO := hD ho1
 have HB1 := hD hB1
 have HK1 := hD (HK.out.below hb1)
 clear ho1 hb1 hB1
 go_wp2_with fail
 refine (refAt_any _ l.s hn (H.out.below HB1.out)).mono ?_
 rintro e w2 ⟨⟨i, rfl, hat⟩, rfl⟩
 have HA := hD hat
 have hi := hat.le
 clear hat
 obtain ⟨x0, x1, x2, f0, f1, f2⟩ := three HK1.out
 go_wp2_with fail
 refine (refResult_any (W := w) _ _ hll (H'.out.below HB1.out) HB1.out).mono ?_
 rintro e w3 ⟨A3, c3, rfl, ho3, hB3, hb3⟩
 unfold resV
 have HP : Hid (PutAt w (w3.alloc (.cells #[.int .i64 l.s, .int .i64 l.q, .int .i64 l.e, .slice A3 l.v.length c3, .int .i64 l.n] 71)) w3.heap.size c1 ls.length i A1 ls l A3 c3) := hD
  ⟨(HO.out.below hb3).below ((Below.refl _ _).alloc lR _), Blk.new _ _ _, own_below ho3 ((Below.refl _ _).alloc lR _), hB3.alloc hB3.size _, hB3.size, HA.out⟩
 clear x0 x1 x2 f0 f1 f2 ho3 hB3 hb3 HK1 HK HB1 HB HA HO H H' HLI
 go_upto_region 4 with fail
 generalize w3.alloc (.cells #[.int .i64 l.s, .int .i64 l.q, .int .i64 l.e, .slice A3 l.v.length c3, .int .i64 l.n] 71) = w4 at HP |-
 generalize w3.heap.size = gl at HP |-
 clear w3 w1
 by_cases hlt : i < ls.length
 · obtain ⟨g, m, A2, c2, rfl, hm, hg1, hg2, y0, y1, y2, y3, y4, hfz, ho2⟩ := HP.out.own.at hlt
   have HM := hD hm
   have hlti : (i : Int) < (ls.length : Int) := by omega
   by_cases hs : m.s = l.s
   · have hsb : (m.s == l.s) = true := by simpa using hs
     have HS := hD hs
     have HG := hD hg1
     have HFZ := hD hfz
     clear ho2 hm hs hg1 hg2 hfz
     have f0 := HFZ.out (i * 5)
     have f1 := HFZ.out (i * 5 + 1)
     have f2 := HFZ.out (i * 5 + 2)
     have f3 := HFZ.out (i * 5 + 3)
     have f4 := HFZ.out (i * 5 + 4)
     obtain ⟨x0, x1, x2, x3, x4⟩ := five5 HP.out.lb
     go_wp2_with fail
     go_ret
     have hst := HP.out.own.store hlt HP.out.lo
     have hb := ((((HP.out.bel.setCell (p := ⟨g, i * 5, none⟩) HG.out (.int .i64 l.s)).setCell (p := ⟨g, i * 5 + 1, none⟩) HG.out (.int .i64 l.q)).setCell (p := ⟨g, i * 5 + 2, none⟩) HG.out (.int .i64 l.e)).setCell (p := ⟨g, i * 5 + 3, none⟩) HG.out (.slice A3 l.v.length c3)).setCell (p := ⟨g, i * 5 + 4, none⟩) HG.out (.int .i64 l.n)
     rw [HP.out.at_.put_some HRI.out HM.out HS.out]
     have hel : (ls.set i l).length = ls.length := by simp
     exact ⟨some ⟨g, 0, none⟩, c1, by rw [hel]; rfl, by rw [hel]; exact hst, hb, hb⟩
   · have hsb : (m.s == l.s) = false := by simpa using hs
     have hsp : Tb.put ls l = ls.take i ++ l :: ls.drop i := HP.out.at_.put_none HRI.out (fun m' hm' => by rw [hm] at hm'; injection hm' with hm'; subst hm'; exact hs)
     clear ho2 hm hs y1 y2 y3 y4 hg1 hg2 hfz
     have HSP := hD hsp
     clear hsp
     have HX := hD HP.out.own.cap
     obtain ⟨i0, hi0, _, hi1, _⟩ := info_parts cellL.info
     have q1 : ∀ w : World, (Instr.slice 34 (.slice (some ⟨g, 0, none⟩) ls.length c1) none (some (.int .i64 (i : Int))) none).run Tryz.prog w = .ok (.slice (some ⟨g, 0, none⟩) i c1) w :=
      fun w => run_slice_to (P := Tryz.prog) Tryz.underlying34 hi0 (some ⟨g, 0, none⟩) ls.length c1 i (Nat.le_trans hi HX.out) w
     have q2 : ∀ w : World, (Instr.slice 34 (.slice (some ⟨g, 0, none⟩) ls.length c1) (some (.int .i64 (i : Int))) none none).run Tryz.prog w = .ok (.slice (cutS (some ⟨g, 0, none⟩) c1 i 5) (ls.length - i) (c1 - i)) w :=
      fun w => run_slice_fromS_ (P := Tryz.prog) Tryz.underlying34 hi0 hi1 (some ⟨g, 0, none⟩) ls.length c1 i hi w
     obtain ⟨vs, hv1, hv2⟩ := HP.out.own
     have HT1 := hD ((Rd.ownS hv1 (by omega)).take (Nat.mul_le_mul_right 5 hi))
     have HT2 := hD ((Rd.ownS hv1 (by omega)).dropS (k := i) hi HX.out)
     have HV := hD hv2
     have HONE := hD hv2.one
     clear hi0 hi1 hv1 hv2
     go_upto_region 7 with fail
     obtain ⟨x0, x1, x2, x3, x4⟩ := five5 HP.out.lb
     have BL2 : Hid (Blk ((w4.alloc (.cells #[.int .i64 l.s, .int .i64 l.q, .int .i64 l.e, .slice A3 l.v.length c3, .int .i64 l.n] 71)).alloc (.cells #[] 71)).drew w4.heap.size 71 #[.int .i64 l.s, .int .i64 l.q, .int .i64 l.e, .slice A3 l.v.length c3, .int .i64 l.n]) := hD ((Blk.newAt w4 _ _ rfl).alloc _).drew
     have BL3 : Hid (Blk ((w4.alloc (.cells #[] 71)).alloc (.cells #[.int .i64 l.s, .int .i64 l.q, .int .i64 l.e, .slice A3 l.v.length c3, .int .i64 l.n] 71)).drew (w4.heap.size + 1) 71 #[.int .i64 l.s, .int .i64 l.q, .int .i64 l.e, .slice A3 l.v.length c3, .int .i64 l.n]) := hD (Blk.newAt (w4.alloc (.cells #[] 71)) _ _ (World.size_alloc _ _)).drew
     obtain ⟨z0, z1, z2, z3, z4⟩ := five5 (HP.out.lb.below (w' := w4.alloc (.cells #[] 71)) ((Below.refl _ _).alloc lR _))
     have bd : Below w4.heap.size w4 w4.drew := (Below.refl _ _).drew
     go_region_law (first
      | (refine step_append_S (W := w4) cellL (.tmp 40) (.tmp 43) rfl rfl (by rfl) (by first | exact ownL_at bd _ rfl | exact ownL_at (bd.alloc bd.size _) _ (World.size_alloc _ _) | exact ownsRow_below (ownL_at bd _ rfl) ((Below.refl _ _).alloc lR _)) (by rfl) (HT1.out.below (by first | exact bd.alloc bd.size _ | exact (bd.alloc bd.size _).alloc (bd.alloc bd.size _).size _)) (fun u hu => HONE.out u (List.mem_of_mem_take hu)) (by omega) (by omega) (by first | exact bd.alloc bd.size _ | exact (bd.alloc bd.size _).alloc (bd.alloc bd.size _).size _) ?_
         intro A5 c5 w5 hown5 hB5 hg5
         simp only [Nat.zero_add, List.nil_append] at hown5
         obtain ⟨x5, x6, x7, x8, x9⟩ := five5 (HP.out.lb.below hB5))
      | (refine step_append_S (W := w4) cellL (.tmp 44) (.tmp 46) rfl rfl (by rfl) (by first | exact hown5 | exact ownsRow_below hown5 ((Below.refl _ _).alloc lR _)) (by rfl) (by first | exact Rd.lastAt _ A3 c3 l _ rfl | exact lastKept BL2.out hg5 (by intro h; simp [Value.ownBlock] at h) | exact lastKept BL3.out hg5 (by intro h; simp [Value.ownBlock] at h)) (lastC_one _ _ _) (by omega) (by omega) (by first | exact hB5 | exact hB5.alloc hB5.size _) ?_
         intro A6 c6 w6 hown6 hB6 hg6)
      | (refine step_append_S (W := w4) cellL (.tmp 47) (.tmp 50) rfl rfl (by rfl) hown6 (by rfl) (HT2.out.below hB6) (fun u hu => HONE.out u (List.mem_of_mem_drop hu)) (by omega) (by omega) hB6 ?_
         intro A7 c7 w7 hown7 hB7 hg7))
     all_goals go_wp2_with fail
     all_goals go_ret
     all_goals
      have hel : (ls.take i ++ l :: ls.drop i).length = i + 1 + (ls.length - i) := by simp; omega
      have hcs := CellsL.append (CellsL.append (OwnsL.below (CellsL.take HV.out i) hB7) (CellsL.one5 (R := fun A c l => OwnB w w7 A l.length c l) (l := l) (own_below HP.out.lo hB7))) (OwnsL.below (CellsL.drop HV.out i) hB7)
      rw [List.append_assoc (ls.take i), List.singleton_append] at hcs
      have hbb : Below w.heap.size w w7 := HP.out.bel.trans (hB7.mono HP.out.bel.size)
      rw [HSP.out]
      exact ⟨A7, c7, by rw [hel]; rfl, by rw [hel]; exact ⟨_, own_moreL HP.out.bel.size hown7, hcs⟩, hbb, hbb⟩
 · have hsp : Tb.put ls l = ls.take i ++ l :: ls.drop i := HP.out.at_.put_none HRI.out (HP.out.at_.none_eq (by omega))
   have hne : ¬ (i : Int) < (ls.length : Int) := by omega
   have HSP := hD hsp
   clear hsp
   have HX := hD HP.out.own.cap
   obtain ⟨i0, hi0, _, hi1, _⟩ := info_parts cellL.info
   have q1 : ∀ w : World, (Instr.slice 34 (.slice A1 ls.length c1) none (some (.int .i64 (i : Int))) none).run Tryz.prog w = .ok (.slice A1 i c1) w :=
    fun w => run_slice_to (P := Tryz.prog) Tryz.underlying34 hi0 A1 ls.length c1 i (Nat.le_trans hi HX.out) w
   have q2 : ∀ w : World, (Instr.slice 34 (.slice A1 ls.length c1) (some (.int .i64 (i : Int))) none none).run Tryz.prog w = .ok (.slice (cutS A1 c1 i 5) (ls.length - i) (c1 - i)) w :=
    fun w => run_slice_fromS_ (P := Tryz.prog) Tryz.underlying34 hi0 hi1 A1 ls.length c1 i hi w
   obtain ⟨vs, hv1, hv2⟩ := HP.out.own
   have HT1 := hD ((Rd.ownS hv1 (by omega)).take (Nat.mul_le_mul_right 5 hi))
   have HT2 := hD ((Rd.ownS hv1 (by omega)).dropS (k := i) hi HX.out)
   have HV := hD hv2
   have HONE := hD hv2.one
   clear hi0 hi1 hv1 hv2
   go_upto_region 7 with fail
   obtain ⟨x0, x1, x2, x3, x4⟩ := five5 HP.out.lb
   have BL2 : Hid (Blk ((w4.alloc (.cells #[.int .i64 l.s, .int .i64 l.q, .int .i64 l.e, .slice A3 l.v.length c3, .int .i64 l.n] 71)).alloc (.cells #[] 71)).drew w4.heap.size 71 #[.int .i64 l.s, .int .i64 l.q, .int .i64 l.e, .slice A3 l.v.length c3, .int .i64 l.n]) := hD ((Blk.newAt w4 _ _ rfl).alloc _).drew
   have BL3 : Hid (Blk ((w4.alloc (.cells #[] 71)).alloc (.cells #[.int .i64 l.s, .int .i64 l.q, .int .i64 l.e, .slice A3 l.v.length c3, .int .i64 l.n] 71)).drew (w4.heap.size + 1) 71 #[.int .i64 l.s, .int .i64 l.q, .int .i64 l.e, .slice A3 l.v.length c3, .int .i64 l.n]) := hD (Blk.newAt (w4.alloc (.cells #[] 71)) _ _ (World.size_alloc _ _)).drew
   obtain ⟨z0, z1, z2, z3, z4⟩ := five5 (HP.out.lb.below (w' := w4.alloc (.cells #[] 71)) ((Below.refl _ _).alloc lR _))
   have bd : Below w4.heap.size w4 w4.drew := (Below.refl _ _).drew
   go_region_law (first
    | (refine step_append_S (W := w4) cellL (.tmp 40) (.tmp 43) rfl rfl (by rfl) (by first | exact ownL_at bd _ rfl | exact ownL_at (bd.alloc bd.size _) _ (World.size_alloc _ _) | exact ownsRow_below (ownL_at bd _ rfl) ((Below.refl _ _).alloc lR _)) (by rfl) (HT1.out.below (by first | exact bd.alloc bd.size _ | exact (bd.alloc bd.size _).alloc (bd.alloc bd.size _).size _)) (fun u hu => HONE.out u (List.mem_of_mem_take hu)) (by omega) (by omega) (by first | exact bd.alloc bd.size _ | exact (bd.alloc bd.size _).alloc (bd.alloc bd.size _).size _) ?_
       intro A5 c5 w5 hown5 hB5 hg5
       simp only [Nat.zero_add, List.nil_append] at hown5
       obtain ⟨x5, x6, x7, x8, x9⟩ := five5 (HP.out.lb.below hB5))
    | (refine step_append_S (W := w4) cellL (.tmp 44) (.tmp 46) rfl rfl (by rfl) (by first | exact hown5 | exact ownsRow_below hown5 ((Below.refl _ _).alloc lR _)) (by rfl) (by first | exact Rd.lastAt _ A3 c3 l _ rfl | exact lastKept BL2.out hg5 (by intro h; simp [Value.ownBlock] at h) | exact lastKept BL3.out hg5 (by intro h; simp [Value.ownBlock] at h)) (lastC_one _ _ _) (by omega) (by omega) (by first | exact hB5 | exact hB5.alloc hB5.size _) ?_
       intro A6 c6 w6 hown6 hB6 hg6)
    | (refine step_append_S (W := w4) cellL (.tmp 47) (.tmp 50) rfl rfl (by rfl) hown6 (by rfl) (HT2.out.below hB6) (fun u hu => HONE.out u (List.mem_of_mem_drop hu)) (by omega) (by omega) hB6 ?_
       intro A7 c7 w7 hown7 hB7 hg7))
   all_goals go_wp2_with fail
   all_goals go_ret
   all_goals
    have hel : (ls.take i ++ l :: ls.drop i).length = i + 1 + (ls.length - i) := by simp; omega
    have hcs := CellsL.append (CellsL.append (OwnsL.below (CellsL.take HV.out i) hB7) (CellsL.one5 (R := fun A c l => OwnB w w7 A l.length c l) (l := l) (own_below HP.out.lo hB7))) (OwnsL.below (CellsL.drop HV.out i) hB7)
    rw [List.append_assoc (ls.take i), List.singleton_append] at hcs
    have hbb : Below w.heap.size w w7 := HP.out.bel.trans (hB7.mono HP.out.bel.size)
    rw [HSP.out]
    exact ⟨A7, c7, by rw [hel]; rfl, by rw [hel]; exact ⟨_, own_moreL HP.out.bel.size hown7, hcs⟩, hbb, hbb⟩
theorem refPutL_any {W w : World} {ls : List Ls} {l : Ls} {A A' : Option Addr} {n c c' B B' : Nat} (hn : n <= 100000) (hL : LimLs ls) (hll : Lim 0 l.v.length) (hr : Tb.Rises ls) (h : RdL w B A n ls) (h' : Rd w B' A' l.v.length (bv l.v)) (hB : Below W.heap.size W w) :
 Calls Tryz.prog 31 #[.slice A n c, .int .i64 l.s, .int .i64 l.q, resV l.e A' l.v.length c' l.n] w (GotL W w (Tb.put ls l)) :=
 (refPut_raw hn hL hll hr h h').mono fun e w' h => GotL.of hB h
structure Tb.Ok (ls : List Ls) : Prop where
 rises : Tb.Rises ls
 len : ls.length <= 1000
 each : ∀ l ∈ ls, Tb.named l.s l.q /\ l.v.length <= 16 /\ ∀ x ∈ l.v, x < 256
theorem Tb.Ok.nil : Tb.Ok [] := ⟨List.Pairwise.nil, by simp, by intro l h; cases h⟩
theorem Tb.Ok.put {ls : List Ls} {l : Ls} (h : Tb.Ok ls) (hl : ls.length < 1000) (hn : Tb.named l.s l.q) (hv : l.v.length <= 16) (hb : ∀ x ∈ l.v, x < 256) : Tb.Ok (Tb.put ls l) :=
 ⟨Tb.put_rises h.rises, by have := Tb.length_put_le (ls := ls) (l := l); omega, fun m hm => by
   rcases Tb.mem_put hm with rfl | hm
   · exact ⟨hn, hv, hb⟩
   · exact h.each m hm⟩
theorem Tb.Ok.lim {ls : List Ls} (h : Tb.Ok ls) : LimLs ls := fun l hl => by have := (h.each l hl).2.1; unfold Lim; omega
theorem Tb.Ok.bytes {ls : List Ls} (h : Tb.Ok ls) : BytesLs ls := fun l hl => (h.each l hl).2.2
theorem Tb.look_vb {ls : List Ls} (h : Tb.Ok ls) (s q : Int) : ∀ x ∈ (Tb.look ls s q).v, x < 256 := by
 unfold Tb.look
 split
 · split
   · rename_i l hl
     split
     · intro x hx; cases hx
     · split
       · exact (h.each l (List.mem_of_find?_eq_some hl)).2.2
       · intro x hx; cases hx
   · split <;> (intro x hx; cases hx)
 · intro x hx; cases hx
def LookC9 : Prop := ∀ {W w : World} {ls : List Ls} {A : Option Addr} {n c B : Nat} (s q : Int), Tb.Ok ls -> n <= c -> RdL w B A n ls -> Below W.heap.size W w →
 Calls Tryz.prog 24 #[.slice A n c, .int .i64 s, .int .i64 q] w (GotRK W w (Tb.look ls s q).e (Tb.look ls s q).v (Tb.look ls s q).n (Tb.look ls s q).k)
def PutC9 : Prop := ∀ {W w : World} {ls : List Ls} {A A' : Option Addr} {n c c' B B' : Nat} (l : Ls), Tb.Ok ls -> Tb.named l.s l.q -> l.v.length <= 16 -> (∀ x ∈ l.v, x < 256) -> n <= c -> RdL w B A n ls -> Rd w B' A' l.v.length (bv l.v) -> Below W.heap.size W w →
 Calls Tryz.prog 27 #[.slice A n c, .int .i64 l.s, .int .i64 l.q, .agg #[.int .i64 l.e, .slice A' l.v.length c', .int .i64 l.n]] w (GotL W w (Tb.put ls l))
namespace Pk
def top : Nat := 4611686018427387904
def held (n : Int) : Nat := min n.toNat top
theorem held_le (n : Int) : held n <= top := Nat.min_le_right _ _
theorem held_of {n : Nat} (h : n <= top) : held (n : Int) = n := by unfold held; omega
def encF : Nat -> Nat -> List Nat
 | 0, n => [n]
 | f + 1, n => if n < 128 then [n] else (n % 128 + 128) :: encF f (n / 128)
def enc (n : Nat) : List Nat := encF 8 n
theorem encF_more : ∀ (f n : Nat), n < 128 ^ (f + 1) -> encF f n = encF (f + 1) n := by
 intro f
 induction f with
 | zero => intro n h; have h' : n < 128 := by simpa using h
           simp [encF, h']
 | succ f ih =>
   intro n h
   show (if n < 128 then [n] else (n % 128 + 128) :: encF f (n / 128)) = (if n < 128 then [n] else (n % 128 + 128) :: encF (f + 1) (n / 128))
   rw [ih (n / 128) (by rw [Nat.pow_succ] at h; exact Nat.div_lt_of_lt_mul (by omega))]
theorem enc_small {n : Nat} (h : n < 128) : enc n = [n] := by simp [enc, encF, h]
theorem enc_big {n : Nat} (h : 128 <= n) (ht : n <= top) : enc n = (n % 128 + 128) :: enc (n / 128) := by
 have e : encF 7 (n / 128) = encF 8 (n / 128) := encF_more 7 _ (by unfold top at ht; omega)
 unfold enc
 rw [<- e]
 show (if n < 128 then [n] else (n % 128 + 128) :: encF 7 (n / 128)) = _
 rw [if_neg (by omega)]
theorem encF_length : ∀ (f n : Nat), 1 <= (encF f n).length /\ (encF f n).length <= f + 1 := by
 intro f
 induction f with
 | zero => intro n; simp [encF]
 | succ f ih =>
   intro n
   have := ih (n / 128)
   unfold encF
   split
   · simp
   · simp only [List.length_cons]; omega
theorem enc_length (n : Nat) : 1 <= (enc n).length /\ (enc n).length <= 9 := encF_length 8 n
theorem enc_lt {n : Nat} (h : n <= top) : ∀ x ∈ enc n, x < 256 := by
 have key : ∀ (f n : Nat), n < 128 ^ (f + 1) -> ∀ x ∈ encF f n, x < 256 := by
  intro f
  induction f with
  | zero => intro n h x hx; simp [encF] at hx; subst hx; simp at h; omega
  | succ f ih =>
    intro n h x hx
    unfold encF at hx
    split at hx
    · simp at hx; omega
    · rcases List.mem_cons.1 hx with rfl | hx
      · omega
      · exact ih (n / 128) (by rw [Nat.pow_succ] at h; exact Nat.div_lt_of_lt_mul (by omega)) x hx
 exact key 8 n (by unfold top at h; omega)
def dec : Nat -> Nat -> List Nat -> Nat × Nat
 | _, _, [] => (0, 0)
 | i, acc, x :: l =>
   if 9 <= i then (0, 0)
   else if 128 <= x then dec (i + 1) (acc + x % 128 * 128 ^ i) l
   else if x = 0 /\ 0 < i then (0, 0)
   else (acc + x * 128 ^ i, i + 1)
def first (l : List Nat) : Nat × Nat := dec 0 0 l
theorem dec_enc : ∀ (f i n acc : Nat) (rest : List Nat), n < 128 ^ (f + 1) -> i + f <= 8 -> (0 < i -> 0 < n) -> dec i acc (encF f n ++ rest) = (acc + n * 128 ^ i, i + (encF f n).length) := by
 intro f
 induction f with
 | zero =>
   intro i n acc rest h hi h0
   have h' : n < 128 := by simpa using h
   show dec i acc (n :: rest) = _
   simp only [dec]
   rw [if_neg (by omega), if_neg (by omega), if_neg (by omega)]; rfl
 | succ f ih =>
   intro i n acc rest h hi h0
   by_cases hs : n < 128
   · have e : encF (f + 1) n = [n] := by unfold encF; rw [if_pos hs]
     rw [e]
     show dec i acc (n :: rest) = _
     simp only [dec]
     rw [if_neg (by omega), if_neg (by omega), if_neg (by omega)]; rfl
   · have e : encF (f + 1) n = (n % 128 + 128) :: encF f (n / 128) := by
      show (if n < 128 then [n] else (n % 128 + 128) :: encF f (n / 128)) = _
      rw [if_neg hs]
     rw [e]
     show dec i acc ((n % 128 + 128) :: (encF f (n / 128) ++ rest)) = _
     simp only [dec]
     rw [if_neg (by omega), if_pos (by omega), ih (i + 1) (n / 128) _ rest (by rw [Nat.pow_succ] at h; exact Nat.div_lt_of_lt_mul (by omega)) (by omega) (by omega)]
     simp only [List.length_cons, Prod.mk.injEq]
     constructor
     · have e1 : (n % 128 + 128) % 128 = n % 128 := by omega
       have e2 : n % 128 * 128 ^ i + n / 128 * 128 ^ (i + 1) = n * 128 ^ i := by
        have h1 : n / 128 * 128 ^ (i + 1) = n / 128 * 128 * 128 ^ i := by rw [Nat.pow_succ]; rw [Nat.mul_comm (128 ^ i) 128, <- Nat.mul_assoc]
        rw [h1, <- Nat.add_mul]
        congr 1
        omega
       rw [e1]; omega
     · omega
theorem first_enc {n : Nat} (h : n <= top) (rest : List Nat) : first (enc n ++ rest) = (n, (enc n).length) := by
 have := dec_enc 8 0 n 0 rest (by unfold top at h; omega) (by omega) (by omega)
 simpa [first, enc] using this
theorem dec_size : ∀ (l : List Nat) (i acc : Nat), (dec i acc l).2 = 0 \/ (i < (dec i acc l).2 /\ (dec i acc l).2 <= i + l.length /\ (dec i acc l).2 <= 9) := by
 intro l
 induction l with
 | nil => intro i acc; left; rfl
 | cons x l ih =>
   intro i acc
   simp only [dec]
   split
   · left; rfl
   · split
     · have := ih (i + 1) (acc + x % 128 * 128 ^ i)
       simp only [List.length_cons]
       omega
     · split
       · left; rfl
       · right
         simp only [List.length_cons]
         omega
theorem first_size (l : List Nat) : (first l).2 <= l.length /\ (first l).2 <= 9 := by
 have := dec_size l 0 0
 unfold first
 omega
theorem dec_lt : ∀ (l : List Nat) (i acc : Nat), acc < 128 ^ i -> i <= 9 -> (dec i acc l).1 < 128 ^ 9 := by
 intro l
 induction l with
 | nil => intro i acc _ _; simp [dec]
 | cons x l ih =>
   intro i acc h hi
   simp only [dec]
   split
   · simp
   · rename_i h9
     have hp : 128 ^ (i + 1) <= 128 ^ 9 := Nat.pow_le_pow_right (by omega) (by omega)
     have hs : 128 ^ (i + 1) = 128 * 128 ^ i := by rw [Nat.pow_succ, Nat.mul_comm]
     split
     · refine ih _ _ ?_ (by omega)
       have : x % 128 * 128 ^ i <= 127 * 128 ^ i := Nat.mul_le_mul_right _ (by omega)
       omega
     · split
       · simp
       · have : x * 128 ^ i <= 127 * 128 ^ i := Nat.mul_le_mul_right _ (by omega)
         show acc + x * 128 ^ i < _
         omega
theorem first_lt (l : List Nat) : (first l).1 < 9223372036854775808 := by
 have := dec_lt l 0 0 (by simp) (by omega)
 simpa [first] using this
def rNum (l : List Nat) (m : Nat) : Option (Nat × List Nat) := if (first l).2 = 0 \/ m < (first l).1 then none else some ((first l).1, l.drop (first l).2)
abbrev St := Option (List Nat)
def numN (s : St) (m : Int) : Option (Nat × List Nat) := s.bind fun l => rNum l (held m)
def numV (s : St) (m : Int) : Nat := ((numN s m).map (·.1)).getD 0
def numS (s : St) (m : Int) : St := (numN s m).map (·.2)
def bytN (s : St) (m : Int) : Option (List Nat × List Nat) := (numN s m).bind fun p => if p.2.length < p.1 then none else some (p.2.take p.1, p.2.drop p.1)
def bytV (s : St) (m : Int) : List Nat := ((bytN s m).map (·.1)).getD []
def bytS (s : St) (m : Int) : St := (bytN s m).map (·.2)
theorem byt_of {s : St} {m : Int} (h : ¬ ((numS s m).getD []).length < numV s m) : bytV s m = ((numS s m).getD []).take (numV s m) /\ bytS s m = (numS s m).map (List.drop (numV s m)) := by
 unfold bytV bytS bytN
 unfold numS numV at *
 cases hn : numN s m with
 | none => exact ⟨rfl, rfl⟩
 | some p =>
   rw [hn] at h
   have h' : ¬ p.2.length < p.1 := h
   simp [h']
theorem byt_no {s : St} {m : Int} (h : ((numS s m).getD []).length < numV s m) : bytV s m = [] /\ bytS s m = none := by
 unfold bytV bytS bytN
 unfold numS numV at *
 cases hn : numN s m with
 | none => exact ⟨rfl, rfl⟩
 | some p =>
   rw [hn] at h
   have h' : p.2.length < p.1 := h
   simp [h']
theorem rNum_enc {n : Nat} (h : n <= top) (rest : List Nat) (m : Nat) (hm : n <= m) : rNum (enc n ++ rest) m = some (n, rest) := by
 unfold rNum
 rw [first_enc h]
 have := enc_length n
 simp only
 rw [if_neg (by omega), List.drop_left']
 rfl
def encB (x : List Nat) : List Nat := enc x.length ++ x
theorem encB_lt {x : List Nat} (h : ∀ y ∈ x, y < 256) (hl : x.length <= top) : ∀ y ∈ encB x, y < 256 := by
 intro y hy
 rcases List.mem_append.1 hy with hy | hy
 · exact enc_lt hl y hy
 · exact h y hy
theorem numN_enc {n : Nat} (h : n <= top) (rest : List Nat) (m : Int) (hm : n <= held m) : numN (some (enc n ++ rest)) m = some (n, rest) := rNum_enc h rest _ hm
theorem bytN_enc (x rest : List Nat) (m : Int) (h : x.length <= top) (hm : x.length <= held m) : bytN (some (encB x ++ rest)) m = some (x, rest) := by
 unfold bytN encB
 rw [List.append_assoc, numN_enc h _ _ hm]
 simp only [Option.bind_some]
 rw [if_neg (by simp), List.take_left', List.drop_left'] <;> rfl
theorem numV_is {s : St} {m : Int} {n : Nat} {l : List Nat} (h : numN s m = some (n, l)) : numV s m = n /\ numS s m = some l := by
 unfold numV numS; rw [h]; exact ⟨rfl, rfl⟩
theorem numV_no {s : St} {m : Int} (h : numN s m = none) : numV s m = 0 /\ numS s m = none := by
 unfold numV numS; rw [h]; exact ⟨rfl, rfl⟩
theorem bytV_is {s : St} {m : Int} {x l : List Nat} (h : bytN s m = some (x, l)) : bytV s m = x /\ bytS s m = some l := by
 unfold bytV bytS; rw [h]; exact ⟨rfl, rfl⟩
def encs : List Int -> List Nat
 | [] => []
 | z :: zs => enc (held z) ++ encs zs
theorem encs_snoc (zs : List Int) (z : Int) : encs (zs ++ [z]) = encs zs ++ enc (held z) := by
 induction zs with
 | nil => simp [encs]
 | cons y zs ih => simp [encs, ih]
theorem encs_length (zs : List Int) : (encs zs).length <= 9 * zs.length := by
 induction zs with
 | nil => simp [encs]
 | cons y zs ih =>
   have := enc_length (held y)
   simp only [encs, List.length_append, List.length_cons]
   omega
theorem encs_lt (zs : List Int) : ∀ x ∈ encs zs, x < 256 := by
 induction zs with
 | nil => intro x hx; cases hx
 | cons y zs ih =>
   intro x hx
   rcases List.mem_append.1 hx with hx | hx
   · exact enc_lt (held_le y) x hx
   · exact ih x hx
end Pk
structure Mc where
 o : Ob
 t : List Ls
structure En where
 s : Int
 q : Int
 c : Cm
structure MAns where
 m : Mc
 e : Int
 v : List Nat
 n : Int
def Mc.zero : Mc := ⟨⟨[], [], [], []⟩, []⟩
def Mc.step (m : Mc) (e : En) : MAns :=
 if (Tb.look m.t e.s e.q).k = 0 then ⟨⟨(m.o.apply e.c).s, Tb.put m.t ⟨e.s, e.q, (m.o.apply e.c).e, (m.o.apply e.c).v, (m.o.apply e.c).n⟩⟩, (m.o.apply e.c).e, (m.o.apply e.c).v, (m.o.apply e.c).n⟩
 else ⟨m, (Tb.look m.t e.s e.q).e, (Tb.look m.t e.s e.q).v, (Tb.look m.t e.s e.q).n⟩
structure Mc.Ok (m : Mc) : Prop where
 o : m.o.Inv
 lk : ∀ z ∈ m.o.lk, 0 <= z /\ z <= 999
 t : Tb.Ok m.t
 t8 : m.t.length <= 8
 te : ∀ l ∈ m.t, 0 <= l.e /\ l.e <= 10 /\ -1 <= l.n /\ l.n <= 1073741824
theorem Mc.Ok.zero : Mc.zero.Ok := ⟨Ob.Inv.nil, fun z h => (by cases h), Tb.Ok.nil, by decide, fun l h => (by cases h)⟩
structure Ans.Fits (r : Ans) : Prop where
 e : 0 <= r.e /\ r.e <= 7
 v : r.v.length <= 16
 n : -1 <= r.n /\ r.n <= 1000
 lk : ∀ z ∈ r.s.lk, 0 <= z /\ z <= 999
theorem Mp.getV_len {ps : List Pr} {k : List Nat} (h : Mp.Inv ps) : (Mp.getV ps k).length <= 16 := by
 rcases Mp.getV_mem (ps := ps) (k := k) with e | ⟨p, hp, e⟩
 · rw [e]; simp
 · rw [e]; exact (h.len p hp).2
theorem Mp.getE_le (ps : List Pr) (k : List Nat) : 0 <= Mp.getE ps k /\ Mp.getE ps k <= 7 := by
 unfold Mp.getE; split <;> omega
theorem Ob.apply_fits {s : Ob} {c : Cm} (h : s.Inv) (hl : ∀ z ∈ s.lk, 0 <= z /\ z <= 999) : (s.apply c).Fits := by
 have hz : ([] : List Nat).length <= 16 := by simp
 have hn : (-1 : Int) <= 0 /\ (0 : Int) <= 1000 := by omega
 have he0 : (0 : Int) <= 0 /\ (0 : Int) <= 7 := by omega
 have hmem : ∀ l ∈ s.q, l.length <= 16 := h.qv
 refine Ob.apply_ind (P := fun r => r.Fits) s c (fun _ => ⟨he0, h.reg, hn, hl⟩) (fun _ => ⟨?_, hz, hn, hl⟩) (fun _ => ⟨?_, ?_, hn, hl⟩) (fun _ => ⟨?_, hz, ?_, hl⟩) (fun _ => ⟨?_, ?_, hn, hl⟩) (fun hk => ⟨?_, hz, ?_, ?_⟩) (fun hk => ⟨?_, hz, ?_, ?_⟩) (fun _ => ⟨?_, hz, ?_, hl⟩) (fun _ => ⟨?_, ?_, ?_, hl⟩) (fun _ => ⟨Mp.getE_le _ _, Mp.getV_len h.mp, hn, hl⟩) (fun _ => ⟨Mp.getE_le _ _, Mp.getV_len h.mp, hn, hl⟩) ⟨(by decide : (0 : Int) <= 7 /\ (7 : Int) <= 7), hz, hn, hl⟩
 · show 0 <= (if c.val.length <= 16 then (0 : Int) else 1) /\ (if c.val.length <= 16 then (0 : Int) else 1) <= 7
   split <;> omega
 · show 0 <= casE s.reg c.old c.val /\ casE s.reg c.old c.val <= 7
   unfold casE; split; omega; split <;> omega
 · show (casV s.reg c.old c.val).length <= 16
   unfold casV; split; simp; split; simp; exact h.reg
 · show 0 <= pushE s.q c.val /\ pushE s.q c.val <= 7
   unfold pushE; split; omega; split <;> omega
 · show -1 <= pushN s.q c.val /\ pushN s.q c.val <= 1000
   have := h.ql
   unfold pushN; split; omega; split; omega; push_cast; omega
 · show 0 <= popE s.q /\ popE s.q <= 7
   unfold popE; split <;> omega
 · show (popV s.q).length <= 16
   unfold popV
   cases hq : s.q with
   | nil => simp
   | cons l t => exact hmem l (by rw [hq]; simp)
 · show 0 <= takeE s.lk c.who /\ takeE s.lk c.who <= 7
   unfold takeE; split; omega; split <;> omega
 · show -1 <= takeN s.lk c.who /\ takeN s.lk c.who <= 1000
   have := h.lkl
   unfold takeN; split; omega; split; omega; omega
 · show ∀ z ∈ takeS s.lk c.who, 0 <= z /\ z <= 999
   unfold takeS
   split
   · exact hl
   · split
     · exact hl
     · intro z hz
       rcases List.mem_append.1 hz with hz | hz
       · exact hl z hz
       · have : z = c.who := by simpa using hz
         omega
 · show 0 <= freeE s.lk c.who /\ freeE s.lk c.who <= 7
   unfold freeE; split <;> omega
 · show -1 <= freeN s.lk c.who /\ freeN s.lk c.who <= 1000
   unfold freeN
   split
   · cases hq : s.lk.erase c.who with
     | nil => simp
     | cons a t =>
       have : a ∈ s.lk := List.mem_of_mem_erase (by rw [hq]; simp)
       have := hl a this
       simp; omega
   · omega
 · show ∀ z ∈ s.lk.erase c.who, 0 <= z /\ z <= 999
   exact fun z hz => hl z (List.mem_of_mem_erase hz)
 · show 0 <= ownerE s.lk /\ ownerE s.lk <= 7
   unfold ownerE; split <;> omega
 · show -1 <= ownerN s.lk /\ ownerN s.lk <= 1000
   unfold ownerN
   cases hq : s.lk with
   | nil => simp
   | cons a t =>
     have := hl a (by rw [hq]; simp)
     simp; omega
 · show 0 <= Mp.putE s.mp c.key c.val /\ Mp.putE s.mp c.key c.val <= 7
   unfold Mp.putE; split; omega; split; omega; split <;> omega
 · show (Mp.putV s.mp c.key c.val).length <= 16
   rcases Mp.putV_mem (ps := s.mp) (k := c.key) (v := c.val) with e | ⟨p, hp, e⟩
   · rw [e]; simp
   · rw [e]; exact (h.mp.len p hp).2
 · show -1 <= Mp.putN s.mp c.key c.val /\ Mp.putN s.mp c.key c.val <= 1000
   have := h.mp.few
   unfold Mp.putN
   split
   · omega
   · split
     · omega
     · split
       · omega
       · push_cast; omega
structure MA where
 o : OA
 At : Option Addr
 ct : Nat
def machC (a : MA) (m : Mc) : Array Value := #[.slice a.o.A0 m.o.reg.length a.o.c0, .slice a.o.A1 m.o.q.length a.o.c1, .slice a.o.A2 m.o.lk.length a.o.c2, .slice a.o.A3 m.o.mp.length a.o.c3, .slice a.At m.t.length a.ct]
def entC (a : CA) (e : En) : Array Value := #[.int .i64 e.s, .int .i64 e.q, .int .i64 e.c.kind, .int .i64 e.c.who, .slice a.Ak e.c.key.length a.ck, .slice a.Av e.c.val.length a.cv, .slice a.Ao e.c.old.length a.co]
def machV (a : MA) (m : Mc) : Value := .agg (machC a m)
def entV (a : CA) (e : En) : Value := .agg (entC a e)
structure RdM (w : World) (B : Nat) (a : MA) (m : Mc) : Prop where
 o : RdO w B a.o m.o
 t : RdL w B a.At m.t.length m.t
 lt : m.t.length <= a.ct
structure OwnM (W w : World) (a : MA) (m : Mc) : Prop where
 o : OwnO W w a.o m.o
 t : OwnL W w a.At m.t.length a.ct m.t
section
variable {W w w' : World} {B : Nat} {a : MA} {m : Mc}
theorem RdM.below (h : RdM w B a m) (hb : Below B w w') : RdM w' B a m := ⟨h.o.below hb, h.t.below hb, h.lt⟩
theorem RdM.fit (h : RdM w B a m) : RdM w w.heap.size a m := ⟨h.o.fit, h.t.fit, h.lt⟩
theorem OwnM.rd (h : OwnM W w a m) : RdM w w.heap.size a m := ⟨h.o.rd, h.t.rd, h.t.cap⟩
theorem OwnM.below (h : OwnM W w a m) (hb : Below w.heap.size w w') : OwnM W w' a m := ⟨h.o.below hb, h.t.below hb⟩
theorem OwnM.of {W w w' : World} (hs : W.heap.size <= w.heap.size) (h : OwnM w w' a m) : OwnM W w' a m := ⟨h.o.of hs, h.t.of hs⟩
theorem RdM.zero (w : World) (B : Nat) : RdM w B ⟨⟨none, 0, none, 0, none, 0, none, 0⟩, none, 0⟩ Mc.zero := ⟨RdO.nil _ _, RdL.nil _ _ _, Nat.le_refl _⟩
theorem OwnO.nil (W w : World) : OwnO W w ⟨none, 0, none, 0, none, 0, none, 0⟩ ⟨[], [], [], []⟩ := ⟨own_nil _ _, OwnQ.nil _ _, ownI_nil _ _, OwnP.nil _ _⟩
theorem OwnM.zero (W w : World) : OwnM W w ⟨⟨none, 0, none, 0, none, 0, none, 0⟩, none, 0⟩ Mc.zero := ⟨OwnO.nil _ _, OwnL.nil _ _⟩
theorem OwnM.set_t {b i : Nat} {t : TypeId} {u : Value} {cs : Array Value} (h : OwnM W w a m) (hb : Blk w b t cs) (h1 : 5 ≠ t) (h2 : 24 ≠ t) (h3 : 3 ≠ t) (h4 : 81 ≠ t) (h5 : 71 ≠ t) : OwnM W (w.setCell ⟨b, i, none⟩ u) a m :=
 ⟨h.o.set_t hb h1 h2 h3 h4, h.t.set_t hb h1 h5⟩
end
theorem put5 {w : World} {b : Nat} {t : TypeId} {x0 y0 z0 u0 v0 : Value} (hk : Blk w b t #[x0, y0, z0, u0, v0]) (x y z u v : Value) :
 Blk (((((w.setCell ⟨b, 0, none⟩ x).setCell ⟨b, 1, none⟩ y).setCell ⟨b, 2, none⟩ z).setCell ⟨b, 3, none⟩ u).setCell ⟨b, 4, none⟩ v) b t #[x, y, z, u, v] ∧
 (∀ W, W.heap.size <= b -> Below W.heap.size W w -> Below W.heap.size W (((((w.setCell ⟨b, 0, none⟩ x).setCell ⟨b, 1, none⟩ y).setCell ⟨b, 2, none⟩ z).setCell ⟨b, 3, none⟩ u).setCell ⟨b, 4, none⟩ v)) ∧
 (∀ W a m, OwnM W w a m -> 5 ≠ t -> 24 ≠ t -> 3 ≠ t -> 81 ≠ t -> 71 ≠ t -> OwnM W (((((w.setCell ⟨b, 0, none⟩ x).setCell ⟨b, 1, none⟩ y).setCell ⟨b, 2, none⟩ z).setCell ⟨b, 3, none⟩ u).setCell ⟨b, 4, none⟩ v) a m) ∧
 (∀ base e size v' n xs, w.ownsRow base e size v' n xs -> e ≠ t -> (((((w.setCell ⟨b, 0, none⟩ x).setCell ⟨b, 1, none⟩ y).setCell ⟨b, 2, none⟩ z).setCell ⟨b, 3, none⟩ u).setCell ⟨b, 4, none⟩ v).ownsRow base e size v' n xs) ∧
 ∀ g t' cs, g ≠ b -> Blk w g t' cs -> Blk (((((w.setCell ⟨b, 0, none⟩ x).setCell ⟨b, 1, none⟩ y).setCell ⟨b, 2, none⟩ z).setCell ⟨b, 3, none⟩ u).setCell ⟨b, 4, none⟩ v) g t' cs := by
 have k1 := hk.set_ 0 x
 have k2 := k1.set_ 1 y
 have k3 := k2.set_ 2 z
 have k4 := k3.set_ 3 u
 have k5 := k4.set_ 4 v
 refine ⟨k5, fun W h1 h2 => ((((h2.setCell h1 _).setCell h1 _).setCell h1 _).setCell h1 _).setCell h1 _, fun W a m h h1 h2 h3 h4 h5 => ((((h.set_t hk h1 h2 h3 h4 h5).set_t k1 h1 h2 h3 h4 h5).set_t k2 h1 h2 h3 h4 h5).set_t k3 h1 h2 h3 h4 h5).set_t k4 h1 h2 h3 h4 h5,
  fun base e size v' n xs h hne => own_set_t (own_set_t (own_set_t (own_set_t (own_set_t h hk hne) k1 hne) k2 hne) k3 hne) k4 hne,
  fun g t' cs hne h => ((((h.set_other hne).set_other hne).set_other hne).set_other hne).set_other hne⟩
theorem five_frozen {w : World} {b : Nat} {t : TypeId} {x y z u v : Value} (h : Blk w b t #[x, y, z, u, v]) :
 w.frozen? ⟨b, 0, none⟩ = false /\ w.frozen? ⟨b, 1, none⟩ = false /\ w.frozen? ⟨b, 2, none⟩ = false /\ w.frozen? ⟨b, 3, none⟩ = false /\ w.frozen? ⟨b, 4, none⟩ = false :=
 ⟨h.frozen 0, h.frozen 1, h.frozen 2, h.frozen 3, h.frozen 4⟩
theorem seven {w : World} {b : Nat} {t : TypeId} {x0 x1 x2 x3 x4 x5 x6 : Value} (h : Blk w b t #[x0, x1, x2, x3, x4, x5, x6]) :
 w.cell? ⟨b, 0, none⟩ = some x0 /\ w.cell? ⟨b, 1, none⟩ = some x1 /\ w.cell? ⟨b, 2, none⟩ = some x2 /\ w.cell? ⟨b, 3, none⟩ = some x3 /\ w.cell? ⟨b, 4, none⟩ = some x4 /\ w.cell? ⟨b, 5, none⟩ = some x5 /\ w.cell? ⟨b, 6, none⟩ = some x6 :=
 ⟨h.cell 0, h.cell 1, h.cell 2, h.cell 3, h.cell 4, h.cell 5, h.cell 6⟩
def GotM (W w : World) (r : MAns) (en : Ending) (w' : World) : Prop :=
 ∃ a A c, en = .returned (.tuple #[machV a r.m, resV r.e A r.v.length c r.n]) /\ OwnM W w' a r.m /\ OwnB W w' A r.v.length c r.v /\ Below W.heap.size W w' /\ Below w.heap.size w w'
theorem GotM.of {W w w' : World} {r : MAns} {en : Ending} (hB : Below W.heap.size W w) (h : GotM w w r en w') : GotM W w r en w' := by
 obtain ⟨a, A, c, h1, h2, h3, h4, h5⟩ := h
 exact ⟨a, A, c, h1, h2.of hB.size, more_ hB.size h3, hB.trans (h4.mono hB.size), h5⟩
def GotMB (W w : World) (r : Option Mc) (en : Ending) (w' : World) : Prop :=
 ∃ a, en = .returned (.tuple #[machV a (r.getD Mc.zero), .bool r.isSome]) /\ OwnM W w' a (r.getD Mc.zero) /\ Below W.heap.size W w' /\ Below w.heap.size w w'
theorem GotMB.of {W w w' : World} {r : Option Mc} {en : Ending} (hB : Below W.heap.size W w) (h : GotMB w w r en w') : GotMB W w r en w' := by
 obtain ⟨a, h1, h2, h3, h4⟩ := h
 exact ⟨a, h1, h2.of hB.size, hB.trans (h3.mono hB.size), h4⟩
theorem Mc.Ok.lim {m : Mc} (h : m.Ok) : LimLs m.t := h.t.lim
theorem Mc.Ok.step {m : Mc} {e : En} (h : m.Ok) (hc : e.c.Fits) : (m.step e).m.Ok := by
 unfold Mc.step
 by_cases hk : (Tb.look m.t e.s e.q).k = 0
 · rw [if_pos hk]
   have hf := Ob.apply_fits (c := e.c) h.o h.lk
   have hn : Tb.named e.s e.q := by
    unfold Tb.look at hk
    split at hk
    · assumption
    · simp at hk
   have hl : m.t.length < 8 \/ (Tb.here m.t e.s).isSome = true := by
    unfold Tb.look at hk
    rw [if_pos hn] at hk
    cases hh : Tb.here m.t e.s with
    | some l => right; rfl
    | none =>
      left
      rw [hh] at hk
      simp only [] at hk
      split at hk
      · simp at hk
      · omega
   refine ⟨h.o.apply hc, hf.lk, Tb.Ok.put (l := ⟨e.s, e.q, _, _, _⟩) h.t (by have := h.t8; omega) hn hf.v (Ob.apply_vb h.o), ?_, ?_⟩
   · show (Tb.put m.t ⟨e.s, e.q, _, _, _⟩).length <= 8
     rw [Tb.length_put h.t.rises]
     have := h.t8
     split
     · exact this
     · rename_i h2
       rcases hl with h3 | h3
       · omega
       · exact absurd h3 h2
   · intro l hl
     rcases Tb.mem_put hl with rfl | hl
     · have := hf.e; have := hf.n
       simp only []
       omega
     · exact h.te l hl
 · rw [if_neg hk]; exact h
theorem Mc.step_v {m : Mc} {e : En} (h : m.Ok) : ((m.step e).v.length <= 16) /\ ∀ x ∈ (m.step e).v, x < 256 := by
 unfold Mc.step
 by_cases hk : (Tb.look m.t e.s e.q).k = 0
 · rw [if_pos hk]
   exact ⟨(Ob.apply_fits (c := e.c) h.o h.lk).v, Ob.apply_vb h.o⟩
 · rw [if_neg hk]
   refine ⟨?_, Tb.look_vb h.t _ _⟩
   show (Tb.look m.t e.s e.q).v.length <= 16
   unfold Tb.look
   split
   · split
     · rename_i l hl
       split
       · simp
       · split
         · exact (h.t.each l (List.mem_of_find?_eq_some hl)).2.1
         · simp
     · split <;> simp
   · simp
theorem apply_zero (s : Ob) : s.apply ⟨0, 0, [], [], []⟩ = ⟨s, 7, [], 0⟩ := by unfold Ob.apply; simp
theorem Cm.Fits.zero : Cm.Fits ⟨0, 0, [], [], []⟩ := ⟨⟨by simp, by simp⟩, ⟨by simp, by simp⟩, ⟨by simp, by simp⟩⟩
theorem RdC.zero (w : World) (B : Nat) : RdC w B ⟨none, 0, none, 0, none, 0⟩ ⟨0, 0, [], [], []⟩ := ⟨Rd.none_ _ _ _, Rd.none_ _ _ _, Rd.none_ _ _ _⟩
def chainB {α : Type} (lt : α -> α -> Bool) : List α -> Bool
 | [] => true
 | [_] => true
 | a :: b :: r => lt a b && chainB lt (b :: r)
theorem chainB_snoc {α : Type} (lt : α -> α -> Bool) (l : List α) (x : α) : chainB lt (l ++ [x]) = (chainB lt l && (match l.getLast? with | none => true | some y => lt y x)) := by
 induction l with
 | nil => rfl
 | cons a l ih =>
   cases l with
   | nil => simp [chainB]
   | cons b r =>
     simp only [List.cons_append, chainB] at ih |-
     rw [ih]
     simp only [List.getLast?_cons_cons, Bool.and_assoc]
theorem chainB_pairwise {α : Type} {lt : α -> α -> Bool} (ht : ∀ {a b c}, lt a b = true -> lt b c = true -> lt a c = true) (l : List α) : chainB lt l = true ↔ l.Pairwise (fun a b => lt a b = true) := by
 induction l with
 | nil => simp [chainB]
 | cons a l ih =>
   cases l with
   | nil => simp [chainB]
   | cons b r =>
     simp only [chainB, Bool.and_eq_true]
     rw [ih, List.pairwise_cons (a := a)]
     constructor
     · rintro ⟨h1, h2⟩
       refine ⟨fun c hc => ?_, h2⟩
       rcases List.mem_cons.1 hc with rfl | hc
       · exact h1
       · exact ht h1 ((List.pairwise_cons.1 h2).1 c hc)
     · rintro ⟨h1, h2⟩
       exact ⟨h1 b (by simp), h2⟩
def encQ (qs : List (List Nat)) : List Nat := qs.flatMap Pk.encB
def encP (ps : List Pr) : List Nat := ps.flatMap fun p => Pk.encB p.1 ++ Pk.encB p.2
def encL1 (l : Ls) : List Nat := Pk.enc (Pk.held l.s) ++ (Pk.enc (Pk.held l.q) ++ (Pk.enc (Pk.held l.e) ++ (Pk.enc (Pk.held (l.n + 1)) ++ Pk.encB l.v)))
def encT (ls : List Ls) : List Nat := ls.flatMap encL1
def encN (n : Nat) : List Nat := Pk.enc (Pk.held (n : Int))
def Mc.enc (m : Mc) : List Nat := Pk.encB m.o.reg ++ (encN m.o.q.length ++ (encQ m.o.q ++ (encN m.o.lk.length ++ (Pk.encs m.o.lk ++ (encN m.o.mp.length ++ (encP m.o.mp ++ (encN m.t.length ++ encT m.t)))))))
def En.enc (e : En) : List Nat := Pk.enc (Pk.held e.s) ++ (Pk.enc (Pk.held e.q) ++ (Pk.enc (Pk.held e.c.kind) ++ (Pk.enc (Pk.held e.c.who) ++ (Pk.encB e.c.key ++ (Pk.encB e.c.val ++ Pk.encB e.c.old)))))
theorem encQ_snoc (qs : List (List Nat)) (x : List Nat) : encQ (qs ++ [x]) = encQ qs ++ Pk.encB x := by simp [encQ]
theorem encP_snoc (ps : List Pr) (p : Pr) : encP (ps ++ [p]) = encP ps ++ Pk.encB p.1 ++ Pk.encB p.2 := by simp [encP]
theorem encT_snoc (ls : List Ls) (l : Ls) : encT (ls ++ [l]) = encT ls ++ Pk.enc (Pk.held l.s) ++ Pk.enc (Pk.held l.q) ++ Pk.enc (Pk.held l.e) ++ Pk.enc (Pk.held (l.n + 1)) ++ Pk.encB l.v := by simp [encT, encL1]
theorem encB_length (x : List Nat) : (Pk.encB x).length <= x.length + 9 := by
 unfold Pk.encB; have := (Pk.enc_length x.length).2; simp; omega
theorem encN_length (n : Nat) : (encN n).length <= 9 := (Pk.enc_length _).2
theorem encQ_length {qs : List (List Nat)} (h : ∀ x ∈ qs, x.length <= 16) : (encQ qs).length <= 25 * qs.length := by
 induction qs with
 | nil => simp [encQ]
 | cons x qs ih =>
   have h1 := ih fun y hy => h y (List.mem_cons_of_mem _ hy)
   have h2 := h x (by simp)
   have h3 := encB_length x
   unfold encQ at h1 |-
   rw [List.flatMap_cons, List.length_append, List.length_cons]; omega
theorem encP_length {ps : List Pr} (h : ∀ p ∈ ps, p.1.length <= 8 /\ p.2.length <= 16) : (encP ps).length <= 42 * ps.length := by
 induction ps with
 | nil => simp [encP]
 | cons p ps ih =>
   have h1 := ih fun y hy => h y (List.mem_cons_of_mem _ hy)
   have h2 := h p (by simp)
   have h3 := encB_length p.1
   have h4 := encB_length p.2
   unfold encP at h1 |-
   rw [List.flatMap_cons, List.length_append, List.length_append, List.length_cons]; omega
theorem encT_length {ls : List Ls} (h : ∀ l ∈ ls, l.v.length <= 16) : (encT ls).length <= 61 * ls.length := by
 induction ls with
 | nil => simp [encT]
 | cons l ls ih =>
   have h1 := ih fun y hy => h y (List.mem_cons_of_mem _ hy)
   have h2 := h l (by simp)
   have h3 := encB_length l.v
   have k1 := (Pk.enc_length (Pk.held l.s)).2
   have k2 := (Pk.enc_length (Pk.held l.q)).2
   have k3 := (Pk.enc_length (Pk.held l.e)).2
   have k4 := (Pk.enc_length (Pk.held (l.n + 1))).2
   unfold encT encL1 at h1 |-
   rw [List.flatMap_cons, List.length_append, List.length_append, List.length_append, List.length_append, List.length_append, List.length_cons]; omega
def getQ : Nat -> Pk.St -> List (List Nat) × Pk.St
 | 0, s => ([], s)
 | k + 1, s => (Pk.bytV s 16 :: (getQ k (Pk.bytS s 16)).1, (getQ k (Pk.bytS s 16)).2)
def getI : Nat -> Pk.St -> List Int × Pk.St
 | 0, s => ([], s)
 | k + 1, s => ((Pk.numV s 999 : Int) :: (getI k (Pk.numS s 999)).1, (getI k (Pk.numS s 999)).2)
def getP1 (s : Pk.St) : Pr × Pk.St := ((Pk.bytV s 8, Pk.bytV (Pk.bytS s 8) 16), Pk.bytS (Pk.bytS s 8) 16)
def getP : Nat -> Pk.St -> List Pr × Pk.St
 | 0, s => ([], s)
 | k + 1, s => ((getP1 s).1 :: (getP k (getP1 s).2).1, (getP k (getP1 s).2).2)
def getT1 (s : Pk.St) : Ls × Pk.St :=
 (⟨Pk.numV s 1073741824, Pk.numV (Pk.numS s 1073741824) 1073741824, Pk.numV (Pk.numS (Pk.numS s 1073741824) 1073741824) 10,
   Pk.bytV (Pk.numS (Pk.numS (Pk.numS (Pk.numS s 1073741824) 1073741824) 10) 1073741825) 16, (Pk.numV (Pk.numS (Pk.numS (Pk.numS s 1073741824) 1073741824) 10) 1073741825 : Int) - 1⟩,
  Pk.bytS (Pk.numS (Pk.numS (Pk.numS (Pk.numS s 1073741824) 1073741824) 10) 1073741825) 16)
def getT : Nat -> Pk.St -> List Ls × Pk.St
 | 0, s => ([], s)
 | k + 1, s => ((getT1 s).1 :: (getT k (getT1 s).2).1, (getT k (getT1 s).2).2)
def stQ (s : Pk.St) : List (List Nat) × Pk.St := getQ (Pk.numV s 8) (Pk.numS s 8)
def stI (s : Pk.St) : List Int × Pk.St := getI (Pk.numV s 5) (Pk.numS s 5)
def stP (s : Pk.St) : List Pr × Pk.St := getP (Pk.numV s 8) (Pk.numS s 8)
def stT (s : Pk.St) : List Ls × Pk.St := getT (Pk.numV s 8) (Pk.numS s 8)
def getO (s : Pk.St) : Ob × Pk.St :=
 (⟨Pk.bytV s 16, (stQ (Pk.bytS s 16)).1, (stI (stQ (Pk.bytS s 16)).2).1, (stP (stI (stQ (Pk.bytS s 16)).2).2).1⟩, (stP (stI (stQ (Pk.bytS s 16)).2).2).2)
def Mc.get (s : Pk.St) : Mc × Pk.St := (⟨(getO s).1, (stT (getO s).2).1⟩, (stT (getO s).2).2)
def okP (ps : List Pr) : Bool := chainB (fun p q => Mp.ltB p.1 q.1) ps
def okT (ls : List Ls) : Bool := ls.all (fun l => decide (Tb.named l.s l.q)) && chainB (fun a b => decide (a.s < b.s)) ls
def Mc.wf (m : Mc) : Bool := decide m.o.lk.Nodup && okP m.o.mp && okT m.t
def Mc.dec (l : List Nat) : Option Mc := if (Mc.get (some l)).1.wf = true /\ (Mc.get (some l)).2 = some [] then some (Mc.get (some l)).1 else none
def En.get (s : Pk.St) : En × Pk.St :=
 let s1 := Pk.numS s 1073741824
 let s2 := Pk.numS s1 1073741824
 let s3 := Pk.numS s2 1073741824
 let s4 := Pk.numS s3 1073741824
 let s5 := Pk.bytS s4 32
 let s6 := Pk.bytS s5 32
 (⟨Pk.numV s 1073741824, Pk.numV s1 1073741824, ⟨Pk.numV s2 1073741824, Pk.numV s3 1073741824, Pk.bytV s4 32, Pk.bytV s5 32, Pk.bytV s6 32⟩⟩, Pk.bytS s6 32)
def En.zero : En := ⟨0, 0, ⟨0, 0, [], [], []⟩⟩
def En.read (s : Pk.St) : En := if (En.get s).2 = none then En.zero else (En.get s).1
theorem num_of_enc {n : Nat} {m : Int} {rest : List Nat} (h : n <= Pk.top) (hm : n <= Pk.held m) : Pk.numV (some (Pk.enc n ++ rest)) m = n /\ Pk.numS (some (Pk.enc n ++ rest)) m = some rest := Pk.numV_is (Pk.numN_enc h rest m hm)
theorem num_of_encI {z : Int} {m : Int} {rest : List Nat} (h0 : 0 <= z) (hm : z <= m) (ht : m <= 4611686018427387904) : (Pk.numV (some (Pk.enc (Pk.held z) ++ rest)) m : Int) = z /\ Pk.numS (some (Pk.enc (Pk.held z) ++ rest)) m = some rest := by
 have e : (Pk.held z : Int) = z := by unfold Pk.held Pk.top; omega
 have h1 := num_of_enc (n := Pk.held z) (m := m) (rest := rest) (Pk.held_le z) (by unfold Pk.held Pk.top; omega)
 exact ⟨by rw [h1.1, e], h1.2⟩
theorem num_of_encN {n : Nat} {m : Int} {rest : List Nat} (hm : (n : Int) <= m) (ht : m <= 4611686018427387904) : Pk.numV (some (encN n ++ rest)) m = n /\ Pk.numS (some (encN n ++ rest)) m = some rest := by
 have := num_of_encI (z := (n : Int)) (m := m) (rest := rest) (by omega) hm ht
 exact ⟨by have := this.1; unfold encN; omega, this.2⟩
theorem byt_of_enc {x : List Nat} {m : Int} {rest : List Nat} (h : (x.length : Int) <= m) (ht : m <= 1000) : Pk.bytV (some (Pk.encB x ++ rest)) m = x /\ Pk.bytS (some (Pk.encB x ++ rest)) m = some rest :=
 Pk.bytV_is (Pk.bytN_enc x rest m (by unfold Pk.top; omega) (by unfold Pk.held Pk.top; omega))
theorem getQ_enc (qs : List (List Nat)) (rest : List Nat) (h : ∀ x ∈ qs, x.length <= 16) : getQ qs.length (some (encQ qs ++ rest)) = (qs, some rest) := by
 induction qs with
 | nil => rfl
 | cons x qs ih =>
   have hb := byt_of_enc (x := x) (m := 16) (rest := encQ qs ++ rest) (by have := h x (by simp); omega) (by omega)
   have ih := ih fun y hy => h y (List.mem_cons_of_mem _ hy)
   rw [show encQ (x :: qs) ++ rest = Pk.encB x ++ (encQ qs ++ rest) by simp [encQ]]
   simp only [List.length_cons, getQ]
   rw [hb.1, hb.2, ih]
theorem getI_enc (zs : List Int) (rest : List Nat) (h : ∀ z ∈ zs, 0 <= z /\ z <= 999) : getI zs.length (some (Pk.encs zs ++ rest)) = (zs, some rest) := by
 induction zs with
 | nil => rfl
 | cons z zs ih =>
   have hz := h z (by simp)
   have hb := num_of_encI (z := z) (m := 999) (rest := Pk.encs zs ++ rest) hz.1 hz.2 (by omega)
   have ih := ih fun y hy => h y (List.mem_cons_of_mem _ hy)
   rw [show Pk.encs (z :: zs) ++ rest = Pk.enc (Pk.held z) ++ (Pk.encs zs ++ rest) by simp [Pk.encs]]
   simp only [List.length_cons, getI]
   rw [hb.1, hb.2, ih]
theorem getP_enc (ps : List Pr) (rest : List Nat) (h : ∀ p ∈ ps, p.1.length <= 8 /\ p.2.length <= 16) : getP ps.length (some (encP ps ++ rest)) = (ps, some rest) := by
 induction ps with
 | nil => rfl
 | cons p ps ih =>
   have hp := h p (by simp)
   have h1 := byt_of_enc (x := p.1) (m := 8) (rest := Pk.encB p.2 ++ (encP ps ++ rest)) (by omega) (by omega)
   have h2 := byt_of_enc (x := p.2) (m := 16) (rest := encP ps ++ rest) (by omega) (by omega)
   have ih := ih fun y hy => h y (List.mem_cons_of_mem _ hy)
   rw [show encP (p :: ps) ++ rest = Pk.encB p.1 ++ (Pk.encB p.2 ++ (encP ps ++ rest)) by simp [encP]]
   simp only [List.length_cons, getP, getP1]
   rw [h1.1, h1.2, h2.1, h2.2, ih]
theorem getT_enc (ls : List Ls) (rest : List Nat) (h : ∀ l ∈ ls, Tb.named l.s l.q /\ l.v.length <= 16) (he : ∀ l ∈ ls, 0 <= l.e /\ l.e <= 10 /\ -1 <= l.n /\ l.n <= 1073741824) : getT ls.length (some (encT ls ++ rest)) = (ls, some rest) := by
 induction ls with
 | nil => rfl
 | cons l ls ih =>
   obtain ⟨⟨hs1, hq1, hs2, hq2⟩, hv⟩ := h l (by simp)
   obtain ⟨he1, he2, hn1, hn2⟩ := he l (by simp)
   have ih := ih (fun y hy => h y (List.mem_cons_of_mem _ hy)) (fun y hy => he y (List.mem_cons_of_mem _ hy))
   have e : encT (l :: ls) ++ rest = Pk.enc (Pk.held l.s) ++ (Pk.enc (Pk.held l.q) ++ (Pk.enc (Pk.held l.e) ++ (Pk.enc (Pk.held (l.n + 1)) ++ (Pk.encB l.v ++ (encT ls ++ rest))))) := by simp [encT, encL1]
   have k1 := num_of_encI (z := l.s) (m := 1073741824) (rest := Pk.enc (Pk.held l.q) ++ (Pk.enc (Pk.held l.e) ++ (Pk.enc (Pk.held (l.n + 1)) ++ (Pk.encB l.v ++ (encT ls ++ rest))))) (by omega) hs2 (by omega)
   have k2 := num_of_encI (z := l.q) (m := 1073741824) (rest := Pk.enc (Pk.held l.e) ++ (Pk.enc (Pk.held (l.n + 1)) ++ (Pk.encB l.v ++ (encT ls ++ rest)))) (by omega) hq2 (by omega)
   have k3 := num_of_encI (z := l.e) (m := 10) (rest := Pk.enc (Pk.held (l.n + 1)) ++ (Pk.encB l.v ++ (encT ls ++ rest))) he1 he2 (by omega)
   have k4 := num_of_encI (z := l.n + 1) (m := 1073741825) (rest := Pk.encB l.v ++ (encT ls ++ rest)) (by omega) (by omega) (by omega)
   have k5 := byt_of_enc (x := l.v) (m := 16) (rest := encT ls ++ rest) (by omega) (by omega)
   rw [e]
   simp only [List.length_cons, getT, getT1]
   rw [k1.1, k1.2, k2.1, k2.2, k3.1, k3.2, k4.1, k4.2, k5.1, k5.2, ih]
   simp
theorem Mc.Ok.wf {m : Mc} (h : m.Ok) : m.wf = true := by
 unfold Mc.wf okP okT
 have hp : chainB (fun p q : Pr => Mp.ltB p.1 q.1) m.o.mp = true := (chainB_pairwise (lt := fun p q : Pr => Mp.ltB p.1 q.1) (fun h1 h2 => Mp.ltB_trans h1 h2) _).2 h.o.mp.rise
 rw [decide_eq_true h.o.lkn, hp]
 have h1 : chainB (fun a b : Ls => decide (a.s < b.s)) m.t = true := by
  rw [chainB_pairwise (by simp; intro a b c; omega)]
  exact h.t.rises.imp fun h => by simpa using h
 rw [h1]
 simp
 exact fun l hl => (h.t.each l hl).1
theorem Mc.get_enc {m : Mc} (h : m.Ok) (rest : List Nat) : Mc.get (some (m.enc ++ rest)) = (m, some rest) := by
 have e : m.enc ++ rest = Pk.encB m.o.reg ++ (encN m.o.q.length ++ (encQ m.o.q ++ (encN m.o.lk.length ++ (Pk.encs m.o.lk ++ (encN m.o.mp.length ++ (encP m.o.mp ++ (encN m.t.length ++ (encT m.t ++ rest)))))))) := by
  unfold Mc.enc; simp only [List.append_assoc]
 have k0 := byt_of_enc (x := m.o.reg) (m := 16) (rest := encN m.o.q.length ++ (encQ m.o.q ++ (encN m.o.lk.length ++ (Pk.encs m.o.lk ++ (encN m.o.mp.length ++ (encP m.o.mp ++ (encN m.t.length ++ (encT m.t ++ rest)))))))) (by have := h.o.reg; omega) (by omega)
 have k1 := num_of_encN (n := m.o.q.length) (m := 8) (rest := encQ m.o.q ++ (encN m.o.lk.length ++ (Pk.encs m.o.lk ++ (encN m.o.mp.length ++ (encP m.o.mp ++ (encN m.t.length ++ (encT m.t ++ rest))))))) (by have := h.o.ql; omega) (by omega)
 have k2 := num_of_encN (n := m.o.lk.length) (m := 5) (rest := Pk.encs m.o.lk ++ (encN m.o.mp.length ++ (encP m.o.mp ++ (encN m.t.length ++ (encT m.t ++ rest))))) (by have := h.o.lkl; omega) (by omega)
 have k3 := num_of_encN (n := m.o.mp.length) (m := 8) (rest := encP m.o.mp ++ (encN m.t.length ++ (encT m.t ++ rest))) (by have := h.o.mp.few; omega) (by omega)
 have k4 := num_of_encN (n := m.t.length) (m := 8) (rest := encT m.t ++ rest) (by have := h.t8; omega) (by omega)
 have g1 := getQ_enc m.o.q (encN m.o.lk.length ++ (Pk.encs m.o.lk ++ (encN m.o.mp.length ++ (encP m.o.mp ++ (encN m.t.length ++ (encT m.t ++ rest)))))) h.o.qv
 have g2 := getI_enc m.o.lk (encN m.o.mp.length ++ (encP m.o.mp ++ (encN m.t.length ++ (encT m.t ++ rest)))) h.lk
 have g3 := getP_enc m.o.mp (encN m.t.length ++ (encT m.t ++ rest)) h.o.mp.len
 have g4 := getT_enc m.t rest (fun l hl => ⟨(h.t.each l hl).1, (h.t.each l hl).2.1⟩) h.te
 rw [e]
 unfold Mc.get getO stQ stI stP stT
 rw [k0.1, k0.2, k1.1, k1.2, g1]
 simp only []
 rw [k2.1, k2.2, g2]
 simp only []
 rw [k3.1, k3.2, g3]
 simp only []
 rw [k4.1, k4.2, g4]
theorem Mc.dec_enc {m : Mc} (h : m.Ok) : Mc.dec m.enc = some m := by
 have e := Mc.get_enc h []
 rw [List.append_nil] at e
 unfold Mc.dec
 rw [e, if_pos ⟨h.wf, rfl⟩]
def BytesSt (s : Pk.St) : Prop := ∀ l, s = some l -> ∀ x ∈ l, x < 256
theorem numN_cases (s : Pk.St) (m : Int) : (Pk.numV s m = 0 /\ Pk.numS s m = none) \/ ∃ l, s = some l /\ Pk.numV s m = (Pk.first l).1 /\ Pk.numV s m <= Pk.held m /\ Pk.numS s m = some (l.drop (Pk.first l).2) := by
 cases s with
 | none => left; exact ⟨rfl, rfl⟩
 | some l =>
   by_cases h : (Pk.first l).2 = 0 \/ Pk.held m < (Pk.first l).1
   · left
     refine Pk.numV_no ?_
     show Pk.rNum l (Pk.held m) = none
     unfold Pk.rNum; rw [if_pos h]
   · right
     have := Pk.numV_is (s := some l) (m := m) (n := (Pk.first l).1) (l := l.drop (Pk.first l).2) (by show Pk.rNum l (Pk.held m) = _; unfold Pk.rNum; rw [if_neg h])
     refine ⟨l, rfl, this.1, ?_, this.2⟩
     rw [this.1]
     omega
theorem numV_le (s : Pk.St) {m : Int} (hm : 0 <= m) : (Pk.numV s m : Int) <= m := by
 have hh : (Pk.held m : Int) <= m := by unfold Pk.held Pk.top; omega
 rcases numN_cases s m with h | ⟨l, _, _, h, _⟩
 · rw [h.1]; exact hm
 · omega
theorem numS_bytes {s : Pk.St} (h : BytesSt s) (m : Int) : BytesSt (Pk.numS s m) := by
 rcases numN_cases s m with h1 | ⟨l, h1, _, _, h2⟩
 · rw [h1.2]; intro l hl; cases hl
 · rw [h2]
   intro l' hl'
   injection hl' with hl'
   subst hl'
   exact fun x hx => h l h1 x (List.mem_of_mem_drop hx)
theorem bytV_facts {s : Pk.St} (h : BytesSt s) {m : Int} (hm : 0 <= m) : ((Pk.bytV s m).length : Int) <= m /\ (∀ x ∈ Pk.bytV s m, x < 256) /\ BytesSt (Pk.bytS s m) := by
 have hn := numV_le s hm
 have hb := numS_bytes h m
 by_cases hl : ((Pk.numS s m).getD []).length < Pk.numV s m
 · obtain ⟨e1, e2⟩ := Pk.byt_no hl
   rw [e1, e2]
   exact ⟨by simpa using hm, by simp, fun l hl => by cases hl⟩
 · obtain ⟨e1, e2⟩ := Pk.byt_of hl
   rw [e1, e2]
   cases hs : Pk.numS s m with
   | none => exact ⟨by simpa using hm, by simp, fun l hl => by cases hl⟩
   | some l =>
     refine ⟨by simp only [Option.getD_some, List.length_take]; omega, fun x hx => hb l hs x (List.mem_of_mem_take (by simpa using hx)), ?_⟩
     intro l' hl'
     simp only [Option.map_some] at hl'
     injection hl' with hl'
     subst hl'
     exact fun x hx => hb l hs x (List.mem_of_mem_drop hx)
theorem getQ_facts (k : Nat) {s : Pk.St} (h : BytesSt s) : (getQ k s).1.length = k /\ (∀ x ∈ (getQ k s).1, x.length <= 16 /\ ∀ y ∈ x, y < 256) /\ BytesSt (getQ k s).2 := by
 induction k generalizing s with
 | zero => exact ⟨rfl, fun x hx => (by cases hx), h⟩
 | succ k ih =>
   obtain ⟨b1, b2, b3⟩ := bytV_facts h (m := 16) (by omega)
   obtain ⟨i1, i2, i3⟩ := ih b3
   refine ⟨by simp only [getQ, List.length_cons, i1], fun x hx => ?_, i3⟩
   simp only [getQ] at hx
   rcases List.mem_cons.1 hx with rfl | hx
   · exact ⟨by omega, b2⟩
   · exact i2 x hx
theorem getI_facts (k : Nat) {s : Pk.St} (h : BytesSt s) : (getI k s).1.length = k /\ (∀ z ∈ (getI k s).1, 0 <= z /\ z <= 999) /\ BytesSt (getI k s).2 := by
 induction k generalizing s with
 | zero => exact ⟨rfl, fun x hx => (by cases hx), h⟩
 | succ k ih =>
   have b1 := numV_le s (m := 999) (by omega)
   obtain ⟨i1, i2, i3⟩ := ih (numS_bytes h 999)
   refine ⟨by simp only [getI, List.length_cons, i1], fun x hx => ?_, i3⟩
   simp only [getI] at hx
   rcases List.mem_cons.1 hx with rfl | hx
   · omega
   · exact i2 x hx
theorem getP_facts (k : Nat) {s : Pk.St} (h : BytesSt s) : (getP k s).1.length = k /\ (∀ p ∈ (getP k s).1, (p.1.length <= 8 /\ p.2.length <= 16) /\ (∀ y ∈ p.1, y < 256) /\ ∀ y ∈ p.2, y < 256) /\ BytesSt (getP k s).2 := by
 induction k generalizing s with
 | zero => exact ⟨rfl, fun x hx => (by cases hx), h⟩
 | succ k ih =>
   obtain ⟨b1, b2, b3⟩ := bytV_facts h (m := 8) (by omega)
   obtain ⟨c1, c2, c3⟩ := bytV_facts b3 (m := 16) (by omega)
   obtain ⟨i1, i2, i3⟩ := ih c3
   refine ⟨by simp only [getP, getP1, List.length_cons, i1], fun x hx => ?_, i3⟩
   simp only [getP] at hx
   rcases List.mem_cons.1 hx with rfl | hx
   · simp only [getP1]
     exact ⟨⟨by omega, by omega⟩, b2, c2⟩
   · exact i2 x hx
theorem getT_facts (k : Nat) {s : Pk.St} (h : BytesSt s) : (getT k s).1.length = k /\ (∀ l ∈ (getT k s).1, (0 <= l.s /\ l.s <= 1073741824 /\ 0 <= l.q /\ l.q <= 1073741824) /\ (0 <= l.e /\ l.e <= 10 /\ -1 <= l.n /\ l.n <= 1073741824) /\ l.v.length <= 16 /\ ∀ y ∈ l.v, y < 256) /\ BytesSt (getT k s).2 := by
 induction k generalizing s with
 | zero => exact ⟨rfl, fun x hx => (by cases hx), h⟩
 | succ k ih =>
   have n1 := numV_le s (m := 1073741824) (by omega)
   have s1 := numS_bytes h 1073741824
   have n2 := numV_le (Pk.numS s 1073741824) (m := 1073741824) (by omega)
   have s2 := numS_bytes s1 1073741824
   have n3 := numV_le (Pk.numS (Pk.numS s 1073741824) 1073741824) (m := 10) (by omega)
   have s3 := numS_bytes s2 10
   have n4 := numV_le (Pk.numS (Pk.numS (Pk.numS s 1073741824) 1073741824) 10) (m := 1073741825) (by omega)
   have s4 := numS_bytes s3 1073741825
   obtain ⟨c1, c2, c3⟩ := bytV_facts s4 (m := 16) (by omega)
   obtain ⟨i1, i2, i3⟩ := ih c3
   refine ⟨by simp only [getT, getT1, List.length_cons, i1], fun x hx => ?_, i3⟩
   simp only [getT] at hx
   rcases List.mem_cons.1 hx with rfl | hx
   · simp only [getT1]
     exact ⟨⟨by omega, by omega, by omega, by omega⟩, ⟨by omega, by omega, by omega, by omega⟩, by omega, c2⟩
   · exact i2 x hx
structure Mc.Near (m : Mc) : Prop where
 reg : m.o.reg.length <= 16 /\ ∀ x ∈ m.o.reg, x < 256
 ql : m.o.q.length <= 8
 q : ∀ x ∈ m.o.q, x.length <= 16 /\ ∀ y ∈ x, y < 256
 ll : m.o.lk.length <= 5
 lk : ∀ z ∈ m.o.lk, 0 <= z /\ z <= 999
 ml : m.o.mp.length <= 8
 mp : ∀ p ∈ m.o.mp, (p.1.length <= 8 /\ p.2.length <= 16) /\ (∀ y ∈ p.1, y < 256) /\ ∀ y ∈ p.2, y < 256
 tl : m.t.length <= 8
 t : ∀ l ∈ m.t, (0 <= l.s /\ l.s <= 1073741824 /\ 0 <= l.q /\ l.q <= 1073741824) /\ (0 <= l.e /\ l.e <= 10 /\ -1 <= l.n /\ l.n <= 1073741824) /\ l.v.length <= 16 /\ ∀ y ∈ l.v, y < 256
theorem Mc.get_near {s : Pk.St} (h : BytesSt s) : (Mc.get s).1.Near := by
 obtain ⟨a1, a2, a3⟩ := bytV_facts h (m := 16) (by omega)
 have n1 := numV_le (Pk.bytS s 16) (m := 8) (by omega)
 obtain ⟨q1, q2, q3⟩ := getQ_facts (Pk.numV (Pk.bytS s 16) 8) (numS_bytes a3 8)
 have n2 := numV_le (stQ (Pk.bytS s 16)).2 (m := 5) (by omega)
 obtain ⟨i1, i2, i3⟩ := getI_facts (Pk.numV (stQ (Pk.bytS s 16)).2 5) (numS_bytes (s := (stQ (Pk.bytS s 16)).2) q3 5)
 have n3 := numV_le (stI (stQ (Pk.bytS s 16)).2).2 (m := 8) (by omega)
 obtain ⟨p1, p2, p3⟩ := getP_facts (Pk.numV (stI (stQ (Pk.bytS s 16)).2).2 8) (numS_bytes (s := (stI (stQ (Pk.bytS s 16)).2).2) i3 8)
 have n4 := numV_le (stP (stI (stQ (Pk.bytS s 16)).2).2).2 (m := 8) (by omega)
 obtain ⟨t1, t2, t3⟩ := getT_facts (Pk.numV (stP (stI (stQ (Pk.bytS s 16)).2).2).2 8) (numS_bytes (s := (stP (stI (stQ (Pk.bytS s 16)).2).2).2) p3 8)
 exact ⟨⟨by show (Pk.bytV s 16).length <= 16; omega, a2⟩, by show (stQ (Pk.bytS s 16)).1.length <= 8; unfold stQ; omega, q2, by show (stI (stQ (Pk.bytS s 16)).2).1.length <= 5; unfold stI at *; omega, i2, by show (stP (stI (stQ (Pk.bytS s 16)).2).2).1.length <= 8; unfold stP at *; omega, p2, by show (stT (stP (stI (stQ (Pk.bytS s 16)).2).2).2).1.length <= 8; unfold stT at *; omega, t2⟩
theorem Mc.Near.ok {m : Mc} (h : m.Near) (hw : m.wf = true) : m.Ok := by
 unfold Mc.wf okP okT at hw
 simp only [Bool.and_eq_true, decide_eq_true_eq, List.all_eq_true] at hw
 obtain ⟨⟨h1, h2⟩, h3, h4⟩ := hw
 rw [chainB_pairwise (lt := fun p q : Pr => Mp.ltB p.1 q.1) (fun h1 h2 => Mp.ltB_trans h1 h2)] at h2
 rw [chainB_pairwise (by simp; intro a b c; omega)] at h4
 exact ⟨⟨h.reg.1, h.reg.2, h.ql, fun l hl => (h.q l hl).1, fun l hl => (h.q l hl).2, h.ll, h1, ⟨h2, h.ml, fun p hp => (h.mp p hp).1, fun p hp => (h.mp p hp).2⟩⟩, h.lk,
  ⟨h4.imp fun h => by simpa using h, by have := h.tl; omega, fun l hl => ⟨h3 l hl, (h.t l hl).2.2.1, (h.t l hl).2.2.2⟩⟩, h.tl, fun l hl => (h.t l hl).2.1⟩
theorem Mc.dec_ok {l : List Nat} (hb : ∀ x ∈ l, x < 256) {m : Mc} (h : Mc.dec l = some m) : m.Ok := by
 unfold Mc.dec at h
 split at h
 · rename_i hw
   injection h with h
   subst h
   exact (Mc.get_near (s := some l) (fun l' hl' => by injection hl' with hl'; subst hl'; exact hb)).ok hw.1
 · cases h
theorem Mc.dec_okD {l : List Nat} (hb : ∀ x ∈ l, x < 256) : ((Mc.dec l).getD Mc.zero).Ok := by
 cases h : Mc.dec l with
 | none => exact Mc.Ok.zero
 | some m => exact Mc.dec_ok hb h
theorem En.read_fits {s : Pk.St} (h : BytesSt s) : (En.read s).c.Fits /\ BytesSt (En.get s).2 := by
 have s1 := numS_bytes h 1073741824
 have s2 := numS_bytes s1 1073741824
 have s3 := numS_bytes s2 1073741824
 have s4 := numS_bytes s3 1073741824
 obtain ⟨a1, a2, a3⟩ := bytV_facts s4 (m := 32) (by omega)
 obtain ⟨b1, b2, b3⟩ := bytV_facts a3 (m := 32) (by omega)
 obtain ⟨c1, c2, c3⟩ := bytV_facts b3 (m := 32) (by omega)
 refine ⟨?_, c3⟩
 unfold En.read
 split
 · exact ⟨⟨by simp [En.zero], by simp [En.zero]⟩, ⟨by simp [En.zero], by simp [En.zero]⟩, ⟨by simp [En.zero], by simp [En.zero]⟩⟩
 · exact ⟨⟨by show (Pk.bytV _ 32).length <= 100; omega, a2⟩, ⟨by show (Pk.bytV _ 32).length <= 100; omega, b2⟩, ⟨by show (Pk.bytV _ 32).length <= 100; omega, c2⟩⟩
set_option maxHeartbeats 2000000 in
set_option maxRecDepth 100000 in
theorem refPairs_raw (ps : List Pr) (A : Option Addr) (n c B : Nat) (hn : n <= 100000) (hL : LimP ps) (w : World) (hr : RdP w B A n ps) :
 Calls Tryz.prog 100 #[.slice A n c] w (GotP w w ps) := by
 have HL := hD hL
 have HR := hD hr.fit
 have hlen := hr.length
 clear hr hL
 go_enter Tryz.func100, Tryz.ntmps100
 go_wp2_with fail
 go_loopw [3, 4] (fun s3 s4 wr => ∃ (k c' : Nat) (A' : Option Addr), k <= n /\ s4 = .int .i64 (k : Int) /\ s3 = .slice A' k c' /\ Hid (OwnP w wr A' k c' (ps.take k)) /\ Hid (Below w.heap.size w wr)) (fun _ s4 _ => n - (intOf s4).toNat)
 case atStart => exact ⟨0, 0, none, Nat.zero_le _, rfl, rfl, hD (by simpa using OwnP.nil w w), hD (Below.refl _ _)⟩
 case round =>
  obtain ⟨k, c', A', hk, rfl, rfl, HO, HB⟩ := hrel
  by_cases hlt : k < n
  · obtain ⟨b, o, p, A1, c1, A2, c2, rfl, hp, hcell1, hcell2, hrd1, hrd2⟩ := ((HR.out.below HB.out).fit).at hlt
    have hl1 : Lim 0 p.1.length := (HL.out p (List.mem_of_getElem? hp)).1
    have hl2 : Lim 0 p.2.length := (HL.out p (List.mem_of_getElem? hp)).2
    have hblt1 := World.block_lt_of_cell? _ _ hcell1
    have HC : Hid (∀ wx, Below wr.heap.size wr wx -> wx.cell? ⟨b, o + k * 2, none⟩ = some (.slice A1 p.1.length c1) /\ wx.cell? ⟨b, o + k * 2 + 1, none⟩ = some (.slice A2 p.2.length c2)) := hD (fun wx hb => ⟨(hb.cell (p := ⟨b, o + k * 2, none⟩) hblt1).trans hcell1, (hb.cell (p := ⟨b, o + k * 2 + 1, none⟩) hblt1).trans hcell2⟩)
    have HRD1 := hD hrd1
    have HRD2 := hD hrd2
    have HP := hD hp
    clear hrd1 hrd2 hp
    go_upto_region 5 with fail
    have hc0 := HC.out wr.drew (Below.refl _ _).drew
    obtain ⟨hcA, hcB⟩ := hc0
    go_region_law (first
     | (refine step_append_S (W := w) cellP (.tmp 11) (.tmp 25) rfl rfl (by rfl) (ownsRow_below hv1 ((Below.refl _ _).alloc lR _)) (by rfl) (Rd.twoAt _ _ _ _ rfl) (by intro u hu; simp at hu; rcases hu with rfl | rfl <;> rfl) (by omega) (by omega) (hB2.alloc hB2.size _) ?_
        intro A3 c3 w3 hown3 hB3 hg3)
     | (rw [if_pos (by kernel_rfl)]; go_simp; go_at_call_of 98 A1; refine (ownref_any (W := w) hl1 HRD1.out.drew HB.out.drew).mono ?_; rintro e w1 ⟨A4, c4, rfl, ho1, hB1, hb1⟩; obtain ⟨hcA, hcB⟩ := HC.out w1 ((Below.refl _ _).drew.trans hb1); go_simp)
     | (rw [if_pos (by kernel_rfl)]; go_simp; go_at_call_of 98 A2; refine (ownref_any (W := w) hl2 (HRD2.out.below ((Below.refl _ _).drew.trans hb1)) hB1).mono ?_; rintro e w2 ⟨A5, c5, rfl, ho2, hB2, hb2⟩; have ho1 := own_below ho1 hb2; obtain ⟨vs, hv1, hv2⟩ := (HO.out.below ((Below.refl _ _).drew.trans hb1)).below hb2; go_simp))
    all_goals go_wp2_with fail
    all_goals go_roundw
    all_goals first
     | (simp only [intOf]; omega)
     | (refine ⟨k + 1, c3, A3, by omega, by go_num, rfl, hD ?_, hD hB3⟩
        have b1 : Below w2.heap.size w2 (w2.alloc (.cells #[.slice A4 p.1.length c4, .slice A5 p.2.length c5] 81)) := (Below.refl _ _).alloc lR _
        refine ⟨vs ++ [.slice A4 p.1.length c4, .slice A5 p.2.length c5], hown3, ?_⟩
        rw [List.take_add_one, HP.out, flat_append]
        exact ((hv2.two ho1 ho2).below b1).grownP (ownsRow_below hv1 b1) hg3)
  · obtain rfl : k = n := by omega
    go_wp2_with fail
    go_ret
    have HO2 := HO.out
    rw [List.take_of_length_le (by omega)] at HO2
    subst hlen
    exact ⟨A', c', rfl, HO2, HB.out, HB.out⟩
theorem refPairs_any {W w : World} {ps : List Pr} {A : Option Addr} {n c B : Nat} (hn : n <= 100000) (hL : LimP ps) (hr : RdP w B A n ps) (hB : Below W.heap.size W w) :
 Calls Tryz.prog 100 #[.slice A n c] w (GotP W w ps) :=
 (refPairs_raw ps A n c B hn hL w hr).mono fun e w' h => GotP.of hB h
theorem keys_at {ps : List Pr} {k : Nat} {p : Pr} (h : ps[k]? = some p) : (Mp.keys ps)[k]? = some p.1 := by unfold Mp.keys; rw [List.getElem?_map, h]; rfl
theorem keys_length (ps : List Pr) : (Mp.keys ps).length = ps.length := by simp [Mp.keys]
theorem belowN_ {B : Nat} {a w : World} (h : Below B a w) (k : Nat) : Below B a (w.drewN k) := h.trans ⟨rfl, rfl, rfl, Nat.le_refl _, fun _ _ => rfl⟩
set_option maxHeartbeats 1000000 in
theorem refKey_any (w : World) {A A' : Option Addr} {n c n' c' B B' : Nat} {ps : List Pr} {k : List Nat} (hn : n <= 100000) (hb : BytesP ps) (hbk : ∀ x ∈ k, x < 256) (h : RdP w B A n ps) (h' : Rd w B' A' n' (bv k)) :
 Calls Tryz.prog 148 #[.slice A n c, .slice A' n' c'] w fun e w' => e = .returned (.int .i64 (Mp.place (Mp.keys ps) k)) /\ ∃ m, w' = w.drewN m := by
 have HL := hD h.length
 have H := hD h.fit
 have H' := hD h'.fit
 have HB := hD hb
 have HBK := hD hbk
 clear h h' hb hbk
 go_enter Tryz.func148, Tryz.ntmps148
 go_wp2
 go_loopw [5] (fun i wr => ∃ j : Nat, j <= n /\ i = .int .i64 j /\ Hid (∀ i, i < j -> (Mp.keys ps)[i]? ≠ some k) /\ ∃ m, wr = w.drewN m) (fun i _ => n - (intOf i).toNat)
 case atStart => exact ⟨0, Nat.zero_le _, rfl, hD (fun j hj => absurd hj (by omega)), 0, rfl⟩
 case round =>
  obtain ⟨j, hj, rfl, HS, m, hm⟩ := hrel
  have HM := hD hm
  by_cases hlt : j < n
  · obtain ⟨b, o, p, A1, c1, A2, c2, rfl, hp, hcell1, _, hrd1, _⟩ := H.out.at hlt
    have hc1 : wr.cell? ⟨b, o + j * 2, none⟩ = some (.slice A1 p.1.length c1) := by rw [hm]; exact hcell1
    have hv : IntKind.i64.wrap ((j : Int) + 1) = (j : Int) + 1 := IntWalk.i64_in _ (by omega)
    have hs1 : ∀ q, (convert 24 9 (.slice A1 p.1.length c1)).run Tryz.prog (wr.drewN q) = .ok (.string (strB p.1)) (wr.drewN q) := fun q => by rw [hm]; exact str_of (c := c1) ((hrd1.drewN m).drewN q)
    have hs2 : ∀ q, (convert 24 9 (.slice A' n' c')).run Tryz.prog (wr.drewN q) = .ok (.string (strB k)) (wr.drewN q) := fun q => by rw [hm]; exact str_of (c := c') ((H'.out.drewN m).drewN q)
    have hs3 := strL_eq (HB.out p (List.mem_of_getElem? hp)).1 HBK.out
    have HP := hD hp
    clear hp hcell1 hrd1 hm
    by_cases he : p.1 = k
    · have HE := hD (Mp.place_first (by rw [keys_at HP.out, he]) HS.out)
      rw [decide_eq_true he] at hs3
      clear he
      go_wp2
      go_quiet (fail)
      go_wp2
      go_ret
      exact ⟨ret_int HE.out.symm, m + nq, by rw [HM.out, World.drewN_drewN]⟩
    · rw [decide_eq_false he] at hs3
      have HNE := hD he
      clear he
      go_wp2
      go_quiet (fail)
      go_wp2
      go_roundw
      case rel =>
       refine ⟨j + 1, by omega, by go_num, hD (fun i hi => ?_), m + nq, by rw [HM.out, World.drewN_drewN]⟩
       rcases Nat.lt_or_ge i j with h1 | h1
       · exact HS.out i h1
       · obtain rfl : i = j := by omega
         rw [keys_at HP.out]
         intro h; injection h with h; exact HNE.out h
      case measure => simp [intOf]; omega
  · obtain rfl : j = n := by omega
    have HP := hD (Mp.place_none (s := Mp.keys ps) (x := k) (by rw [keys_length, HL.out]; exact HS.out))
    clear hm
    go_wp2
    go_ret
    exact ⟨ret_int HP.out.symm, m, HM.out⟩
theorem belowN_d {w : World} (m : Nat) : Below w.heap.size w (w.drewN m) := belowN_ (Below.refl _ _) m
theorem refGet_raw {w : World} {ps : List Pr} {k : List Nat} {A A' : Option Addr} {n c n' c' B B' : Nat} (hn : n <= 100000) (hL : LimP ps) (hb : BytesP ps) (hbk : ∀ x ∈ k, x < 256) (h : RdP w B A n ps) (h' : Rd w B' A' n' (bv k)) :
 Calls Tryz.prog 110 #[.slice A n c, .slice A' n' c'] w (GotR w w (Mp.getE ps k) (Mp.getV ps k) 0) := by
 have hlen := h.length
 have H := hD h.fit
 have H' := hD h'.fit
 have HL := hD hL
 have HB := hD hb
 have HBK := hD hbk
 have b0 : Below w.heap.size w (w.alloc (.cells zeroR 41)) := (Below.refl _ _).alloc lR _
 clear h h' hL hb hbk
 unfold Mp.getE Mp.getV
 by_cases hk : k ∈ Mp.keys ps
 · rw [if_pos hk, if_pos hk]
   obtain ⟨i, ei, hi, hix⟩ := Mp.place_lt hk
   rw [hix]
   have hin : i < n := by
    have h1 : i < (Mp.keys ps).length := by
     rcases Nat.lt_or_ge i (Mp.keys ps).length with h | h
     · exact h
     · rw [List.getElem?_eq_none h] at hi; cases hi
    rw [keys_length, hlen] at h1; exact h1
   obtain ⟨b, o, p, A1, c1, A2, c2, rfl, hp, _, hcell2, _, hrd2⟩ := H.out.at hin
   have hv : (ps[i]?.map (·.2)).getD [] = p.2 := by rw [hp]; rfl
   rw [hv]
   have hl2 : Lim 0 p.2.length := (HL.out p (List.mem_of_getElem? hp)).2
   have hlt2 := World.block_lt_of_cell? _ _ hcell2
   have HC : Hid (∀ wx, Below w.heap.size w wx -> wx.cell? ⟨b, o + i * 2 + 1, none⟩ = some (.slice A2 p.2.length c2)) := hD (fun wx hb => (hb.cell (p := ⟨b, o + i * 2 + 1, none⟩) hlt2).trans hcell2)
   have HRD := hD hrd2
   have HE := hD ei
   have h0 : (0 : Int) <= (i : Int) := by omega
   have h1 : (i : Int) < (n : Int) := by omega
   clear hv hix hi hcell2 hrd2 ei hp hk
   go_enter Tryz.func110, Tryz.ntmps110
   go_wp2_with fail
   refine (refKey_any _ (k := k) hn HB.out HBK.out (H.out.below b0) (H'.out.below b0)).mono ?_
   rintro e w1 ⟨rfl, m, rfl⟩
   rw [HE.out]
   have hc1 := HC.out _ (belowN_ b0 m)
   have HK := hD ((Blk.new w 41 zeroR).below (belowN_d m))
   go_wp2_with (first
    | (go_at_call 98; refine (ownref_any (W := w) hl2 (HRD.out.below (belowN_ b0 m)) (belowN_ b0 m)).mono ?_; rintro e w2 ⟨A3, c3, rfl, ho2, hB2, hb2⟩; have HK := hD (HK.out.below hb2); obtain ⟨x0, x1, x2, f0, f1, f2⟩ := three HK.out)
    | fail)
   obtain ⟨k1, k2, k3⟩ := put3 HK.out (.int .i64 0) (.slice A3 p.2.length c3) (.int .i64 0)
   refine bodyPost_ret (results_cell_row rfl _ _ _ _ _ _ _ rfl k1 Tryz.underlying41 rfl (by kernel_rfl)) rfl ?_
   have h3 := k2 w lR hB2
   exact ⟨A3, c3, rfl, k3 _ _ _ _ _ _ ho2 (by decide), h3, h3⟩
 · rw [if_neg hk, if_neg hk]
   have HE := hD (Mp.place_no hk)
   clear hk
   go_enter Tryz.func110, Tryz.ntmps110
   go_wp2_with fail
   refine (refKey_any _ (k := k) hn HB.out HBK.out (H.out.below b0) (H'.out.below b0)).mono ?_
   rintro e w1 ⟨rfl, m, rfl⟩
   rw [HE.out]
   have HK := hD ((Blk.new w 41 zeroR).below (belowN_d m))
   go_wp2_with (first
    | (go_at_call 95; refine (bad_any _ 5).mono ?_; rintro e w3 ⟨rfl, hb3⟩; unfold resV; have HK := hD (HK.out.below hb3); obtain ⟨x0, x1, x2, f0, f1, f2⟩ := three HK.out)
    | fail)
   obtain ⟨k1, k2, k3⟩ := put3 HK.out (.int .i64 5) (.slice none 0 0) (.int .i64 0)
   refine bodyPost_ret (results_cell_row rfl _ _ _ _ _ _ _ rfl k1 Tryz.underlying41 rfl (by kernel_rfl)) rfl ?_
   have hB3 := (belowN_ b0 m).trans (hb3.mono (belowN_ b0 m).size)
   have h3 := k2 w lR hB3
   exact ⟨none, 0, rfl, own_nil _ _, h3, h3⟩
theorem refGet_any {W w : World} {ps : List Pr} {k : List Nat} {A A' : Option Addr} {n c n' c' B B' : Nat} (hn : n <= 100000) (hL : LimP ps) (hb : BytesP ps) (hbk : ∀ x ∈ k, x < 256) (h : RdP w B A n ps) (h' : Rd w B' A' n' (bv k)) (hB : Below W.heap.size W w) :
 Calls Tryz.prog 110 #[.slice A n c, .slice A' n' c'] w (GotR W w (Mp.getE ps k) (Mp.getV ps k) 0) :=
 (refGet_raw hn hL hb hbk h h').mono fun e w' ⟨A, c, h1, h2, h3, h4⟩ => ⟨A, c, h1, more_ hB.size h2, hB.trans (h3.mono hB.size), h4⟩
theorem refKey_bel (w : World) {A A' : Option Addr} {n c n' c' B B' : Nat} {ps : List Pr} {k : List Nat} (hn : n <= 100000) (hb : BytesP ps) (hbk : ∀ x ∈ k, x < 256) (h : RdP w B A n ps) (h' : Rd w B' A' n' (bv k)) :
 Calls Tryz.prog 148 #[.slice A n c, .slice A' n' c'] w fun e w' => e = .returned (.int .i64 (Mp.place (Mp.keys ps) k)) /\ Below w.heap.size w w' :=
 (refKey_any w hn hb hbk h h').mono fun e w' ⟨h1, m, h2⟩ => ⟨h1, by rw [h2]; exact belowN_d m⟩
theorem Owns.take {W w : World} {vs : List Value} {qs : List (List Nat)} (h : Owns W w vs qs) (k : Nat) : Owns W w (vs.take k) (qs.take k) :=
 ⟨by simp [h.len], fun i l hl => by
   have hi : i < k := by
    rcases Nat.lt_or_ge i k with h' | h'
    · exact h'
    · rw [List.getElem?_eq_none (by simp; omega)] at hl; cases hl
   rw [List.getElem?_take_of_lt hi] at hl |-
   exact h.cell i l hl⟩
theorem Owns.drop {W w : World} {vs : List Value} {qs : List (List Nat)} (h : Owns W w vs qs) (k : Nat) : Owns W w (vs.drop k) (qs.drop k) :=
 ⟨by simp [h.len], fun i l hl => by rw [List.getElem?_drop] at hl |-; exact h.cell _ l hl⟩
theorem Owns.append {W w : World} {vs vs' : List Value} {qs qs' : List (List Nat)} (h : Owns W w vs qs) (h' : Owns W w vs' qs') : Owns W w (vs ++ vs') (qs ++ qs') :=
 ⟨by simp [h.len, h'.len], fun i l hl => by
   rcases Nat.lt_or_ge i qs.length with hi | hi
   · rw [List.getElem?_append_left hi] at hl
     rw [List.getElem?_append_left (by rw [h.len]; exact hi)]
     exact h.cell i l hl
   · rw [List.getElem?_append_right hi] at hl
     rw [List.getElem?_append_right (by rw [h.len]; exact hi), h.len]
     exact h'.cell _ l hl⟩
theorem flat_erase (ps : List Pr) (i : Nat) : flat (ps.eraseIdx i) = (flat ps).take (i * 2) ++ (flat ps).drop ((i + 1) * 2) := by
 rw [List.eraseIdx_eq_take_drop_succ, flat_append, flat_take, flat_drop]
theorem own_drew {w : World} {base n size : Nat} {e : TypeId} {v : Value} {vs : List Value} (h : w.ownsRow base e size v n vs) : w.drew.ownsRow base e size v n vs := h
set_option maxHeartbeats 2000000 in
set_option maxRecDepth 100000 in
theorem refDel_raw {w : World} {ps : List Pr} {k : List Nat} {A A' : Option Addr} {n c n' c' B B' : Nat} (hn : n <= 100000) (hL : LimP ps) (hb : BytesP ps) (hbk : ∀ x ∈ k, x < 256) (h : RdP w B A n ps) (h' : Rd w B' A' n' (bv k)) :
 Calls Tryz.prog 111 #[.slice A n c, .slice A' n' c'] w (GotPR w w (Mp.delS ps k) (Mp.getE ps k) (Mp.getV ps k) 0) := by
 obtain rfl := h.length
 have H := hD h.fit
 have H' := hD h'.fit
 have HL := hD hL
 have HB := hD hb
 have HBK := hD hbk
 have b0 : Below w.heap.size w (w.alloc (.cells zeroR 41)) := (Below.refl _ _).alloc lR _
 clear h h' hL hb hbk
 unfold Mp.getE Mp.getV Mp.delS
 by_cases hk : k ∈ Mp.keys ps
 · rw [if_pos hk, if_pos hk, if_pos hk]
   obtain ⟨i, ei, hi, hix⟩ := Mp.place_lt hk
   rw [hix]
   have hin : i < ps.length := by
    have h1 : i < (Mp.keys ps).length := by
     rcases Nat.lt_or_ge i (Mp.keys ps).length with h | h
     · exact h
     · rw [List.getElem?_eq_none h] at hi; cases hi
    rwa [keys_length] at h1
   obtain ⟨p, hp⟩ : ∃ p, ps[i]? = some p := ⟨_, List.getElem?_eq_getElem hin⟩
   have hv : (ps[i]?.map (·.2)).getD [] = p.2 := by rw [hp]; rfl
   rw [hv]
   have HE := hD ei
   have HP := hD hp
   have h0 : ¬ (i : Int) < 0 := by omega
   have h1 : (i : Int) < (ps.length : Int) := by omega
   clear hv hix hi ei hp hk
   go_enter Tryz.func111, Tryz.ntmps111
   go_wp2_with fail
   refine (refPairs_any (W := w) hn HL.out (H.out.below b0) b0).mono ?_
   rintro e w1 ⟨A1, c1, rfl, ⟨vs, hrow, hown⟩, hB1, hb1⟩
   have hcap := (own_cap hrow).1
   have HK := hD ((Blk.new w 41 zeroR).below hb1)
   go_wp2_with fail
   refine (refKey_bel _ (k := k) hn HB.out HBK.out (H.out.below hB1) (H'.out.below hB1)).mono ?_
   rintro e w2 ⟨rfl, hb2⟩
   rw [HE.out]
   have hrow2 := ownsRow_below hrow hb2
   have hown2 := hown.below hb2
   obtain ⟨A2, c2, hcv, hov⟩ := hown2.cell (i * 2 + 1) p.2 (by rw [flat_val, HP.out]; rfl)
   obtain ⟨g, rfl, hg1, hg2⟩ := own_addrS hrow2 (by omega)
   have hcell := (hrow2.cellAt (i * 2 + 1) (by omega)).trans hcv
   have HROW := hD hrow2
   have HOWN := hD hown2
   have HB2 := hD (hB1.trans (hb2.mono hB1.size))
   have HOV := hD hov
   have HK := hD (HK.out.below hb2)
   obtain ⟨i0, hi0, _, hi1, _⟩ := info_parts cellP.info
   have q1 : ∀ w : World, (Instr.slice 31 (.slice (some ⟨g, 0, none⟩) ps.length c1) none (some (.int .i64 (i : Int))) none).run Tryz.prog w = .ok (.slice (some ⟨g, 0, none⟩) i c1) w :=
    fun w => run_slice_to (P := Tryz.prog) Tryz.underlying31 hi0 (some ⟨g, 0, none⟩) ps.length c1 i (by omega) w
   have q2 : ∀ w : World, (Instr.slice 31 (.slice (some ⟨g, 0, none⟩) ps.length c1) (some (.int .i64 ((i : Int) + 1))) none none).run Tryz.prog w = .ok (.slice (cutS (some ⟨g, 0, none⟩) c1 (i + 1) 2) (ps.length - (i + 1)) (c1 - (i + 1))) w :=
    fun w => by have := run_slice_fromS_ (P := Tryz.prog) Tryz.underlying31 hi0 hi1 (some ⟨g, 0, none⟩) ps.length c1 (i + 1) (by omega) w; rwa [show (((i + 1 : Nat)) : Int) = (i : Int) + 1 by omega] at this
   have hw1 : IntKind.i64.wrap ((i : Int) + 1) = (i : Int) + 1 := IntWalk.i64_in _ (by omega)
   have HR2 := hD ((Rd.ownS hrow2 (by omega)).dropS (k := i + 1) (c := c1) (by omega) hcap).drew
   have HPRE := hD (own_drew (own_prefix hrow2 (k := i) (by omega)))
   have HONE := hD hown.one
   clear hrow hown hB1 hb1 hov hcv hi0 hi1 hg1 hg2 hrow2 hown2 hb2
   go_upto_region 6 with fail
   clear hcell
   obtain ⟨x0, x1, x2, f0, f1, f2⟩ := three HK.out
   have HROWd := hD (own_drew HROW.out)
   have HBd := hD HB2.out.drew
   go_region_law (refine step_append_S (W := w) (A := some ⟨g, 0, none⟩) (n := i) (c := c1) (A' := cutS (some ⟨g, 0, none⟩) c1 (i + 1) 2) (m := ps.length - (i + 1)) (c' := c1 - (i + 1)) cellP (.tmp 25) (.tmp 29) rfl rfl (by simp [Act.eval, Act.put]) HPRE.out (by simp [Act.eval, Act.put]) HR2.out (fun u hu => HONE.out u (List.mem_of_mem_drop hu)) (by omega) (by omega) HBd.out ?_
                  intro A3 c3 w3 hown3 hB3 hg3
                  have HK3 := hD (HK.out.drew.apart_own HPRE.out (by decide) hg3)
                  clear x0 x1 x2 f0 f1 f2
                  obtain ⟨x0, x1, x2, f0, f1, f2⟩ := three HK3.out)
   all_goals go_wp2
   all_goals
    have hel : (ps.eraseIdx i).length = i + (ps.length - (i + 1)) := by rw [List.length_eraseIdx_of_lt (by omega)]; omega
    obtain ⟨k1, k2, k3⟩ := put3 HK3.out (.int .i64 0) (.slice A2 p.2.length c2) (.int .i64 0)
    refine bodyPost_ret (results_tmp_cell_row rfl _ _ _ _ _ _ rfl k1 Tryz.underlying41 rfl (by kernel_rfl)) rfl ?_
    have ho3 : OwnP w w3 A3 (i + (ps.length - (i + 1))) c3 (ps.eraseIdx i) := ⟨_, hown3, by
     rw [flat_erase]
     exact (((HOWN.out.take (i * 2)).append (HOWN.out.drop ((i + 1) * 2))).below (Below.refl _ _).drew).grownP HPRE.out hg3⟩
    have hv3 := own_grown_t (w := w2.drew) (own_drew HOV.out) HPRE.out (by decide) hg3
    have h3 := k2 w lR hB3
    exact ⟨A3, c3, A2, c2, by rw [hel]; rfl, by rw [hel]; exact ho3.put3 HK3.out (by decide) (by decide) _ _ _, k3 _ _ _ _ _ _ hv3 (by decide), h3, h3⟩
 · rw [if_neg hk, if_neg hk, if_neg hk]
   have HE := hD (Mp.place_no hk)
   clear hk
   go_enter Tryz.func111, Tryz.ntmps111
   go_wp2_with fail
   refine (refPairs_any (W := w) hn HL.out (H.out.below b0) b0).mono ?_
   rintro e w1 ⟨A1, c1, rfl, ho1, hB1, hb1⟩
   have HK := hD ((Blk.new w 41 zeroR).below hb1)
   go_wp2_with fail
   refine (refKey_bel _ (k := k) hn HB.out HBK.out (H.out.below hB1) (H'.out.below hB1)).mono ?_
   rintro e w2 ⟨rfl, hb2⟩
   rw [HE.out]
   go_wp2_with (first
    | (go_at_call 95; refine (bad_any _ 5).mono ?_; rintro e w3 ⟨rfl, hb3⟩; unfold resV; have HK := hD ((HK.out.below hb2).below hb3); obtain ⟨x0, x1, x2, f0, f1, f2⟩ := three HK.out)
    | fail)
   obtain ⟨k1, k2, k3⟩ := put3 HK.out (.int .i64 5) (.slice none 0 0) (.int .i64 0)
   refine bodyPost_ret (results_tmp_cell_row rfl _ _ _ _ _ _ rfl k1 Tryz.underlying41 rfl (by kernel_rfl)) rfl ?_
   have hB2 := hB1.trans (hb2.mono hB1.size)
   have h3 := k2 w lR (hB2.trans (hb3.mono hB2.size))
   exact ⟨A1, c1, none, 0, rfl, ((ho1.below hb2).below hb3).put3 HK.out (by decide) (by decide) _ _ _, own_nil _ _, h3, h3⟩
theorem refDel_any {W w : World} {ps : List Pr} {k : List Nat} {A A' : Option Addr} {n c n' c' B B' : Nat} (hn : n <= 100000) (hL : LimP ps) (hb : BytesP ps) (hbk : ∀ x ∈ k, x < 256) (h : RdP w B A n ps) (h' : Rd w B' A' n' (bv k)) (hB : Below W.heap.size W w) :
 Calls Tryz.prog 111 #[.slice A n c, .slice A' n' c'] w (GotPR W w (Mp.delS ps k) (Mp.getE ps k) (Mp.getV ps k) 0) :=
 (refDel_raw hn hL hb hbk h h').mono fun e w' h => GotPR.of hB h
end Go.Proofs.YtlgpglhbbkikpaaGreat
