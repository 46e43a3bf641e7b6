/- MachGet ObjCmdD -/
import Derived.Test.YtmekamgohonffaaGreatBT00
import Derived.Test.YtmekamgohonffaaGreatBT16
import Derived.Test.YtmekamgohonffaaGreatBT17
import Derived.Test.YtmekamgohonffaaGreatBT23
import Derived.Test.YtmekamgohonffaaGreatBT25
import Derived.Test.YtmekamgohonffaaGreatBT28
import Derived.Test.YtmekamgohonffaaGreatBT36
namespace Go.Proofs.YtmekamgohonffaaGreat
open Go.RowKit
set_option linter.unusedVariables false
structure RgSt (w wx : World) (b : Nat) (s : Pk.St) : Prop where
 r : RdrAt wx b s
 only : Only b w wx
section
variable {w wx wy : World} {b g i : Nat} {s s' : Pk.St} {t e : TypeId} {cs : Array Value} {u : Value}
theorem RgSt.size (h : RgSt w wx b s) : w.heap.size <= wx.heap.size := h.only.size
theorem RgSt.call (h : RgSt w wx b s) (hr : RdrAt wy b s') (ho : Only b wx wy) : RgSt w wy b s' := ⟨hr, only_trans h.only ho⟩
theorem RgSt.below (h : RgSt w wx b s) (hb : Below wx.heap.size wx wy) : RgSt w wy b s := ⟨h.r.below hb, only_below h.only hb h.size⟩
theorem RgSt.set (h : RgSt w wx b s) (hk : Blk wx g t cs) (h1 : 5 ≠ t) (h2 : 87 ≠ t) (hg : w.heap.size <= g) : RgSt w (wx.setCell ⟨g, i, none⟩ u) b s := by
 obtain ⟨A, n, c, hb, q1, q2, q3, q4, q5⟩ := h.r
 exact ⟨⟨A, n, c, hb.set_other (hb.apart hk h2), q1, q2, q3, q4.grown (only_set (only_refl g wx) i u) hk h1, q5⟩, only_below h.only ((Below.refl w.heap.size wx).setCell (p := ⟨g, i, none⟩) hg u) lR⟩
theorem RgSt.row {A : Option Addr} {n c size : Nat} {xs : List Value} (h : RgSt w wx b s) (ho : wx.ownsRow w.heap.size e size (.slice A n c) n xs) (h1 : 5 ≠ e) (h2 : 87 ≠ e) (hg : wx.grownBy wy (Value.slice A n c).ownBlock) : RgSt w wy b s := by
 obtain ⟨A', n', c', hb, q1, q2, q3, q4, q5⟩ := h.r
 exact ⟨⟨A', n', c', hb.apart_own ho h2 hg, q1, q2, q3, q4.kept ho h1 hg, q5⟩, only_below h.only ((Below.refl w.heap.size wx).grown hg h.size (fun k hk => (ho.lt k hk).1)) lR⟩
end
theorem getVal_any (w : World) (b : Nat) (s : Pk.St) (h : RdrAt w b s) {v : List Nat} {s' : Pk.St} (hv : Pk.bytV s 16 = v) (hs : Pk.bytS s 16 = s') :
 Calls Tryz.prog 54 #[.pointer (some ⟨b, 0, none⟩)] w fun e w' => ∃ A c, e = .returned (.slice A v.length c) /\ OwnB w w' A v.length c v /\ RdrAt w' b s' /\ Only b w w' := by
 have HC := hD (rbytes_is w b s 16 h v s' hv hs)
 clear h hv hs
 go_enter Tryz.func54, Tryz.ntmps54
 go_wp2_with (first
  | (go_at_call 27; refine HC.out.mono ?_; rintro e w1 ⟨A1, n1, c1, rfl, ho1, hr1, hb1⟩; obtain rfl := own_len ho1)
  | fail)
 go_ret
 exact ⟨A1, c1, rfl, ho1, hr1, hb1⟩
theorem getWho_any (w : World) (b : Nat) (s : Pk.St) (h : RdrAt w b s) {v : Nat} {s' : Pk.St} (hv : Pk.numV s 999 = v) (hs : Pk.numS s 999 = s') :
 Calls Tryz.prog 57 #[.pointer (some ⟨b, 0, none⟩)] w (NumP w b v s') := by
 have HC := hD (rnum_is w b s 999 h v s' hv hs)
 clear h hv hs
 go_enter Tryz.func57, Tryz.ntmps57
 go_wp2_with (first
  | (go_at_call 25; refine HC.out.mono ?_; rintro e w1 ⟨rfl, hr1, hb1⟩)
  | fail)
 go_ret
 exact ⟨rfl, hr1, hb1⟩
set_option maxHeartbeats 4000000 in
set_option maxRecDepth 100000 in
theorem getPair_any (w : World) (b : Nat) (s : Pk.St) (h : RdrAt w b s) :
 Calls Tryz.prog 59 #[.pointer (some ⟨b, 0, none⟩)] w fun en w' => ∃ A1 c1 A2 c2, en = .returned (.agg #[.slice A1 (getP1 s).1.1.length c1, .slice A2 (getP1 s).1.2.length c2]) /\ OwnB w w' A1 (getP1 s).1.1.length c1 (getP1 s).1.1 /\ OwnB w w' A2 (getP1 s).1.2.length c2 (getP1 s).1.2 /\ RdrAt w' b (getP1 s).2 /\ Only b w w' := by
 have hbl := h.lt
 have HBL := hD hbl
 have h0 : RgSt w w b s := ⟨h, only_refl b w⟩
 obtain ⟨s0, es⟩ : ∃ x, s = x := ⟨_, rfl⟩
 obtain ⟨v0, d0⟩ : ∃ x, Pk.bytV s0 8 = x := ⟨_, rfl⟩
 obtain ⟨s1, e0⟩ : ∃ x, Pk.bytS s0 8 = x := ⟨_, rfl⟩
 obtain ⟨v1, d1⟩ : ∃ x, Pk.bytV s1 16 = x := ⟨_, rfl⟩
 obtain ⟨s2, e1⟩ : ∃ x, Pk.bytS s1 16 = x := ⟨_, rfl⟩
 have HRES : Hid (getP1 s0 = ((v0, v1), s2)) := hD (by unfold getP1; rw [d0, e0, d1, e1])
 subst es
 have C0 := hD (fun w h => rbytes_is w b _ 8 h _ _ d0 e0)
 have C1 := hD (fun w h => getVal_any w b _ h d1 e1)
 clear d0 e0 d1 e1
 have bb : Below w.heap.size w ((w.alloc (.cells #[.slice none 0 0, .slice none 0 0] 74)).alloc (.cells #[.slice none 0 0, .slice none 0 0] 74)) := ((Below.refl _ _).alloc lR _).alloc (by simp) _
 have HR0 := hD (h0.below bb)
 have HK2 := hD ((Blk.new w 74 #[.slice none 0 0, .slice none 0 0]).alloc (.cells #[.slice none 0 0, .slice none 0 0] 74))
 have HK3 := hD (Blk.new (w.alloc (.cells #[.slice none 0 0, .slice none 0 0] 74)) 74 #[.slice none 0 0, .slice none 0 0])
 rw [World.size_alloc] at HK3
 have hne : w.heap.size ≠ b := by omega
 have hne3 : w.heap.size + 1 ≠ b := by omega
 clear h h0 bb
 go_enter Tryz.func59, Tryz.ntmps59
 go_upto_region 2 with fail
 generalize (w.alloc (.cells #[.slice none 0 0, .slice none 0 0] 74)).alloc (.cells #[.slice none 0 0, .slice none 0 0] 74) = wx0 at HR0 HK2 HK3 |-
 go_upto_region 3 with (first
  | (go_at_call 27; refine (C0.out _ HR0.out.r).mono ?_; rintro en w1 ⟨A0, n0, c0, rfl, hv, hr, ho⟩; obtain rfl := own_len hv
     have HRC := hD (HR0.out.call hr ho)
     have HK2 := hD (HK2.out.grown ho (by simpa using hne))
     have HK3 := hD (HK3.out.grown ho (by simpa using hne3))
     have HV0 := hD (own_of HR0.out.size hv)
     have x0 := HK3.out.cell 0
     have f0 := HK3.out.frozen 0
     have x1 := HK3.out.cell 1
     have f1 := HK3.out.frozen 1
     clear hr ho C0 hv)
  | fail)
 have HR1 : Hid (RgSt w (w1.setCell ⟨w.heap.size + 1, 0, none⟩ (.slice A0 v0.length c0)) b s1) := hD (HRC.out.set HK3.out (by decide) (by decide) (by omega))
 have HK2 := hD (HK2.out.set_other (i := 0) (u := .slice A0 v0.length c0) (b := w.heap.size + 1) (by omega))
 have HV0 : Hid (OwnB w (w1.setCell ⟨w.heap.size + 1, 0, none⟩ (.slice A0 v0.length c0)) A0 v0.length c0 v0) := hD (own_set_t HV0.out HK3.out (by decide))
 have HK3 : Hid (Blk (w1.setCell ⟨w.heap.size + 1, 0, none⟩ (.slice A0 v0.length c0)) (w.heap.size + 1) 74 #[.slice A0 v0.length c0, .slice none 0 0]) := hD (HK3.out.set_ 0 (.slice A0 v0.length c0))
 clear HRC x0 f0 x1 f1
 generalize w1.setCell ⟨w.heap.size + 1, 0, none⟩ (.slice A0 v0.length c0) = wx1 at HR1 HK2 HK3 HV0 |-
 go_upto_region 4 with (first
  | (go_at_call 54; refine (C1.out _ HR1.out.r).mono ?_; rintro en w2 ⟨A1, c1, rfl, hv, hr, ho⟩
     have HRC := hD (HR1.out.call hr ho)
     have HK2 := hD (HK2.out.grown ho (by simpa using hne))
     have HK3 := hD (HK3.out.grown ho (by simpa using hne3))
     have HV0 := hD (own_read HV0.out ho HBL.out)
     have HV1 := hD (own_of HR1.out.size hv)
     have x0 := HK3.out.cell 0
     have f0 := HK3.out.frozen 0
     have x1 := HK3.out.cell 1
     have f1 := HK3.out.frozen 1
     clear hr ho C1 hv)
  | fail)
 have HR2 : Hid (RgSt w (w2.setCell ⟨w.heap.size + 1, 1, none⟩ (.slice A1 v1.length c1)) b s2) := hD (HRC.out.set HK3.out (by decide) (by decide) (by omega))
 have HK2 := hD (HK2.out.set_other (i := 1) (u := .slice A1 v1.length c1) (b := w.heap.size + 1) (by omega))
 have HV0 : Hid (OwnB w (w2.setCell ⟨w.heap.size + 1, 1, none⟩ (.slice A1 v1.length c1)) A0 v0.length c0 v0) := hD (own_set_t HV0.out HK3.out (by decide))
 have HV1 : Hid (OwnB w (w2.setCell ⟨w.heap.size + 1, 1, none⟩ (.slice A1 v1.length c1)) A1 v1.length c1 v1) := hD (own_set_t HV1.out HK3.out (by decide))
 have HK3 : Hid (Blk (w2.setCell ⟨w.heap.size + 1, 1, none⟩ (.slice A1 v1.length c1)) (w.heap.size + 1) 74 #[.slice A0 v0.length c0, .slice A1 v1.length c1]) := hD (HK3.out.set_ 1 (.slice A1 v1.length c1))
 clear HRC x0 f0 x1 f1
 generalize w2.setCell ⟨w.heap.size + 1, 1, none⟩ (.slice A1 v1.length c1) = wx2 at HR2 HK2 HK3 HV0 HV1 |-
 have HRN := HR2
 have x0 := HK2.out.cell 0
 have f0 := HK2.out.frozen 0
 have y0 := HK3.out.cell 0
 have x1 := HK2.out.cell 1
 have f1 := HK2.out.frozen 1
 have y1 := HK3.out.cell 1
 go_wp2_with fail
 have q0 := HK2.out
 have q1 := q0.set_ 0 (.slice A0 v0.length c0)
 have q2 := q1.set_ 1 (.slice A1 v1.length c1)
 refine bodyPost_ret (results_cell_row rfl _ _ _ _ _ _ _ rfl q2 Tryz.underlying74 rfl (by kernel_rfl)) rfl ?_
 have hrg := ((HRN.out).set (i := 0) (u := .slice A0 v0.length c0) q0 (by decide) (by decide) lR).set (i := 1) (u := .slice A1 v1.length c1) q1 (by decide) (by decide) lR
 rw [HRES.out]
 exact ⟨A0, c0, A1, c1, rfl, own_set_t (own_set_t (HV0.out) q0 (by decide)) q1 (by decide), own_set_t (own_set_t (HV1.out) q0 (by decide)) q1 (by decide), hrg.r, hrg.only⟩
set_option maxHeartbeats 4000000 in
set_option maxRecDepth 100000 in
theorem getLast_any (w : World) (b : Nat) (s : Pk.St) (h : RdrAt w b s) :
 Calls Tryz.prog 61 #[.pointer (some ⟨b, 0, none⟩)] w fun en w' => ∃ A c, en = .returned (.agg #[.int .i64 (getT1 s).1.s, .int .i64 (getT1 s).1.q, .int .i64 (getT1 s).1.e, .slice A (getT1 s).1.v.length c, .int .i64 (getT1 s).1.n]) /\ OwnB w w' A (getT1 s).1.v.length c (getT1 s).1.v /\ RdrAt w' b (getT1 s).2 /\ Only b w w' := by
 have hbl := h.lt
 have HBL := hD hbl
 have h0 : RgSt w w b s := ⟨h, only_refl b w⟩
 obtain ⟨s0, es⟩ : ∃ x, s = x := ⟨_, rfl⟩
 obtain ⟨v0, d0⟩ : ∃ x, Pk.numV s0 1073741824 = x := ⟨_, rfl⟩
 obtain ⟨s1, e0⟩ : ∃ x, Pk.numS s0 1073741824 = x := ⟨_, rfl⟩
 obtain ⟨v1, d1⟩ : ∃ x, Pk.numV s1 1073741824 = x := ⟨_, rfl⟩
 obtain ⟨s2, e1⟩ : ∃ x, Pk.numS s1 1073741824 = x := ⟨_, rfl⟩
 obtain ⟨v2, d2⟩ : ∃ x, Pk.numV s2 10 = x := ⟨_, rfl⟩
 obtain ⟨s3, e2⟩ : ∃ x, Pk.numS s2 10 = x := ⟨_, rfl⟩
 obtain ⟨v3, d3⟩ : ∃ x, Pk.numV s3 1073741825 = x := ⟨_, rfl⟩
 obtain ⟨s4, e3⟩ : ∃ x, Pk.numS s3 1073741825 = x := ⟨_, rfl⟩
 obtain ⟨v4, d4⟩ : ∃ x, Pk.bytV s4 16 = x := ⟨_, rfl⟩
 obtain ⟨s5, e4⟩ : ∃ x, Pk.bytS s4 16 = x := ⟨_, rfl⟩
 have HRES : Hid (getT1 s0 = (⟨v0, v1, v2, v4, (v3 : Int) - 1⟩, s5)) := hD (by unfold getT1; simp only [e0, e1, e2, e3, e4, d0, d1, d2, d3, d4])
 have hv3 : (v3 : Int) <= 1073741825 := by rw [<- d3]; exact numV_le _ (by omega)
 have hw3 : IntKind.i64.wrap ((v3 : Int) - 1) = (v3 : Int) - 1 := IntWalk.i64_in _ (by omega)
 clear hv3
 subst es
 have C0 := hD (fun w h => rnum_is w b _ 1073741824 h _ _ d0 e0)
 have C1 := hD (fun w h => rnum_is w b _ 1073741824 h _ _ d1 e1)
 have C2 := hD (fun w h => rnum_is w b _ 10 h _ _ d2 e2)
 have C3 := hD (fun w h => rnum_is w b _ 1073741825 h _ _ d3 e3)
 have C4 := hD (fun w h => getVal_any w b _ h d4 e4)
 clear d0 e0 d1 e1 d2 e2 d3 e3 d4 e4
 have bb : Below w.heap.size w ((w.alloc (.cells #[.int .i64 0, .int .i64 0, .int .i64 0, .slice none 0 0, .int .i64 0] 79)).alloc (.cells #[.int .i64 0, .int .i64 0, .int .i64 0, .slice none 0 0, .int .i64 0] 79)) := ((Below.refl _ _).alloc lR _).alloc (by simp) _
 have HR0 := hD (h0.below bb)
 have HK2 := hD ((Blk.new w 79 #[.int .i64 0, .int .i64 0, .int .i64 0, .slice none 0 0, .int .i64 0]).alloc (.cells #[.int .i64 0, .int .i64 0, .int .i64 0, .slice none 0 0, .int .i64 0] 79))
 have HK3 := hD (Blk.new (w.alloc (.cells #[.int .i64 0, .int .i64 0, .int .i64 0, .slice none 0 0, .int .i64 0] 79)) 79 #[.int .i64 0, .int .i64 0, .int .i64 0, .slice none 0 0, .int .i64 0])
 rw [World.size_alloc] at HK3
 have hne : w.heap.size ≠ b := by omega
 have hne3 : w.heap.size + 1 ≠ b := by omega
 clear h h0 bb
 go_enter Tryz.func61, Tryz.ntmps61
 go_upto_region 2 with fail
 generalize (w.alloc (.cells #[.int .i64 0, .int .i64 0, .int .i64 0, .slice none 0 0, .int .i64 0] 79)).alloc (.cells #[.int .i64 0, .int .i64 0, .int .i64 0, .slice none 0 0, .int .i64 0] 79) = wx0 at HR0 HK2 HK3 |-
 go_upto_region 3 with (first
  | (go_at_call 25; refine (C0.out _ HR0.out.r).mono ?_; rintro en w1 ⟨rfl, hr, ho⟩
     have HRC := hD (HR0.out.call hr ho)
     have HK2 := hD (HK2.out.grown ho (by simpa using hne))
     have HK3 := hD (HK3.out.grown ho (by simpa using hne3))
     have x0 := HK3.out.cell 0
     have f0 := HK3.out.frozen 0
     have x1 := HK3.out.cell 1
     have f1 := HK3.out.frozen 1
     have x2 := HK3.out.cell 2
     have f2 := HK3.out.frozen 2
     have x3 := HK3.out.cell 3
     have f3 := HK3.out.frozen 3
     have x4 := HK3.out.cell 4
     have f4 := HK3.out.frozen 4
     clear hr ho C0)
  | fail)
 have HR1 : Hid (RgSt w (w1.setCell ⟨w.heap.size + 1, 0, none⟩ (.int .i64 (v0 : Int))) b s1) := hD (HRC.out.set HK3.out (by decide) (by decide) (by omega))
 have HK2 := hD (HK2.out.set_other (i := 0) (u := .int .i64 (v0 : Int)) (b := w.heap.size + 1) (by omega))
 have HK3 : Hid (Blk (w1.setCell ⟨w.heap.size + 1, 0, none⟩ (.int .i64 (v0 : Int))) (w.heap.size + 1) 79 #[.int .i64 (v0 : Int), .int .i64 0, .int .i64 0, .slice none 0 0, .int .i64 0]) := hD (HK3.out.set_ 0 (.int .i64 (v0 : Int)))
 clear HRC x0 f0 x1 f1 x2 f2 x3 f3 x4 f4
 generalize w1.setCell ⟨w.heap.size + 1, 0, none⟩ (.int .i64 (v0 : Int)) = wx1 at HR1 HK2 HK3  |-
 go_upto_region 4 with (first
  | (go_at_call 25; refine (C1.out _ HR1.out.r).mono ?_; rintro en w2 ⟨rfl, hr, ho⟩
     have HRC := hD (HR1.out.call hr ho)
     have HK2 := hD (HK2.out.grown ho (by simpa using hne))
     have HK3 := hD (HK3.out.grown ho (by simpa using hne3))
     have x0 := HK3.out.cell 0
     have f0 := HK3.out.frozen 0
     have x1 := HK3.out.cell 1
     have f1 := HK3.out.frozen 1
     have x2 := HK3.out.cell 2
     have f2 := HK3.out.frozen 2
     have x3 := HK3.out.cell 3
     have f3 := HK3.out.frozen 3
     have x4 := HK3.out.cell 4
     have f4 := HK3.out.frozen 4
     clear hr ho C1)
  | fail)
 have HR2 : Hid (RgSt w (w2.setCell ⟨w.heap.size + 1, 1, none⟩ (.int .i64 (v1 : Int))) b s2) := hD (HRC.out.set HK3.out (by decide) (by decide) (by omega))
 have HK2 := hD (HK2.out.set_other (i := 1) (u := .int .i64 (v1 : Int)) (b := w.heap.size + 1) (by omega))
 have HK3 : Hid (Blk (w2.setCell ⟨w.heap.size + 1, 1, none⟩ (.int .i64 (v1 : Int))) (w.heap.size + 1) 79 #[.int .i64 (v0 : Int), .int .i64 (v1 : Int), .int .i64 0, .slice none 0 0, .int .i64 0]) := hD (HK3.out.set_ 1 (.int .i64 (v1 : Int)))
 clear HRC x0 f0 x1 f1 x2 f2 x3 f3 x4 f4
 generalize w2.setCell ⟨w.heap.size + 1, 1, none⟩ (.int .i64 (v1 : Int)) = wx2 at HR2 HK2 HK3  |-
 go_upto_region 5 with (first
  | (go_at_call 25; refine (C2.out _ HR2.out.r).mono ?_; rintro en w3 ⟨rfl, hr, ho⟩
     have HRC := hD (HR2.out.call hr ho)
     have HK2 := hD (HK2.out.grown ho (by simpa using hne))
     have HK3 := hD (HK3.out.grown ho (by simpa using hne3))
     have x0 := HK3.out.cell 0
     have f0 := HK3.out.frozen 0
     have x1 := HK3.out.cell 1
     have f1 := HK3.out.frozen 1
     have x2 := HK3.out.cell 2
     have f2 := HK3.out.frozen 2
     have x3 := HK3.out.cell 3
     have f3 := HK3.out.frozen 3
     have x4 := HK3.out.cell 4
     have f4 := HK3.out.frozen 4
     clear hr ho C2)
  | fail)
 have HR3 : Hid (RgSt w (w3.setCell ⟨w.heap.size + 1, 2, none⟩ (.int .i64 (v2 : Int))) b s3) := hD (HRC.out.set HK3.out (by decide) (by decide) (by omega))
 have HK2 := hD (HK2.out.set_other (i := 2) (u := .int .i64 (v2 : Int)) (b := w.heap.size + 1) (by omega))
 have HK3 : Hid (Blk (w3.setCell ⟨w.heap.size + 1, 2, none⟩ (.int .i64 (v2 : Int))) (w.heap.size + 1) 79 #[.int .i64 (v0 : Int), .int .i64 (v1 : Int), .int .i64 (v2 : Int), .slice none 0 0, .int .i64 0]) := hD (HK3.out.set_ 2 (.int .i64 (v2 : Int)))
 clear HRC x0 f0 x1 f1 x2 f2 x3 f3 x4 f4
 generalize w3.setCell ⟨w.heap.size + 1, 2, none⟩ (.int .i64 (v2 : Int)) = wx3 at HR3 HK2 HK3  |-
 go_upto_region 6 with (first
  | (go_at_call 25; refine (C3.out _ HR3.out.r).mono ?_; rintro en w4 ⟨rfl, hr, ho⟩
     have HRC := hD (HR3.out.call hr ho)
     have HK2 := hD (HK2.out.grown ho (by simpa using hne))
     have HK3 := hD (HK3.out.grown ho (by simpa using hne3))
     have x0 := HK3.out.cell 0
     have f0 := HK3.out.frozen 0
     have x1 := HK3.out.cell 1
     have f1 := HK3.out.frozen 1
     have x2 := HK3.out.cell 2
     have f2 := HK3.out.frozen 2
     have x3 := HK3.out.cell 3
     have f3 := HK3.out.frozen 3
     have x4 := HK3.out.cell 4
     have f4 := HK3.out.frozen 4
     clear hr ho C3)
  | fail)
 have HR4 : Hid (RgSt w (w4.setCell ⟨w.heap.size + 1, 4, none⟩ (.int .i64 ((v3 : Int) - 1))) b s4) := hD (HRC.out.set HK3.out (by decide) (by decide) (by omega))
 have HK2 := hD (HK2.out.set_other (i := 4) (u := .int .i64 ((v3 : Int) - 1)) (b := w.heap.size + 1) (by omega))
 have HK3 : Hid (Blk (w4.setCell ⟨w.heap.size + 1, 4, none⟩ (.int .i64 ((v3 : Int) - 1))) (w.heap.size + 1) 79 #[.int .i64 (v0 : Int), .int .i64 (v1 : Int), .int .i64 (v2 : Int), .slice none 0 0, .int .i64 ((v3 : Int) - 1)]) := hD (HK3.out.set_ 4 (.int .i64 ((v3 : Int) - 1)))
 clear HRC x0 f0 x1 f1 x2 f2 x3 f3 x4 f4
 generalize w4.setCell ⟨w.heap.size + 1, 4, none⟩ (.int .i64 ((v3 : Int) - 1)) = wx4 at HR4 HK2 HK3  |-
 go_upto_region 7 with (first
  | (go_at_call 54; refine (C4.out _ HR4.out.r).mono ?_; rintro en w5 ⟨A4, c4, rfl, hv, hr, ho⟩
     have HRC := hD (HR4.out.call hr ho)
     have HK2 := hD (HK2.out.grown ho (by simpa using hne))
     have HK3 := hD (HK3.out.grown ho (by simpa using hne3))
     have HV4 := hD (own_of HR4.out.size hv)
     have x0 := HK3.out.cell 0
     have f0 := HK3.out.frozen 0
     have x1 := HK3.out.cell 1
     have f1 := HK3.out.frozen 1
     have x2 := HK3.out.cell 2
     have f2 := HK3.out.frozen 2
     have x3 := HK3.out.cell 3
     have f3 := HK3.out.frozen 3
     have x4 := HK3.out.cell 4
     have f4 := HK3.out.frozen 4
     clear hr ho C4 hv)
  | fail)
 have HR5 : Hid (RgSt w (w5.setCell ⟨w.heap.size + 1, 3, none⟩ (.slice A4 v4.length c4)) b s5) := hD (HRC.out.set HK3.out (by decide) (by decide) (by omega))
 have HK2 := hD (HK2.out.set_other (i := 3) (u := .slice A4 v4.length c4) (b := w.heap.size + 1) (by omega))
 have HV4 : Hid (OwnB w (w5.setCell ⟨w.heap.size + 1, 3, none⟩ (.slice A4 v4.length c4)) A4 v4.length c4 v4) := hD (own_set_t HV4.out HK3.out (by decide))
 have HK3 : Hid (Blk (w5.setCell ⟨w.heap.size + 1, 3, none⟩ (.slice A4 v4.length c4)) (w.heap.size + 1) 79 #[.int .i64 (v0 : Int), .int .i64 (v1 : Int), .int .i64 (v2 : Int), .slice A4 v4.length c4, .int .i64 ((v3 : Int) - 1)]) := hD (HK3.out.set_ 3 (.slice A4 v4.length c4))
 clear HRC x0 f0 x1 f1 x2 f2 x3 f3 x4 f4
 generalize w5.setCell ⟨w.heap.size + 1, 3, none⟩ (.slice A4 v4.length c4) = wx5 at HR5 HK2 HK3 HV4 |-
 have HRN := HR5
 have x0 := HK2.out.cell 0
 have f0 := HK2.out.frozen 0
 have y0 := HK3.out.cell 0
 have x1 := HK2.out.cell 1
 have f1 := HK2.out.frozen 1
 have y1 := HK3.out.cell 1
 have x2 := HK2.out.cell 2
 have f2 := HK2.out.frozen 2
 have y2 := HK3.out.cell 2
 have x3 := HK2.out.cell 3
 have f3 := HK2.out.frozen 3
 have y3 := HK3.out.cell 3
 have x4 := HK2.out.cell 4
 have f4 := HK2.out.frozen 4
 have y4 := HK3.out.cell 4
 go_wp2_with fail
 have q0 := HK2.out
 have q1 := q0.set_ 0 (.int .i64 (v0 : Int))
 have q2 := q1.set_ 1 (.int .i64 (v1 : Int))
 have q3 := q2.set_ 2 (.int .i64 (v2 : Int))
 have q4 := q3.set_ 3 (.slice A4 v4.length c4)
 have q5 := q4.set_ 4 (.int .i64 ((v3 : Int) - 1))
 refine bodyPost_ret (results_cell_row rfl _ _ _ _ _ _ _ rfl q5 Tryz.underlying79 rfl (by kernel_rfl)) rfl ?_
 have hrg := (((((HRN.out).set (i := 0) (u := .int .i64 (v0 : Int)) q0 (by decide) (by decide) lR).set (i := 1) (u := .int .i64 (v1 : Int)) q1 (by decide) (by decide) lR).set (i := 2) (u := .int .i64 (v2 : Int)) q2 (by decide) (by decide) lR).set (i := 3) (u := .slice A4 v4.length c4) q3 (by decide) (by decide) lR).set (i := 4) (u := .int .i64 ((v3 : Int) - 1)) q4 (by decide) (by decide) lR
 rw [HRES.out]
 exact ⟨A4, c4, rfl, own_set_t (own_set_t (own_set_t (own_set_t (own_set_t (HV4.out) q0 (by decide)) q1 (by decide)) q2 (by decide)) q3 (by decide)) q4 (by decide), hrg.r, hrg.only⟩
set_option maxHeartbeats 4000000 in
set_option maxRecDepth 100000 in
theorem getEntry_any (w : World) (b : Nat) (s : Pk.St) (h : RdrAt w b s) :
 Calls Tryz.prog 66 #[.pointer (some ⟨b, 0, none⟩)] w fun en w' => ∃ ca, en = .returned (entV ca (En.read s)) /\ OwnC w w' ca (En.read s).c /\ RdrAt w' b (En.get s).2 /\ Only b w w' := by
 have hbl := h.lt
 have HBL := hD hbl
 have h0 : RgSt w w b s := ⟨h, only_refl b w⟩
 obtain ⟨s0, es⟩ : ∃ x, s = x := ⟨_, rfl⟩
 obtain ⟨v0, d0⟩ : ∃ x, Pk.numV s0 1073741824 = x := ⟨_, rfl⟩
 obtain ⟨s1, e0⟩ : ∃ x, Pk.numS s0 1073741824 = x := ⟨_, rfl⟩
 obtain ⟨v1, d1⟩ : ∃ x, Pk.numV s1 1073741824 = x := ⟨_, rfl⟩
 obtain ⟨s2, e1⟩ : ∃ x, Pk.numS s1 1073741824 = x := ⟨_, rfl⟩
 obtain ⟨v2, d2⟩ : ∃ x, Pk.numV s2 1073741824 = x := ⟨_, rfl⟩
 obtain ⟨s3, e2⟩ : ∃ x, Pk.numS s2 1073741824 = x := ⟨_, rfl⟩
 obtain ⟨v3, d3⟩ : ∃ x, Pk.numV s3 1073741824 = x := ⟨_, rfl⟩
 obtain ⟨s4, e3⟩ : ∃ x, Pk.numS s3 1073741824 = x := ⟨_, rfl⟩
 obtain ⟨v4, d4⟩ : ∃ x, Pk.bytV s4 32 = x := ⟨_, rfl⟩
 obtain ⟨s5, e4⟩ : ∃ x, Pk.bytS s4 32 = x := ⟨_, rfl⟩
 obtain ⟨v5, d5⟩ : ∃ x, Pk.bytV s5 32 = x := ⟨_, rfl⟩
 obtain ⟨s6, e5⟩ : ∃ x, Pk.bytS s5 32 = x := ⟨_, rfl⟩
 obtain ⟨v6, d6⟩ : ∃ x, Pk.bytV s6 32 = x := ⟨_, rfl⟩
 obtain ⟨s7, e6⟩ : ∃ x, Pk.bytS s6 32 = x := ⟨_, rfl⟩
 have HRES : Hid (En.read s0 = (if s7 = none then En.zero else ⟨v0, v1, ⟨v2, v3, v4, v5, v6⟩⟩) /\ (En.get s0).2 = s7) := hD (by unfold En.read En.get; simp only [e0, e1, e2, e3, e4, e5, e6, d0, d1, d2, d3, d4, d5, d6]; exact ⟨trivial, trivial⟩)
 subst es
 have C0 := hD (fun w h => rnum_is w b _ 1073741824 h _ _ d0 e0)
 have C1 := hD (fun w h => rnum_is w b _ 1073741824 h _ _ d1 e1)
 have C2 := hD (fun w h => rnum_is w b _ 1073741824 h _ _ d2 e2)
 have C3 := hD (fun w h => rnum_is w b _ 1073741824 h _ _ d3 e3)
 have C4 := hD (fun w h => rbytes_is w b _ 32 h _ _ d4 e4)
 have C5 := hD (fun w h => rbytes_is w b _ 32 h _ _ d5 e5)
 have C6 := hD (fun w h => rbytes_is w b _ 32 h _ _ d6 e6)
 clear d0 e0 d1 e1 d2 e2 d3 e3 d4 e4 d5 e5 d6 e6
 have bb : Below w.heap.size w ((w.alloc (.cells #[.int .i64 0, .int .i64 0, .int .i64 0, .int .i64 0, .slice none 0 0, .slice none 0 0, .slice none 0 0] 43)).alloc (.cells #[.int .i64 0, .int .i64 0, .int .i64 0, .int .i64 0, .slice none 0 0, .slice none 0 0, .slice none 0 0] 43)) := ((Below.refl _ _).alloc lR _).alloc (by simp) _
 have HR0 := hD (h0.below bb)
 have HK2 := hD ((Blk.new w 43 #[.int .i64 0, .int .i64 0, .int .i64 0, .int .i64 0, .slice none 0 0, .slice none 0 0, .slice none 0 0]).alloc (.cells #[.int .i64 0, .int .i64 0, .int .i64 0, .int .i64 0, .slice none 0 0, .slice none 0 0, .slice none 0 0] 43))
 have HK3 := hD (Blk.new (w.alloc (.cells #[.int .i64 0, .int .i64 0, .int .i64 0, .int .i64 0, .slice none 0 0, .slice none 0 0, .slice none 0 0] 43)) 43 #[.int .i64 0, .int .i64 0, .int .i64 0, .int .i64 0, .slice none 0 0, .slice none 0 0, .slice none 0 0])
 rw [World.size_alloc] at HK3
 have hne : w.heap.size ≠ b := by omega
 have hne3 : w.heap.size + 1 ≠ b := by omega
 clear h h0 bb
 go_enter Tryz.func66, Tryz.ntmps66
 go_upto_region 2 with fail
 generalize (w.alloc (.cells #[.int .i64 0, .int .i64 0, .int .i64 0, .int .i64 0, .slice none 0 0, .slice none 0 0, .slice none 0 0] 43)).alloc (.cells #[.int .i64 0, .int .i64 0, .int .i64 0, .int .i64 0, .slice none 0 0, .slice none 0 0, .slice none 0 0] 43) = wx0 at HR0 HK2 HK3 |-
 go_upto_region 3 with (first
  | (go_at_call 25; refine (C0.out _ HR0.out.r).mono ?_; rintro en w1 ⟨rfl, hr, ho⟩
     have HRC := hD (HR0.out.call hr ho)
     have HK2 := hD (HK2.out.grown ho (by simpa using hne))
     have HK3 := hD (HK3.out.grown ho (by simpa using hne3))
     have x0 := HK3.out.cell 0
     have f0 := HK3.out.frozen 0
     have x1 := HK3.out.cell 1
     have f1 := HK3.out.frozen 1
     have x2 := HK3.out.cell 2
     have f2 := HK3.out.frozen 2
     have x3 := HK3.out.cell 3
     have f3 := HK3.out.frozen 3
     have x4 := HK3.out.cell 4
     have f4 := HK3.out.frozen 4
     have x5 := HK3.out.cell 5
     have f5 := HK3.out.frozen 5
     have x6 := HK3.out.cell 6
     have f6 := HK3.out.frozen 6
     clear hr ho C0)
  | fail)
 have HR1 : Hid (RgSt w (w1.setCell ⟨w.heap.size + 1, 0, none⟩ (.int .i64 (v0 : Int))) b s1) := hD (HRC.out.set HK3.out (by decide) (by decide) (by omega))
 have HK2 := hD (HK2.out.set_other (i := 0) (u := .int .i64 (v0 : Int)) (b := w.heap.size + 1) (by omega))
 have HK3 : Hid (Blk (w1.setCell ⟨w.heap.size + 1, 0, none⟩ (.int .i64 (v0 : Int))) (w.heap.size + 1) 43 #[.int .i64 (v0 : Int), .int .i64 0, .int .i64 0, .int .i64 0, .slice none 0 0, .slice none 0 0, .slice none 0 0]) := hD (HK3.out.set_ 0 (.int .i64 (v0 : Int)))
 clear HRC x0 f0 x1 f1 x2 f2 x3 f3 x4 f4 x5 f5 x6 f6
 generalize w1.setCell ⟨w.heap.size + 1, 0, none⟩ (.int .i64 (v0 : Int)) = wx1 at HR1 HK2 HK3  |-
 go_upto_region 4 with (first
  | (go_at_call 25; refine (C1.out _ HR1.out.r).mono ?_; rintro en w2 ⟨rfl, hr, ho⟩
     have HRC := hD (HR1.out.call hr ho)
     have HK2 := hD (HK2.out.grown ho (by simpa using hne))
     have HK3 := hD (HK3.out.grown ho (by simpa using hne3))
     have x0 := HK3.out.cell 0
     have f0 := HK3.out.frozen 0
     have x1 := HK3.out.cell 1
     have f1 := HK3.out.frozen 1
     have x2 := HK3.out.cell 2
     have f2 := HK3.out.frozen 2
     have x3 := HK3.out.cell 3
     have f3 := HK3.out.frozen 3
     have x4 := HK3.out.cell 4
     have f4 := HK3.out.frozen 4
     have x5 := HK3.out.cell 5
     have f5 := HK3.out.frozen 5
     have x6 := HK3.out.cell 6
     have f6 := HK3.out.frozen 6
     clear hr ho C1)
  | fail)
 have HR2 : Hid (RgSt w (w2.setCell ⟨w.heap.size + 1, 1, none⟩ (.int .i64 (v1 : Int))) b s2) := hD (HRC.out.set HK3.out (by decide) (by decide) (by omega))
 have HK2 := hD (HK2.out.set_other (i := 1) (u := .int .i64 (v1 : Int)) (b := w.heap.size + 1) (by omega))
 have HK3 : Hid (Blk (w2.setCell ⟨w.heap.size + 1, 1, none⟩ (.int .i64 (v1 : Int))) (w.heap.size + 1) 43 #[.int .i64 (v0 : Int), .int .i64 (v1 : Int), .int .i64 0, .int .i64 0, .slice none 0 0, .slice none 0 0, .slice none 0 0]) := hD (HK3.out.set_ 1 (.int .i64 (v1 : Int)))
 clear HRC x0 f0 x1 f1 x2 f2 x3 f3 x4 f4 x5 f5 x6 f6
 generalize w2.setCell ⟨w.heap.size + 1, 1, none⟩ (.int .i64 (v1 : Int)) = wx2 at HR2 HK2 HK3  |-
 go_upto_region 5 with (first
  | (go_at_call 25; refine (C2.out _ HR2.out.r).mono ?_; rintro en w3 ⟨rfl, hr, ho⟩
     have HRC := hD (HR2.out.call hr ho)
     have HK2 := hD (HK2.out.grown ho (by simpa using hne))
     have HK3 := hD (HK3.out.grown ho (by simpa using hne3))
     have x0 := HK3.out.cell 0
     have f0 := HK3.out.frozen 0
     have x1 := HK3.out.cell 1
     have f1 := HK3.out.frozen 1
     have x2 := HK3.out.cell 2
     have f2 := HK3.out.frozen 2
     have x3 := HK3.out.cell 3
     have f3 := HK3.out.frozen 3
     have x4 := HK3.out.cell 4
     have f4 := HK3.out.frozen 4
     have x5 := HK3.out.cell 5
     have f5 := HK3.out.frozen 5
     have x6 := HK3.out.cell 6
     have f6 := HK3.out.frozen 6
     clear hr ho C2)
  | fail)
 have HR3 : Hid (RgSt w (w3.setCell ⟨w.heap.size + 1, 2, none⟩ (.int .i64 (v2 : Int))) b s3) := hD (HRC.out.set HK3.out (by decide) (by decide) (by omega))
 have HK2 := hD (HK2.out.set_other (i := 2) (u := .int .i64 (v2 : Int)) (b := w.heap.size + 1) (by omega))
 have HK3 : Hid (Blk (w3.setCell ⟨w.heap.size + 1, 2, none⟩ (.int .i64 (v2 : Int))) (w.heap.size + 1) 43 #[.int .i64 (v0 : Int), .int .i64 (v1 : Int), .int .i64 (v2 : Int), .int .i64 0, .slice none 0 0, .slice none 0 0, .slice none 0 0]) := hD (HK3.out.set_ 2 (.int .i64 (v2 : Int)))
 clear HRC x0 f0 x1 f1 x2 f2 x3 f3 x4 f4 x5 f5 x6 f6
 generalize w3.setCell ⟨w.heap.size + 1, 2, none⟩ (.int .i64 (v2 : Int)) = wx3 at HR3 HK2 HK3  |-
 go_upto_region 6 with (first
  | (go_at_call 25; refine (C3.out _ HR3.out.r).mono ?_; rintro en w4 ⟨rfl, hr, ho⟩
     have HRC := hD (HR3.out.call hr ho)
     have HK2 := hD (HK2.out.grown ho (by simpa using hne))
     have HK3 := hD (HK3.out.grown ho (by simpa using hne3))
     have x0 := HK3.out.cell 0
     have f0 := HK3.out.frozen 0
     have x1 := HK3.out.cell 1
     have f1 := HK3.out.frozen 1
     have x2 := HK3.out.cell 2
     have f2 := HK3.out.frozen 2
     have x3 := HK3.out.cell 3
     have f3 := HK3.out.frozen 3
     have x4 := HK3.out.cell 4
     have f4 := HK3.out.frozen 4
     have x5 := HK3.out.cell 5
     have f5 := HK3.out.frozen 5
     have x6 := HK3.out.cell 6
     have f6 := HK3.out.frozen 6
     clear hr ho C3)
  | fail)
 have HR4 : Hid (RgSt w (w4.setCell ⟨w.heap.size + 1, 3, none⟩ (.int .i64 (v3 : Int))) b s4) := hD (HRC.out.set HK3.out (by decide) (by decide) (by omega))
 have HK2 := hD (HK2.out.set_other (i := 3) (u := .int .i64 (v3 : Int)) (b := w.heap.size + 1) (by omega))
 have HK3 : Hid (Blk (w4.setCell ⟨w.heap.size + 1, 3, none⟩ (.int .i64 (v3 : Int))) (w.heap.size + 1) 43 #[.int .i64 (v0 : Int), .int .i64 (v1 : Int), .int .i64 (v2 : Int), .int .i64 (v3 : Int), .slice none 0 0, .slice none 0 0, .slice none 0 0]) := hD (HK3.out.set_ 3 (.int .i64 (v3 : Int)))
 clear HRC x0 f0 x1 f1 x2 f2 x3 f3 x4 f4 x5 f5 x6 f6
 generalize w4.setCell ⟨w.heap.size + 1, 3, none⟩ (.int .i64 (v3 : Int)) = wx4 at HR4 HK2 HK3  |-
 go_upto_region 7 with (first
  | (go_at_call 27; refine (C4.out _ HR4.out.r).mono ?_; rintro en w5 ⟨A4, n4, c4, rfl, hv, hr, ho⟩; obtain rfl := own_len hv
     have HRC := hD (HR4.out.call hr ho)
     have HK2 := hD (HK2.out.grown ho (by simpa using hne))
     have HK3 := hD (HK3.out.grown ho (by simpa using hne3))
     have HV4 := hD (own_of HR4.out.size hv)
     have x0 := HK3.out.cell 0
     have f0 := HK3.out.frozen 0
     have x1 := HK3.out.cell 1
     have f1 := HK3.out.frozen 1
     have x2 := HK3.out.cell 2
     have f2 := HK3.out.frozen 2
     have x3 := HK3.out.cell 3
     have f3 := HK3.out.frozen 3
     have x4 := HK3.out.cell 4
     have f4 := HK3.out.frozen 4
     have x5 := HK3.out.cell 5
     have f5 := HK3.out.frozen 5
     have x6 := HK3.out.cell 6
     have f6 := HK3.out.frozen 6
     clear hr ho C4 hv)
  | fail)
 have HR5 : Hid (RgSt w (w5.setCell ⟨w.heap.size + 1, 4, none⟩ (.slice A4 v4.length c4)) b s5) := hD (HRC.out.set HK3.out (by decide) (by decide) (by omega))
 have HK2 := hD (HK2.out.set_other (i := 4) (u := .slice A4 v4.length c4) (b := w.heap.size + 1) (by omega))
 have HV4 : Hid (OwnB w (w5.setCell ⟨w.heap.size + 1, 4, none⟩ (.slice A4 v4.length c4)) A4 v4.length c4 v4) := hD (own_set_t HV4.out HK3.out (by decide))
 have HK3 : Hid (Blk (w5.setCell ⟨w.heap.size + 1, 4, none⟩ (.slice A4 v4.length c4)) (w.heap.size + 1) 43 #[.int .i64 (v0 : Int), .int .i64 (v1 : Int), .int .i64 (v2 : Int), .int .i64 (v3 : Int), .slice A4 v4.length c4, .slice none 0 0, .slice none 0 0]) := hD (HK3.out.set_ 4 (.slice A4 v4.length c4))
 clear HRC x0 f0 x1 f1 x2 f2 x3 f3 x4 f4 x5 f5 x6 f6
 generalize w5.setCell ⟨w.heap.size + 1, 4, none⟩ (.slice A4 v4.length c4) = wx5 at HR5 HK2 HK3 HV4 |-
 go_upto_region 8 with (first
  | (go_at_call 27; refine (C5.out _ HR5.out.r).mono ?_; rintro en w6 ⟨A5, n5, c5, rfl, hv, hr, ho⟩; obtain rfl := own_len hv
     have HRC := hD (HR5.out.call hr ho)
     have HK2 := hD (HK2.out.grown ho (by simpa using hne))
     have HK3 := hD (HK3.out.grown ho (by simpa using hne3))
     have HV4 := hD (own_read HV4.out ho HBL.out)
     have HV5 := hD (own_of HR5.out.size hv)
     have x0 := HK3.out.cell 0
     have f0 := HK3.out.frozen 0
     have x1 := HK3.out.cell 1
     have f1 := HK3.out.frozen 1
     have x2 := HK3.out.cell 2
     have f2 := HK3.out.frozen 2
     have x3 := HK3.out.cell 3
     have f3 := HK3.out.frozen 3
     have x4 := HK3.out.cell 4
     have f4 := HK3.out.frozen 4
     have x5 := HK3.out.cell 5
     have f5 := HK3.out.frozen 5
     have x6 := HK3.out.cell 6
     have f6 := HK3.out.frozen 6
     clear hr ho C5 hv)
  | fail)
 have HR6 : Hid (RgSt w (w6.setCell ⟨w.heap.size + 1, 5, none⟩ (.slice A5 v5.length c5)) b s6) := hD (HRC.out.set HK3.out (by decide) (by decide) (by omega))
 have HK2 := hD (HK2.out.set_other (i := 5) (u := .slice A5 v5.length c5) (b := w.heap.size + 1) (by omega))
 have HV4 : Hid (OwnB w (w6.setCell ⟨w.heap.size + 1, 5, none⟩ (.slice A5 v5.length c5)) A4 v4.length c4 v4) := hD (own_set_t HV4.out HK3.out (by decide))
 have HV5 : Hid (OwnB w (w6.setCell ⟨w.heap.size + 1, 5, none⟩ (.slice A5 v5.length c5)) A5 v5.length c5 v5) := hD (own_set_t HV5.out HK3.out (by decide))
 have HK3 : Hid (Blk (w6.setCell ⟨w.heap.size + 1, 5, none⟩ (.slice A5 v5.length c5)) (w.heap.size + 1) 43 #[.int .i64 (v0 : Int), .int .i64 (v1 : Int), .int .i64 (v2 : Int), .int .i64 (v3 : Int), .slice A4 v4.length c4, .slice A5 v5.length c5, .slice none 0 0]) := hD (HK3.out.set_ 5 (.slice A5 v5.length c5))
 clear HRC x0 f0 x1 f1 x2 f2 x3 f3 x4 f4 x5 f5 x6 f6
 generalize w6.setCell ⟨w.heap.size + 1, 5, none⟩ (.slice A5 v5.length c5) = wx6 at HR6 HK2 HK3 HV4 HV5 |-
 go_upto_region 9 with (first
  | (go_at_call 27; refine (C6.out _ HR6.out.r).mono ?_; rintro en w7 ⟨A6, n6, c6, rfl, hv, hr, ho⟩; obtain rfl := own_len hv
     have HRC := hD (HR6.out.call hr ho)
     have HK2 := hD (HK2.out.grown ho (by simpa using hne))
     have HK3 := hD (HK3.out.grown ho (by simpa using hne3))
     have HV4 := hD (own_read HV4.out ho HBL.out)
     have HV5 := hD (own_read HV5.out ho HBL.out)
     have HV6 := hD (own_of HR6.out.size hv)
     have x0 := HK3.out.cell 0
     have f0 := HK3.out.frozen 0
     have x1 := HK3.out.cell 1
     have f1 := HK3.out.frozen 1
     have x2 := HK3.out.cell 2
     have f2 := HK3.out.frozen 2
     have x3 := HK3.out.cell 3
     have f3 := HK3.out.frozen 3
     have x4 := HK3.out.cell 4
     have f4 := HK3.out.frozen 4
     have x5 := HK3.out.cell 5
     have f5 := HK3.out.frozen 5
     have x6 := HK3.out.cell 6
     have f6 := HK3.out.frozen 6
     clear hr ho C6 hv)
  | fail)
 have HR7 : Hid (RgSt w (w7.setCell ⟨w.heap.size + 1, 6, none⟩ (.slice A6 v6.length c6)) b s7) := hD (HRC.out.set HK3.out (by decide) (by decide) (by omega))
 have HK2 := hD (HK2.out.set_other (i := 6) (u := .slice A6 v6.length c6) (b := w.heap.size + 1) (by omega))
 have HV4 : Hid (OwnB w (w7.setCell ⟨w.heap.size + 1, 6, none⟩ (.slice A6 v6.length c6)) A4 v4.length c4 v4) := hD (own_set_t HV4.out HK3.out (by decide))
 have HV5 : Hid (OwnB w (w7.setCell ⟨w.heap.size + 1, 6, none⟩ (.slice A6 v6.length c6)) A5 v5.length c5 v5) := hD (own_set_t HV5.out HK3.out (by decide))
 have HV6 : Hid (OwnB w (w7.setCell ⟨w.heap.size + 1, 6, none⟩ (.slice A6 v6.length c6)) A6 v6.length c6 v6) := hD (own_set_t HV6.out HK3.out (by decide))
 have HK3 : Hid (Blk (w7.setCell ⟨w.heap.size + 1, 6, none⟩ (.slice A6 v6.length c6)) (w.heap.size + 1) 43 #[.int .i64 (v0 : Int), .int .i64 (v1 : Int), .int .i64 (v2 : Int), .int .i64 (v3 : Int), .slice A4 v4.length c4, .slice A5 v5.length c5, .slice A6 v6.length c6]) := hD (HK3.out.set_ 6 (.slice A6 v6.length c6))
 clear HRC x0 f0 x1 f1 x2 f2 x3 f3 x4 f4 x5 f5 x6 f6
 generalize w7.setCell ⟨w.heap.size + 1, 6, none⟩ (.slice A6 v6.length c6) = wx7 at HR7 HK2 HK3 HV4 HV5 HV6 |-
 have HRN := HR7
 have x0 := HK2.out.cell 0
 have f0 := HK2.out.frozen 0
 have y0 := HK3.out.cell 0
 have x1 := HK2.out.cell 1
 have f1 := HK2.out.frozen 1
 have y1 := HK3.out.cell 1
 have x2 := HK2.out.cell 2
 have f2 := HK2.out.frozen 2
 have y2 := HK3.out.cell 2
 have x3 := HK2.out.cell 3
 have f3 := HK2.out.frozen 3
 have y3 := HK3.out.cell 3
 have x4 := HK2.out.cell 4
 have f4 := HK2.out.frozen 4
 have y4 := HK3.out.cell 4
 have x5 := HK2.out.cell 5
 have f5 := HK2.out.frozen 5
 have y5 := HK3.out.cell 5
 have x6 := HK2.out.cell 6
 have f6 := HK2.out.frozen 6
 have y6 := HK3.out.cell 6
 have HOK := hD (ok_any _ _ _ HRN.out.r)
 cases s7 with
 | none =>
   simp only [Option.isSome_none] at HOK
   go_wp2_with (first
    | (go_at_call 67; refine HOK.out.mono ?_; rintro en wq ⟨rfl, rfl⟩)
    | fail)
   have q0 := HK2.out
   have q1 := q0.set_ 0 (.int .i64 0)
   have q2 := q1.set_ 1 (.int .i64 0)
   have q3 := q2.set_ 2 (.int .i64 0)
   have q4 := q3.set_ 3 (.int .i64 0)
   have q5 := q4.set_ 4 (.slice none 0 0)
   have q6 := q5.set_ 5 (.slice none 0 0)
   have q7 := q6.set_ 6 (.slice none 0 0)
   refine bodyPost_ret (results_cell_row rfl _ _ _ _ _ _ _ rfl q7 Tryz.underlying43 rfl (by kernel_rfl)) rfl ?_
   have hrg := (((((((HRN.out).set (i := 0) (u := .int .i64 0) q0 (by decide) (by decide) lR).set (i := 1) (u := .int .i64 0) q1 (by decide) (by decide) lR).set (i := 2) (u := .int .i64 0) q2 (by decide) (by decide) lR).set (i := 3) (u := .int .i64 0) q3 (by decide) (by decide) lR).set (i := 4) (u := .slice none 0 0) q4 (by decide) (by decide) lR).set (i := 5) (u := .slice none 0 0) q5 (by decide) (by decide) lR).set (i := 6) (u := .slice none 0 0) q6 (by decide) (by decide) lR
   obtain ⟨hR, hS⟩ := HRES.out
   rw [hR, hS, if_pos (by trivial)]
   exact ⟨⟨none, 0, none, 0, none, 0⟩, rfl, ⟨own_nil _ _, own_nil _ _, own_nil _ _⟩, hrg.r, hrg.only⟩
 | some l7 =>
   simp only [Option.isSome_some] at HOK
   go_wp2_with (first
    | (go_at_call 67; refine HOK.out.mono ?_; rintro en wq ⟨rfl, rfl⟩)
    | fail)
   have q0 := HK2.out
   have q1 := q0.set_ 0 (.int .i64 (v0 : Int))
   have q2 := q1.set_ 1 (.int .i64 (v1 : Int))
   have q3 := q2.set_ 2 (.int .i64 (v2 : Int))
   have q4 := q3.set_ 3 (.int .i64 (v3 : Int))
   have q5 := q4.set_ 4 (.slice A4 v4.length c4)
   have q6 := q5.set_ 5 (.slice A5 v5.length c5)
   have q7 := q6.set_ 6 (.slice A6 v6.length c6)
   refine bodyPost_ret (results_cell_row rfl _ _ _ _ _ _ _ rfl q7 Tryz.underlying43 rfl (by kernel_rfl)) rfl ?_
   have hrg := (((((((HRN.out).set (i := 0) (u := .int .i64 (v0 : Int)) q0 (by decide) (by decide) lR).set (i := 1) (u := .int .i64 (v1 : Int)) q1 (by decide) (by decide) lR).set (i := 2) (u := .int .i64 (v2 : Int)) q2 (by decide) (by decide) lR).set (i := 3) (u := .int .i64 (v3 : Int)) q3 (by decide) (by decide) lR).set (i := 4) (u := .slice A4 v4.length c4) q4 (by decide) (by decide) lR).set (i := 5) (u := .slice A5 v5.length c5) q5 (by decide) (by decide) lR).set (i := 6) (u := .slice A6 v6.length c6) q6 (by decide) (by decide) lR
   obtain ⟨hR, hS⟩ := HRES.out
   rw [hR, hS, if_neg (by simp)]
   exact ⟨⟨A4, c4, A5, c5, A6, c6⟩, rfl, ⟨own_set_t (own_set_t (own_set_t (own_set_t (own_set_t (own_set_t (own_set_t (HV4.out) q0 (by decide)) q1 (by decide)) q2 (by decide)) q3 (by decide)) q4 (by decide)) q5 (by decide)) q6 (by decide), own_set_t (own_set_t (own_set_t (own_set_t (own_set_t (own_set_t (own_set_t (HV5.out) q0 (by decide)) q1 (by decide)) q2 (by decide)) q3 (by decide)) q4 (by decide)) q5 (by decide)) q6 (by decide), own_set_t (own_set_t (own_set_t (own_set_t (own_set_t (own_set_t (own_set_t (HV6.out) q0 (by decide)) q1 (by decide)) q2 (by decide)) q3 (by decide)) q4 (by decide)) q5 (by decide)) q6 (by decide)⟩, hrg.r, hrg.only⟩
def tab16 (j : Nat) : ByteArray := ([⟨#[]⟩, ⟨#[97]⟩, ⟨#[98]⟩, ⟨#[99]⟩, ⟨#[97, 98]⟩, ⟨#[97, 98, 99]⟩, ⟨#[122]⟩, ⟨#[0]⟩, ⟨#[255]⟩, ⟨#[97, 98, 99, 100, 101, 102, 103, 104]⟩, ⟨#[97, 98, 99, 100, 101, 102, 103, 104, 105]⟩, ⟨#[107, 49]⟩, ⟨#[107, 50]⟩, ⟨#[107, 51]⟩, ⟨#[107, 52]⟩, ⟨#[107, 53]⟩] : List ByteArray).getD j ⟨#[]⟩
def keyOf (n : Int) : List Nat := sb (tab16 (n % 16).toNat)
def GotKD (w : World) (k : List Nat) (e : Ending) (w' : World) : Prop := ∃ (g c : Nat), e = .returned (.slice (some ⟨g, 0, none⟩) k.length c) /\ Rd w' w'.heap.size (some ⟨g, 0, none⟩) k.length (bv k) /\ (∀ x ∈ k, x < 256) /\ k.length <= 9 /\ w.heap.size <= g /\ g < w'.heap.size /\ Below w.heap.size w w'
theorem gotKD_of {w w1 : World} (s : ByteArray) (cap : Nat) (t : TypeId) (mark : Nat × Nat) (hs : s.size <= 9) (hB : Below w.heap.size w w1) {g : Nat} (hg : w1.heap.size = g) : GotKD w (sb s) (.returned (.slice (some ⟨g, 0, none⟩) s.size cap)) (w1.alloc (.cells (bytesRow s cap) t mark)) := by
 subst hg
 have h := (Rd.of_string w1 s cap t mark).fit
 refine ⟨w1.heap.size, cap, by rw [sb_len], by rw [sb_len]; exact h, sb_lt s, by rw [sb_len]; exact hs, hB.size, by simp, hB.alloc hB.size _⟩
set_option maxHeartbeats 1000000 in
set_option maxRecDepth 100000 in
theorem keysD_any (n : Int) (w : World) : Calls Tryz.prog 88 #[.int .i64 n] w (GotKD w (keyOf n)) := by
 obtain ⟨j, hj, hj16, hjn⟩ : ∃ j : Nat, bits .and .i64 n 15 = (j : Int) /\ j < 16 /\ (n % 16).toNat = j := by
  rw [and_15]
  have h1 := Int.emod_nonneg n (show (16 : Int) ≠ 0 by omega)
  exact ⟨(n % 16).toNat, by omega, by omega, rfl⟩
 unfold keyOf
 rw [hjn]
 clear hjn
 have kc := fun (w : World) (s : ByteArray) => run_bytes_of_string (P := Tryz.prog) w 9 23 5 s Tryz.underlying9 Tryz.underlying23 Tryz.underlying5
 have hji : (j : Int) < 16 := by omega
 have HJ := hD (show j = 0 \/ j = 1 \/ j = 2 \/ j = 3 \/ j = 4 \/ j = 5 \/ j = 6 \/ j = 7 \/ j = 8 \/ j = 9 \/ j = 10 \/ j = 11 \/ j = 12 \/ j = 13 \/ j = 14 \/ j = 15 by omega)
 clear hji
 rcases HJ.out with rfl | rfl | rfl | rfl | rfl | rfl | rfl | rfl | rfl | rfl | rfl | rfl | rfl | rfl | rfl | rfl
 all_goals clear HJ
 all_goals go_enter Tryz.func88, Tryz.ntmps88
 all_goals go_wp2
 all_goals go_ret
 · exact gotKD_of (⟨#[]⟩ : ByteArray) _ _ _ (by decide) ((Below.refl _ _).alloc lR _).drew (by simp)
 · exact gotKD_of (⟨#[97]⟩ : ByteArray) _ _ _ (by decide) ((Below.refl _ _).alloc lR _).drew (by simp)
 · exact gotKD_of (⟨#[98]⟩ : ByteArray) _ _ _ (by decide) ((Below.refl _ _).alloc lR _).drew (by simp)
 · exact gotKD_of (⟨#[99]⟩ : ByteArray) _ _ _ (by decide) ((Below.refl _ _).alloc lR _).drew (by simp)
 · exact gotKD_of (⟨#[97, 98]⟩ : ByteArray) _ _ _ (by decide) ((Below.refl _ _).alloc lR _).drew (by simp)
 · exact gotKD_of (⟨#[97, 98, 99]⟩ : ByteArray) _ _ _ (by decide) ((Below.refl _ _).alloc lR _).drew (by simp)
 · exact gotKD_of (⟨#[122]⟩ : ByteArray) _ _ _ (by decide) ((Below.refl _ _).alloc lR _).drew (by simp)
 · exact gotKD_of (⟨#[0]⟩ : ByteArray) _ _ _ (by decide) ((Below.refl _ _).alloc lR _).drew (by simp)
 · exact gotKD_of (⟨#[255]⟩ : ByteArray) _ _ _ (by decide) ((Below.refl _ _).alloc lR _).drew (by simp)
 · exact gotKD_of (⟨#[97, 98, 99, 100, 101, 102, 103, 104]⟩ : ByteArray) _ _ _ (by decide) ((Below.refl _ _).alloc lR _).drew (by simp)
 · exact gotKD_of (⟨#[97, 98, 99, 100, 101, 102, 103, 104, 105]⟩ : ByteArray) _ _ _ (by decide) ((Below.refl _ _).alloc lR _).drew (by simp)
 · exact gotKD_of (⟨#[107, 49]⟩ : ByteArray) _ _ _ (by decide) ((Below.refl _ _).alloc lR _).drew (by simp)
 · exact gotKD_of (⟨#[107, 50]⟩ : ByteArray) _ _ _ (by decide) ((Below.refl _ _).alloc lR _).drew (by simp)
 · exact gotKD_of (⟨#[107, 51]⟩ : ByteArray) _ _ _ (by decide) ((Below.refl _ _).alloc lR _).drew (by simp)
 · exact gotKD_of (⟨#[107, 52]⟩ : ByteArray) _ _ _ (by decide) ((Below.refl _ _).alloc lR _).drew (by simp)
 · exact gotKD_of (⟨#[107, 53]⟩ : ByteArray) _ _ _ (by decide) ((Below.refl _ _).alloc lR _).drew (by simp)
def cmdOf (n : Int) : Cm :=
 ⟨if n / 524288 % 32 = 0 then n / 16777216 % 32 else if n % 32 % 13 = 0 \/ n % 32 % 13 = 12 then tabk (n / 131072 % 4).toNat else n % 32 % 13,
  if n / 524288 % 32 = 0 then n / 131072 % 2048 - 20 else n / 256 % 8, keyOf (n / 2048), sb (tab8 (n / 32 % 8).toNat), sb (tab4 (n / 32768 % 4).toNat)⟩
set_option maxRecDepth 100000 in
set_option maxHeartbeats 8000000 in
theorem cmdZ_det (n : Int) (w : World) : Calls Tryz.prog 47 #[.int .i64 n] w fun e w' => ∃ ca, e = .returned (cmdV ca (cmdOf n)) /\ (cmdOf n).Fits /\ RdC w' w'.heap.size ca (cmdOf n) /\ ca.Z /\ Below w.heap.size w w' := by
 obtain ⟨lk, hlk0⟩ : ∃ l, keyOf (n / 2048) = l := ⟨_, rfl⟩
 have HKD : Hid (∀ w, Calls Tryz.prog 88 #[.int .i64 (n / 2048)] w (GotKD w lk)) := hD (fun w => by rw [<- hlk0]; exact keysD_any _ w)
 have HLK := hD hlk0
 clear hlk0
 obtain ⟨j, hj, hj8, hjn⟩ : ∃ j : Nat, bits .and .i64 (n / 32) 7 = (j : Int) /\ j < 8 /\ (n / 32 % 8).toNat = j := by
  rw [and_7]; have h1 := Int.emod_nonneg (n / 32) (show (8 : Int) ≠ 0 by omega); exact ⟨(n / 32 % 8).toNat, by omega, by omega, rfl⟩
 have HJN := hD hjn
 clear hjn
 obtain ⟨i, hi, hi4, hin⟩ : ∃ j : Nat, bits .and .i64 (n / 32768) 3 = (j : Int) /\ j < 4 /\ (n / 32768 % 4).toNat = j := by
  rw [and_3]; have h1 := Int.emod_nonneg (n / 32768) (show (4 : Int) ≠ 0 by omega); exact ⟨(n / 32768 % 4).toNat, by omega, by omega, rfl⟩
 have HIN := hD hin
 clear hin
 have kc := fun (w : World) (s : ByteArray) => run_bytes_of_string (P := Tryz.prog) w 9 23 5 s Tryz.underlying9 Tryz.underlying23 Tryz.underlying5
 obtain ⟨m, hm, hm32, hmn⟩ : ∃ j : Nat, bits .and .i64 n 31 = (j : Int) /\ j < 32 /\ n % 32 = (j : Int) := by
  rw [and_31]; have h1 := Int.emod_nonneg n (show (32 : Int) ≠ 0 by omega); exact ⟨(n % 32).toNat, by omega, by omega, by omega⟩
 obtain ⟨y, hy, hy8, hyn⟩ : ∃ j : Nat, bits .and .i64 (n / 256) 7 = (j : Int) /\ j < 8 /\ n / 256 % 8 = (j : Int) := by
  rw [and_7]; have h1 := Int.emod_nonneg (n / 256) (show (8 : Int) ≠ 0 by omega); exact ⟨(n / 256 % 8).toNat, by omega, by omega, by omega⟩
 have HYN := hD hyn
 clear hyn
 obtain ⟨x, hx, hx13, hxn⟩ : ∃ x : Nat, (m : Int).tmod 13 = (x : Int) /\ x < 13 /\ n % 32 % 13 = (x : Int) := ⟨m % 13, by rw [Int.tmod_eq_emod_of_nonneg (by omega)]; omega, by omega, by omega⟩
 have HXN := hD hxn
 clear hxn hmn
 have hxw : IntKind.i64.wrap (x : Int) = (x : Int) := IntWalk.i64_in _ (by omega)
 have h8 := tab8_at j
 have hji : (j : Int) < 8 := by omega
 go_enter Tryz.func47, Tryz.ntmps47
 go_upto_region 1 with fail
 go_cut [3] from 5 to 11 (fun s3 wx => ∃ (gv cp : Nat) (l : List Nat), s3 = .slice (some ⟨gv, 0, none⟩) l.length cp /\ Hid (l = sb (tab8 j)) /\ Hid (Rd wx wx.heap.size (some ⟨gv, 0, none⟩) l.length (bv l) /\ w.heap.size ≠ gv) /\ Hid ((∀ x ∈ l, x < 256) /\ l.length <= 17) /\ Hid (Blk wx w.heap.size 41 #[.int .i64 0, .int .i64 0, .slice none 0 0, .slice none 0 0, .slice none 0 0] /\ Below w.heap.size w wx))
 case first =>
  go_wp2_with fail
  go_meet
  have hk0 : Blk (w.alloc (.cells #[.int .i64 0, .int .i64 0, .slice none 0 0, .slice none 0 0, .slice none 0 0] 41)) w.heap.size 41 #[.int .i64 0, .int .i64 0, .slice none 0 0, .slice none 0 0, .slice none 0 0] := Blk.new _ _ _
  refine ⟨_, _, sb (tab8 j), by rw [sb_len], hD rfl, hD ⟨Rd.of_stringAt _ (tab8 j) _ _ _ (by simp), by omega⟩, hD ⟨sb_lt _, by rw [sb_len]; exact tab8_size j hj8⟩, hD ⟨((hk0.alloc _).drew.alloc _), ((((Below.refl _ _).alloc lR _).alloc (by simp) _).drew).alloc (by simp; omega) _⟩⟩
 case rest =>
  obtain ⟨gv, cv, lv, rfl, HLV, HV, HVB, HX⟩ := hcut
  obtain ⟨Av, hAv⟩ : ∃ x : Option Addr, some ⟨gv, 0, none⟩ = x := ⟨_, rfl⟩
  rw [hAv]
  have HAV := hD hAv
  clear hAv
  rename World => wz
  have HJ8 := hD h8
  clear h8 hj hji
  have h4 := tab4_at i
  have hii : (i : Int) < 4 := by omega
  go_upto_region 2 with fail
  go_cut [4] from 12 to 30 (fun s4 wx => ∃ (g gk go ck co : Nat), s4 = .pointer (some ⟨g, 0, none⟩) /\ Hid (CmdS wz wx g gk go ck co Av cv lk lv (sb (tab4 i)) (x : Int) (y : Int)) /\ Hid ((∀ x ∈ lk, x < 256) /\ lk.length <= 9 /\ (∀ x ∈ sb (tab4 i), x < 256) /\ (sb (tab4 i)).length <= 2))
  case first =>
   refine region_T (n := 20) (S := fun w' => Below wz.heap.size wz w') (by kernel_rfl) ?_
   have hS0 : Below wz.heap.size wz wz.drew := (Below.refl _ _).drew
   generalize wz.drew = w4 at hS0 |-
   have hS := hD hS0
   clear hS0
   refine AnyT.take (i := 0) (v := .int .i64 n) rfl (by kernel_rfl) (by kernel_rfl) (by kernel_rfl) (by kernel_rfl) (fun _ _ _ h => h) (Or.inl ⟨by kernel_rfl, fun w _ => by go_simp⟩) hS.out ?_
   refine AnyT.take (i := 1) (v := .int .i64 (m : Int)) rfl (by kernel_rfl) (by kernel_rfl) (by kernel_rfl) (by kernel_rfl) (fun _ _ _ h => h) (Or.inl ⟨by kernel_rfl, fun w _ => by go_simp⟩) hS.out ?_
   refine AnyT.take (i := 2) (v := .int .i64 (x : Int)) rfl (by kernel_rfl) (by kernel_rfl) (by kernel_rfl) (by kernel_rfl) (fun _ _ _ h => h) (Or.inl ⟨by kernel_rfl, fun w _ => by go_simp⟩) hS.out ?_
   refine AnyT.take (i := 3) (v := .int .i64 (x : Int)) rfl (by kernel_rfl) (by kernel_rfl) (by kernel_rfl) (by kernel_rfl) (fun _ _ _ h => h) (Or.inl ⟨by kernel_rfl, fun w _ => by go_simp⟩) hS.out ?_
   refine AnyT.take (i := 4) (v := .int .i64 n) rfl (by kernel_rfl) (by kernel_rfl) (by kernel_rfl) (by kernel_rfl) (fun _ _ _ h => h) (Or.inl ⟨by kernel_rfl, fun w _ => by go_simp⟩) hS.out ?_
   refine AnyT.take (i := 5) (v := .int .i64 (n / 256)) rfl (by kernel_rfl) (by kernel_rfl) (by kernel_rfl) (by kernel_rfl) (fun _ _ _ h => h) (Or.inl ⟨by kernel_rfl, fun w _ => by go_simp⟩) hS.out ?_
   refine AnyT.take (i := 6) (v := .int .i64 (y : Int)) rfl (by kernel_rfl) (by kernel_rfl) (by kernel_rfl) (by kernel_rfl) (fun _ _ _ h => h) (Or.inl ⟨by kernel_rfl, fun w _ => by go_simp⟩) hS.out ?_
   refine AnyT.take (i := 7) (v := .int .i64 n) rfl (by kernel_rfl) (by kernel_rfl) (by kernel_rfl) (by kernel_rfl) (fun _ _ _ h => h) (Or.inl ⟨by kernel_rfl, fun w _ => by go_simp⟩) hS.out ?_
   refine AnyT.take (i := 8) (v := .int .i64 (n / 2048)) rfl (by kernel_rfl) (by kernel_rfl) (by kernel_rfl) (by kernel_rfl) (fun _ _ _ h => h) (Or.inl ⟨by kernel_rfl, fun w _ => by go_simp⟩) hS.out ?_
   refine AnyT.take (i := 10) (v := .slice Av lv.length cv) rfl (by kernel_rfl) (by kernel_rfl) (by kernel_rfl) (by kernel_rfl) (fun _ _ _ h => h) (Or.inl ⟨by kernel_rfl, fun w _ => by go_simp⟩) hS.out ?_
   refine AnyT.take (i := 12) (v := .int .i64 n) rfl (by kernel_rfl) (by kernel_rfl) (by kernel_rfl) (by kernel_rfl) (fun _ _ _ h => h) (Or.inl ⟨by kernel_rfl, fun w _ => by go_simp⟩) hS.out ?_
   refine AnyT.take (i := 13) (v := .int .i64 (n / 32768)) rfl (by kernel_rfl) (by kernel_rfl) (by kernel_rfl) (by kernel_rfl) (fun _ _ _ h => h) (Or.inl ⟨by kernel_rfl, fun w _ => by go_simp⟩) hS.out ?_
   refine AnyT.take (i := 14) (v := .int .i64 (i : Int)) rfl (by kernel_rfl) (by kernel_rfl) (by kernel_rfl) (by kernel_rfl) (fun _ _ _ h => h) (Or.inl ⟨by kernel_rfl, fun w _ => by go_simp⟩) hS.out ?_
   refine AnyT.ready (rs := [9, 11, 19]) (by kernel_rfl) (by simp) ?_
   refine AllT.cons rfl (fun K hK => ?_) (AllT.cons rfl (fun K hK => ?_) (AllT.cons rfl (fun K hK => ?_) AllT.nil))
   · go_simp
     have hSz := hS.out.size
     refine (HKD.out _).mono ?_
     rintro e w9 ⟨gk, ck, rfl, hrk, hlk, hlk9, hgk1, hgk2, hb9⟩
     have hS := hD (hS.out.trans (hb9.mono hS.out.size))
     have hzk : wz.heap.size <= gk := by omega
     go_simp
     refine hK.out _ _ (Or.inr hS.out) (fun _ => ?_)
     clear hK K
     refine AnyT.ready (rs := [11, 19]) (by kernel_rfl) (by simp) ?_
     refine AllT.cons rfl (fun K hK => ?_) (AllT.cons rfl (fun K hK => ?_) AllT.nil)
     · go_simp
       obtain ⟨gB, hgB⟩ : ∃ g, w9.heap.size = g := ⟨_, rfl⟩
       rw [hgB]
       have hbB : Below w9.heap.size w9 (w9.alloc (.cells #[.string ⟨#[]⟩, .string ⟨#[97]⟩, .string ⟨#[98]⟩, .string ⟨#[97, 98]⟩] 9)) := (Below.refl _ _).alloc lR _
       have hS := hD (hS.out.trans (hbB.mono hS.out.size))
       have hrk := (hrk.below hbB).fit
       have hgk2 := Nat.lt_of_lt_of_le hgk2 hbB.size
       have hkB : Blk (w9.alloc (.cells #[.string ⟨#[]⟩, .string ⟨#[97]⟩, .string ⟨#[98]⟩, .string ⟨#[97, 98]⟩] 9)) gB 9 #[.string ⟨#[]⟩, .string ⟨#[97]⟩, .string ⟨#[98]⟩, .string ⟨#[97, 98]⟩] := by rw [<- hgB]; exact Blk.new _ _ _
       obtain ⟨wB, hwB⟩ : ∃ x, (w9.alloc (.cells #[.string ⟨#[]⟩, .string ⟨#[97]⟩, .string ⟨#[98]⟩, .string ⟨#[97, 98]⟩] 9)) = x := ⟨_, rfl⟩
       rw [hwB] at hS hkB hrk hgk2 |-
       clear hwB hbB hgB
       go_simp
       refine hK.out _ _ (Or.inr hS.out) (fun _ => ?_)
       clear hK K
       refine AnyT.take (i := 15) (v := .pointer (some ⟨gB, i, none⟩)) rfl (by kernel_rfl) (by kernel_rfl) (by kernel_rfl) (by kernel_rfl) (fun _ _ _ h => h) (Or.inl ⟨by kernel_rfl, fun w _ => by go_simp⟩) hS.out ?_
       refine AnyT.ready (rs := [16, 19]) (by kernel_rfl) (by simp) ?_
       refine AllT.cons rfl (fun K hK => ?_) (AllT.cons rfl (fun K hK => ?_) AllT.nil)
       · have hcB : wB.cell? ⟨gB, i, none⟩ = some (.string (tab4 i)) := by rw [hkB.cell]; have hl : i < (#[Value.string ⟨#[]⟩, .string ⟨#[97]⟩, .string ⟨#[98]⟩, .string ⟨#[97, 98]⟩] : Array Value).size := hi4; rw [Array.getElem?_eq_getElem hl]; congr 1; exact tab4_at i hi4
         go_simp
         refine hK.out _ _ (Or.inr hS.out) (fun _ => ?_)
         clear hK K
         refine AnyT.ready (rs := [17, 19]) (by kernel_rfl) (by simp) ?_
         refine AllT.cons rfl (fun K hK => ?_) (AllT.cons rfl (fun K hK => ?_) AllT.nil)
         · go_simp
           obtain ⟨go, hgo⟩ : ∃ g, wB.heap.size = g := ⟨_, rfl⟩
           rw [hgo]
           have hzo : wz.heap.size <= go := by have := hS.out.size; omega
           have hb7 : Below wB.heap.size wB ((wB.alloc (.cells (bytesRow (tab4 i) (grownCap wB (tab4 i).size 0 5)) 5 ((bytesRow (tab4 i) (grownCap wB (tab4 i).size 0 5)).size, (bytesRow (tab4 i) (grownCap wB (tab4 i).size 0 5)).size + 1))).drew) := ((Below.refl _ _).alloc lR _).drew
           have hS := hD (hS.out.trans (hb7.mono hS.out.size))
           have hrk := (hrk.below hb7).fit
           have hgk2 := Nat.lt_of_lt_of_le hgk2 hb7.size
           have hkB := hkB.below hb7
           have hro : Rd ((wB.alloc (.cells (bytesRow (tab4 i) (grownCap wB (tab4 i).size 0 5)) 5 ((bytesRow (tab4 i) (grownCap wB (tab4 i).size 0 5)).size, (bytesRow (tab4 i) (grownCap wB (tab4 i).size 0 5)).size + 1))).drew) ((wB.alloc (.cells (bytesRow (tab4 i) (grownCap wB (tab4 i).size 0 5)) 5 ((bytesRow (tab4 i) (grownCap wB (tab4 i).size 0 5)).size, (bytesRow (tab4 i) (grownCap wB (tab4 i).size 0 5)).size + 1))).drew).heap.size (some ⟨go, 0, none⟩) (sb (tab4 i)).length (bv (sb (tab4 i))) := Rd.of_stringAt _ _ _ _ _ hgo
           have hgo2 : go < ((wB.alloc (.cells (bytesRow (tab4 i) (grownCap wB (tab4 i).size 0 5)) 5 ((bytesRow (tab4 i) (grownCap wB (tab4 i).size 0 5)).size, (bytesRow (tab4 i) (grownCap wB (tab4 i).size 0 5)).size + 1))).drew).heap.size := by rw [<- hgo]; simp
           obtain ⟨co, hco⟩ : ∃ x, grownCap wB (tab4 i).size 0 5 = x := ⟨_, rfl⟩
           rw [hco] at hS hro hgo2 hrk hgk2 hkB |-
           obtain ⟨wD, hwD⟩ : ∃ x, (wB.alloc (.cells (bytesRow (tab4 i) co) 5 ((bytesRow (tab4 i) co).size, (bytesRow (tab4 i) co).size + 1))).drew = x := ⟨_, rfl⟩
           rw [hwD] at hS hro hgo2 hrk hgk2 hkB |-
           clear hwD hco hb7 hgo
           go_simp
           refine hK.out _ _ (Or.inr hS.out) (fun _ => ?_)
           clear hK K
           refine AnyT.take (i := 18) (v := .agg #[.int .i64 (x : Int), .int .i64 (y : Int), .slice (some ⟨gk, 0, none⟩) lk.length ck, .slice Av lv.length cv, .slice (some ⟨go, 0, none⟩) (sb (tab4 i)).length co]) rfl (by kernel_rfl) (by kernel_rfl) (by kernel_rfl) (by kernel_rfl) (fun _ _ _ h => h) (Or.inl ⟨by kernel_rfl, fun w _ => by go_simp; simp [sb_len]⟩) hS.out ?_
           refine AnyT.ready (rs := [19]) (by kernel_rfl) (by simp) ?_
           refine AllT.cons rfl (fun K hK => ?_) AllT.nil
           go_simp
           obtain ⟨g4, hg4⟩ : ∃ g, wD.heap.size = g := ⟨_, rfl⟩
           rw [hg4]
           have hnk : g4 ≠ gk := by omega
           have hno : g4 ≠ go := by omega
           have hz4 : wz.heap.size <= g4 := by have := hS.out.size; omega
           have hb4 : Below wD.heap.size wD (wD.alloc (.cells #[.int .i64 0, .int .i64 0, .slice none 0 0, .slice none 0 0, .slice none 0 0] 41)) := (Below.refl _ _).alloc lR _
           have hS := hD (hS.out.trans (hb4.mono hS.out.size))
           have hrk := (hrk.below hb4).fit
           have hgk2 := Nat.lt_of_lt_of_le hgk2 hb4.size
           have hro := (hro.below hb4).fit
           have hgo2 := Nat.lt_of_lt_of_le hgo2 hb4.size
           have hk4 : Blk (wD.alloc (.cells #[.int .i64 0, .int .i64 0, .slice none 0 0, .slice none 0 0, .slice none 0 0] 41)) g4 41 #[.int .i64 0, .int .i64 0, .slice none 0 0, .slice none 0 0, .slice none 0 0] := by rw [<- hg4]; exact Blk.new _ _ _
           have hg42 := hk4.lt
           obtain ⟨wC, hwC⟩ : ∃ x, (wD.alloc (.cells #[.int .i64 0, .int .i64 0, .slice none 0 0, .slice none 0 0, .slice none 0 0] 41)) = x := ⟨_, rfl⟩
           rw [hwC] at hS hk4 hg42 hrk hgk2 hro hgo2 |-
           clear hwC hb4 hg4
           go_simp
           refine hK.out _ _ (Or.inr hS.out) (fun _ => ?_)
           clear hK K
           refine AnyT.ready (rs := [20]) (by kernel_rfl) (by simp) ?_
           refine AllT.cons rfl (fun K hK => ?_) AllT.nil
           obtain ⟨c0, c1, c2, c3, c4⟩ := five hk4
           have f0 := hk4.frozen 0
           have f1 := hk4.frozen 1
           have f2 := hk4.frozen 2
           have f3 := hk4.frozen 3
           have f4 := hk4.frozen 4
           go_simp
           refine hK.out _ _ (Or.inl rfl) (fun _ => ?_)
           clear hK K
           refine AnyT.done (by kernel_rfl) ?_ _
           go_wp2_with fail
           go_meet
           have hk5 := ((((hk4.set_ 0 (.int .i64 (x : Int))).set_ 1 (.int .i64 (y : Int))).set_ 2 (.slice (some ⟨gk, 0, none⟩) lk.length ck)).set_ 3 (.slice Av lv.length cv)).set_ 4 (.slice (some ⟨go, 0, none⟩) (sb (tab4 i)).length co)
           have hs : (sb (tab4 i)).length = (tab4 i).size := sb_len _
           rw [hs] at hro hk5
           refine ⟨g4, gk, go, ck, co, rfl, hD ⟨by rw [hs]; exact hk5, hz4, hzk, hzo, hnk, hno, ((((hrk.set_ne hnk).set_ne hnk).set_ne hnk).set_ne hnk).set_ne hnk, by rw [hs]; exact ((((hro.set_ne hno).set_ne hno).set_ne hno).set_ne hno).set_ne hno, ((((hS.out.setCell (p := ⟨g4, 0, none⟩) hz4 _).setCell (p := ⟨g4, 1, none⟩) hz4 _).setCell (p := ⟨g4, 2, none⟩) hz4 _).setCell (p := ⟨g4, 3, none⟩) hz4 _).setCell (p := ⟨g4, 4, none⟩) hz4 _⟩, hD ⟨hlk, hlk9, sb_lt _, by rw [sb_len]; exact tab4_size i hi4⟩⟩
         · go_simp
           obtain ⟨g4, hg4⟩ : ∃ g, wB.heap.size = g := ⟨_, rfl⟩
           rw [hg4]
           have hnk : g4 ≠ gk := by omega
           have hz4 : wz.heap.size <= g4 := by have := hS.out.size; omega
           have hb4 : Below wB.heap.size wB (wB.alloc (.cells #[.int .i64 0, .int .i64 0, .slice none 0 0, .slice none 0 0, .slice none 0 0] 41)) := (Below.refl _ _).alloc lR _
           have hS := hD (hS.out.trans (hb4.mono hS.out.size))
           have hrk := (hrk.below hb4).fit
           have hgk2 := Nat.lt_of_lt_of_le hgk2 hb4.size
           have hkB := hkB.below hb4
           have hk4 : Blk (wB.alloc (.cells #[.int .i64 0, .int .i64 0, .slice none 0 0, .slice none 0 0, .slice none 0 0] 41)) g4 41 #[.int .i64 0, .int .i64 0, .slice none 0 0, .slice none 0 0, .slice none 0 0] := by rw [<- hg4]; exact Blk.new _ _ _
           have hg42 := hk4.lt
           obtain ⟨wC, hwC⟩ : ∃ x, (wB.alloc (.cells #[.int .i64 0, .int .i64 0, .slice none 0 0, .slice none 0 0, .slice none 0 0] 41)) = x := ⟨_, rfl⟩
           rw [hwC] at hS hk4 hg42 hrk hgk2 hkB |-
           clear hwC hb4 hg4
           go_simp
           refine hK.out _ _ (Or.inr hS.out) (fun _ => ?_)
           clear hK K
           refine AnyT.ready (rs := [17]) (by kernel_rfl) (by simp) ?_
           refine AllT.cons rfl (fun K hK => ?_) AllT.nil
           go_simp
           obtain ⟨go, hgo⟩ : ∃ g, wC.heap.size = g := ⟨_, rfl⟩
           rw [hgo]
           have hzo : wz.heap.size <= go := by have := hS.out.size; omega
           have hno : g4 ≠ go := by omega
           have hb7 : Below wC.heap.size wC ((wC.alloc (.cells (bytesRow (tab4 i) (grownCap wC (tab4 i).size 0 5)) 5 ((bytesRow (tab4 i) (grownCap wC (tab4 i).size 0 5)).size, (bytesRow (tab4 i) (grownCap wC (tab4 i).size 0 5)).size + 1))).drew) := ((Below.refl _ _).alloc lR _).drew
           have hS := hD (hS.out.trans (hb7.mono hS.out.size))
           have hrk := (hrk.below hb7).fit
           have hgk2 := Nat.lt_of_lt_of_le hgk2 hb7.size
           have hkB := hkB.below hb7
           have hk4 := hk4.below hb7
           have hg42 := Nat.lt_of_lt_of_le hg42 hb7.size
           have hro : Rd ((wC.alloc (.cells (bytesRow (tab4 i) (grownCap wC (tab4 i).size 0 5)) 5 ((bytesRow (tab4 i) (grownCap wC (tab4 i).size 0 5)).size, (bytesRow (tab4 i) (grownCap wC (tab4 i).size 0 5)).size + 1))).drew) ((wC.alloc (.cells (bytesRow (tab4 i) (grownCap wC (tab4 i).size 0 5)) 5 ((bytesRow (tab4 i) (grownCap wC (tab4 i).size 0 5)).size, (bytesRow (tab4 i) (grownCap wC (tab4 i).size 0 5)).size + 1))).drew).heap.size (some ⟨go, 0, none⟩) (sb (tab4 i)).length (bv (sb (tab4 i))) := Rd.of_stringAt _ _ _ _ _ hgo
           have hgo2 : go < ((wC.alloc (.cells (bytesRow (tab4 i) (grownCap wC (tab4 i).size 0 5)) 5 ((bytesRow (tab4 i) (grownCap wC (tab4 i).size 0 5)).size, (bytesRow (tab4 i) (grownCap wC (tab4 i).size 0 5)).size + 1))).drew).heap.size := by rw [<- hgo]; simp
           obtain ⟨co, hco⟩ : ∃ x, grownCap wC (tab4 i).size 0 5 = x := ⟨_, rfl⟩
           rw [hco] at hS hro hgo2 hrk hgk2 hkB hk4 hg42 |-
           obtain ⟨wD, hwD⟩ : ∃ x, (wC.alloc (.cells (bytesRow (tab4 i) co) 5 ((bytesRow (tab4 i) co).size, (bytesRow (tab4 i) co).size + 1))).drew = x := ⟨_, rfl⟩
           rw [hwD] at hS hro hgo2 hrk hgk2 hkB hk4 hg42 |-
           clear hwD hco hb7 hgo
           go_simp
           refine hK.out _ _ (Or.inr hS.out) (fun _ => ?_)
           clear hK K
           refine AnyT.take (i := 18) (v := .agg #[.int .i64 (x : Int), .int .i64 (y : Int), .slice (some ⟨gk, 0, none⟩) lk.length ck, .slice Av lv.length cv, .slice (some ⟨go, 0, none⟩) (sb (tab4 i)).length co]) rfl (by kernel_rfl) (by kernel_rfl) (by kernel_rfl) (by kernel_rfl) (fun _ _ _ h => h) (Or.inl ⟨by kernel_rfl, fun w _ => by go_simp; simp [sb_len]⟩) hS.out ?_
           refine AnyT.ready (rs := [20]) (by kernel_rfl) (by simp) ?_
           refine AllT.cons rfl (fun K hK => ?_) AllT.nil
           obtain ⟨c0, c1, c2, c3, c4⟩ := five hk4
           have f0 := hk4.frozen 0
           have f1 := hk4.frozen 1
           have f2 := hk4.frozen 2
           have f3 := hk4.frozen 3
           have f4 := hk4.frozen 4
           go_simp
           refine hK.out _ _ (Or.inl rfl) (fun _ => ?_)
           clear hK K
           refine AnyT.done (by kernel_rfl) ?_ _
           go_wp2_with fail
           go_meet
           have hk5 := ((((hk4.set_ 0 (.int .i64 (x : Int))).set_ 1 (.int .i64 (y : Int))).set_ 2 (.slice (some ⟨gk, 0, none⟩) lk.length ck)).set_ 3 (.slice Av lv.length cv)).set_ 4 (.slice (some ⟨go, 0, none⟩) (sb (tab4 i)).length co)
           have hs : (sb (tab4 i)).length = (tab4 i).size := sb_len _
           rw [hs] at hro hk5
           refine ⟨g4, gk, go, ck, co, rfl, hD ⟨by rw [hs]; exact hk5, hz4, hzk, hzo, hnk, hno, ((((hrk.set_ne hnk).set_ne hnk).set_ne hnk).set_ne hnk).set_ne hnk, by rw [hs]; exact ((((hro.set_ne hno).set_ne hno).set_ne hno).set_ne hno).set_ne hno, ((((hS.out.setCell (p := ⟨g4, 0, none⟩) hz4 _).setCell (p := ⟨g4, 1, none⟩) hz4 _).setCell (p := ⟨g4, 2, none⟩) hz4 _).setCell (p := ⟨g4, 3, none⟩) hz4 _).setCell (p := ⟨g4, 4, none⟩) hz4 _⟩, hD ⟨hlk, hlk9, sb_lt _, by rw [sb_len]; exact tab4_size i hi4⟩⟩
       · go_simp
         obtain ⟨g4, hg4⟩ : ∃ g, wB.heap.size = g := ⟨_, rfl⟩
         rw [hg4]
         have hnk : g4 ≠ gk := by omega
         have hz4 : wz.heap.size <= g4 := by have := hS.out.size; omega
         have hb4 : Below wB.heap.size wB (wB.alloc (.cells #[.int .i64 0, .int .i64 0, .slice none 0 0, .slice none 0 0, .slice none 0 0] 41)) := (Below.refl _ _).alloc lR _
         have hS := hD (hS.out.trans (hb4.mono hS.out.size))
         have hrk := (hrk.below hb4).fit
         have hgk2 := Nat.lt_of_lt_of_le hgk2 hb4.size
         have hkB := hkB.below hb4
         have hk4 : Blk (wB.alloc (.cells #[.int .i64 0, .int .i64 0, .slice none 0 0, .slice none 0 0, .slice none 0 0] 41)) g4 41 #[.int .i64 0, .int .i64 0, .slice none 0 0, .slice none 0 0, .slice none 0 0] := by rw [<- hg4]; exact Blk.new _ _ _
         have hg42 := hk4.lt
         obtain ⟨wC, hwC⟩ : ∃ x, (wB.alloc (.cells #[.int .i64 0, .int .i64 0, .slice none 0 0, .slice none 0 0, .slice none 0 0] 41)) = x := ⟨_, rfl⟩
         rw [hwC] at hS hk4 hg42 hrk hgk2 hkB |-
         clear hwC hb4 hg4
         go_simp
         refine hK.out _ _ (Or.inr hS.out) (fun _ => ?_)
         clear hK K
         refine AnyT.ready (rs := [16]) (by kernel_rfl) (by simp) ?_
         refine AllT.cons rfl (fun K hK => ?_) AllT.nil
         have hcB : wC.cell? ⟨gB, i, none⟩ = some (.string (tab4 i)) := by rw [hkB.cell]; have hl : i < (#[Value.string ⟨#[]⟩, .string ⟨#[97]⟩, .string ⟨#[98]⟩, .string ⟨#[97, 98]⟩] : Array Value).size := hi4; rw [Array.getElem?_eq_getElem hl]; congr 1; exact tab4_at i hi4
         go_simp
         refine hK.out _ _ (Or.inr hS.out) (fun _ => ?_)
         clear hK K
         refine AnyT.ready (rs := [17]) (by kernel_rfl) (by simp) ?_
         refine AllT.cons rfl (fun K hK => ?_) AllT.nil
         go_simp
         obtain ⟨go, hgo⟩ : ∃ g, wC.heap.size = g := ⟨_, rfl⟩
         rw [hgo]
         have hzo : wz.heap.size <= go := by have := hS.out.size; omega
         have hno : g4 ≠ go := by omega
         have hb7 : Below wC.heap.size wC ((wC.alloc (.cells (bytesRow (tab4 i) (grownCap wC (tab4 i).size 0 5)) 5 ((bytesRow (tab4 i) (grownCap wC (tab4 i).size 0 5)).size, (bytesRow (tab4 i) (grownCap wC (tab4 i).size 0 5)).size + 1))).drew) := ((Below.refl _ _).alloc lR _).drew
         have hS := hD (hS.out.trans (hb7.mono hS.out.size))
         have hrk := (hrk.below hb7).fit
         have hgk2 := Nat.lt_of_lt_of_le hgk2 hb7.size
         have hkB := hkB.below hb7
         have hk4 := hk4.below hb7
         have hg42 := Nat.lt_of_lt_of_le hg42 hb7.size
         have hro : Rd ((wC.alloc (.cells (bytesRow (tab4 i) (grownCap wC (tab4 i).size 0 5)) 5 ((bytesRow (tab4 i) (grownCap wC (tab4 i).size 0 5)).size, (bytesRow (tab4 i) (grownCap wC (tab4 i).size 0 5)).size + 1))).drew) ((wC.alloc (.cells (bytesRow (tab4 i) (grownCap wC (tab4 i).size 0 5)) 5 ((bytesRow (tab4 i) (grownCap wC (tab4 i).size 0 5)).size, (bytesRow (tab4 i) (grownCap wC (tab4 i).size 0 5)).size + 1))).drew).heap.size (some ⟨go, 0, none⟩) (sb (tab4 i)).length (bv (sb (tab4 i))) := Rd.of_stringAt _ _ _ _ _ hgo
         have hgo2 : go < ((wC.alloc (.cells (bytesRow (tab4 i) (grownCap wC (tab4 i).size 0 5)) 5 ((bytesRow (tab4 i) (grownCap wC (tab4 i).size 0 5)).size, (bytesRow (tab4 i) (grownCap wC (tab4 i).size 0 5)).size + 1))).drew).heap.size := by rw [<- hgo]; simp
         obtain ⟨co, hco⟩ : ∃ x, grownCap wC (tab4 i).size 0 5 = x := ⟨_, rfl⟩
         rw [hco] at hS hro hgo2 hrk hgk2 hkB hk4 hg42 |-
         obtain ⟨wD, hwD⟩ : ∃ x, (wC.alloc (.cells (bytesRow (tab4 i) co) 5 ((bytesRow (tab4 i) co).size, (bytesRow (tab4 i) co).size + 1))).drew = x := ⟨_, rfl⟩
         rw [hwD] at hS hro hgo2 hrk hgk2 hkB hk4 hg42 |-
         clear hwD hco hb7 hgo
         go_simp
         refine hK.out _ _ (Or.inr hS.out) (fun _ => ?_)
         clear hK K
         refine AnyT.take (i := 18) (v := .agg #[.int .i64 (x : Int), .int .i64 (y : Int), .slice (some ⟨gk, 0, none⟩) lk.length ck, .slice Av lv.length cv, .slice (some ⟨go, 0, none⟩) (sb (tab4 i)).length co]) rfl (by kernel_rfl) (by kernel_rfl) (by kernel_rfl) (by kernel_rfl) (fun _ _ _ h => h) (Or.inl ⟨by kernel_rfl, fun w _ => by go_simp; simp [sb_len]⟩) hS.out ?_
         refine AnyT.ready (rs := [20]) (by kernel_rfl) (by simp) ?_
         refine AllT.cons rfl (fun K hK => ?_) AllT.nil
         obtain ⟨c0, c1, c2, c3, c4⟩ := five hk4
         have f0 := hk4.frozen 0
         have f1 := hk4.frozen 1
         have f2 := hk4.frozen 2
         have f3 := hk4.frozen 3
         have f4 := hk4.frozen 4
         go_simp
         refine hK.out _ _ (Or.inl rfl) (fun _ => ?_)
         clear hK K
         refine AnyT.done (by kernel_rfl) ?_ _
         go_wp2_with fail
         go_meet
         have hk5 := ((((hk4.set_ 0 (.int .i64 (x : Int))).set_ 1 (.int .i64 (y : Int))).set_ 2 (.slice (some ⟨gk, 0, none⟩) lk.length ck)).set_ 3 (.slice Av lv.length cv)).set_ 4 (.slice (some ⟨go, 0, none⟩) (sb (tab4 i)).length co)
         have hs : (sb (tab4 i)).length = (tab4 i).size := sb_len _
         rw [hs] at hro hk5
         refine ⟨g4, gk, go, ck, co, rfl, hD ⟨by rw [hs]; exact hk5, hz4, hzk, hzo, hnk, hno, ((((hrk.set_ne hnk).set_ne hnk).set_ne hnk).set_ne hnk).set_ne hnk, by rw [hs]; exact ((((hro.set_ne hno).set_ne hno).set_ne hno).set_ne hno).set_ne hno, ((((hS.out.setCell (p := ⟨g4, 0, none⟩) hz4 _).setCell (p := ⟨g4, 1, none⟩) hz4 _).setCell (p := ⟨g4, 2, none⟩) hz4 _).setCell (p := ⟨g4, 3, none⟩) hz4 _).setCell (p := ⟨g4, 4, none⟩) hz4 _⟩, hD ⟨hlk, hlk9, sb_lt _, by rw [sb_len]; exact tab4_size i hi4⟩⟩
     · go_simp
       obtain ⟨g4, hg4⟩ : ∃ g, w9.heap.size = g := ⟨_, rfl⟩
       rw [hg4]
       have hnk : g4 ≠ gk := by omega
       have hz4 : wz.heap.size <= g4 := by have := hS.out.size; omega
       have hb4 : Below w9.heap.size w9 (w9.alloc (.cells #[.int .i64 0, .int .i64 0, .slice none 0 0, .slice none 0 0, .slice none 0 0] 41)) := (Below.refl _ _).alloc lR _
       have hS := hD (hS.out.trans (hb4.mono hS.out.size))
       have hrk := (hrk.below hb4).fit
       have hgk2 := Nat.lt_of_lt_of_le hgk2 hb4.size
       have hk4 : Blk (w9.alloc (.cells #[.int .i64 0, .int .i64 0, .slice none 0 0, .slice none 0 0, .slice none 0 0] 41)) g4 41 #[.int .i64 0, .int .i64 0, .slice none 0 0, .slice none 0 0, .slice none 0 0] := by rw [<- hg4]; exact Blk.new _ _ _
       have hg42 := hk4.lt
       obtain ⟨wC, hwC⟩ : ∃ x, (w9.alloc (.cells #[.int .i64 0, .int .i64 0, .slice none 0 0, .slice none 0 0, .slice none 0 0] 41)) = x := ⟨_, rfl⟩
       rw [hwC] at hS hk4 hg42 hrk hgk2 |-
       clear hwC hb4 hg4
       go_simp
       refine hK.out _ _ (Or.inr hS.out) (fun _ => ?_)
       clear hK K
       refine AnyT.ready (rs := [11]) (by kernel_rfl) (by simp) ?_
       refine AllT.cons rfl (fun K hK => ?_) AllT.nil
       go_simp
       obtain ⟨gB, hgB⟩ : ∃ g, wC.heap.size = g := ⟨_, rfl⟩
       rw [hgB]
       have hbB : Below wC.heap.size wC (wC.alloc (.cells #[.string ⟨#[]⟩, .string ⟨#[97]⟩, .string ⟨#[98]⟩, .string ⟨#[97, 98]⟩] 9)) := (Below.refl _ _).alloc lR _
       have hS := hD (hS.out.trans (hbB.mono hS.out.size))
       have hrk := (hrk.below hbB).fit
       have hgk2 := Nat.lt_of_lt_of_le hgk2 hbB.size
       have hk4 := hk4.below hbB
       have hg42 := Nat.lt_of_lt_of_le hg42 hbB.size
       have hkB : Blk (wC.alloc (.cells #[.string ⟨#[]⟩, .string ⟨#[97]⟩, .string ⟨#[98]⟩, .string ⟨#[97, 98]⟩] 9)) gB 9 #[.string ⟨#[]⟩, .string ⟨#[97]⟩, .string ⟨#[98]⟩, .string ⟨#[97, 98]⟩] := by rw [<- hgB]; exact Blk.new _ _ _
       obtain ⟨wB, hwB⟩ : ∃ x, (wC.alloc (.cells #[.string ⟨#[]⟩, .string ⟨#[97]⟩, .string ⟨#[98]⟩, .string ⟨#[97, 98]⟩] 9)) = x := ⟨_, rfl⟩
       rw [hwB] at hS hkB hrk hgk2 hk4 hg42 |-
       clear hwB hbB hgB
       go_simp
       refine hK.out _ _ (Or.inr hS.out) (fun _ => ?_)
       clear hK K
       refine AnyT.take (i := 15) (v := .pointer (some ⟨gB, i, none⟩)) rfl (by kernel_rfl) (by kernel_rfl) (by kernel_rfl) (by kernel_rfl) (fun _ _ _ h => h) (Or.inl ⟨by kernel_rfl, fun w _ => by go_simp⟩) hS.out ?_
       refine AnyT.ready (rs := [16]) (by kernel_rfl) (by simp) ?_
       refine AllT.cons rfl (fun K hK => ?_) AllT.nil
       have hcB : wB.cell? ⟨gB, i, none⟩ = some (.string (tab4 i)) := by rw [hkB.cell]; have hl : i < (#[Value.string ⟨#[]⟩, .string ⟨#[97]⟩, .string ⟨#[98]⟩, .string ⟨#[97, 98]⟩] : Array Value).size := hi4; rw [Array.getElem?_eq_getElem hl]; congr 1; exact tab4_at i hi4
       go_simp
       refine hK.out _ _ (Or.inr hS.out) (fun _ => ?_)
       clear hK K
       refine AnyT.ready (rs := [17]) (by kernel_rfl) (by simp) ?_
       refine AllT.cons rfl (fun K hK => ?_) AllT.nil
       go_simp
       obtain ⟨go, hgo⟩ : ∃ g, wB.heap.size = g := ⟨_, rfl⟩
       rw [hgo]
       have hzo : wz.heap.size <= go := by have := hS.out.size; omega
       have hno : g4 ≠ go := by omega
       have hb7 : Below wB.heap.size wB ((wB.alloc (.cells (bytesRow (tab4 i) (grownCap wB (tab4 i).size 0 5)) 5 ((bytesRow (tab4 i) (grownCap wB (tab4 i).size 0 5)).size, (bytesRow (tab4 i) (grownCap wB (tab4 i).size 0 5)).size + 1))).drew) := ((Below.refl _ _).alloc lR _).drew
       have hS := hD (hS.out.trans (hb7.mono hS.out.size))
       have hrk := (hrk.below hb7).fit
       have hgk2 := Nat.lt_of_lt_of_le hgk2 hb7.size
       have hk4 := hk4.below hb7
       have hg42 := Nat.lt_of_lt_of_le hg42 hb7.size
       have hkB := hkB.below hb7
       have hro : Rd ((wB.alloc (.cells (bytesRow (tab4 i) (grownCap wB (tab4 i).size 0 5)) 5 ((bytesRow (tab4 i) (grownCap wB (tab4 i).size 0 5)).size, (bytesRow (tab4 i) (grownCap wB (tab4 i).size 0 5)).size + 1))).drew) ((wB.alloc (.cells (bytesRow (tab4 i) (grownCap wB (tab4 i).size 0 5)) 5 ((bytesRow (tab4 i) (grownCap wB (tab4 i).size 0 5)).size, (bytesRow (tab4 i) (grownCap wB (tab4 i).size 0 5)).size + 1))).drew).heap.size (some ⟨go, 0, none⟩) (sb (tab4 i)).length (bv (sb (tab4 i))) := Rd.of_stringAt _ _ _ _ _ hgo
       have hgo2 : go < ((wB.alloc (.cells (bytesRow (tab4 i) (grownCap wB (tab4 i).size 0 5)) 5 ((bytesRow (tab4 i) (grownCap wB (tab4 i).size 0 5)).size, (bytesRow (tab4 i) (grownCap wB (tab4 i).size 0 5)).size + 1))).drew).heap.size := by rw [<- hgo]; simp
       obtain ⟨co, hco⟩ : ∃ x, grownCap wB (tab4 i).size 0 5 = x := ⟨_, rfl⟩
       rw [hco] at hS hro hgo2 hrk hgk2 hk4 hg42 hkB |-
       obtain ⟨wD, hwD⟩ : ∃ x, (wB.alloc (.cells (bytesRow (tab4 i) co) 5 ((bytesRow (tab4 i) co).size, (bytesRow (tab4 i) co).size + 1))).drew = x := ⟨_, rfl⟩
       rw [hwD] at hS hro hgo2 hrk hgk2 hk4 hg42 hkB |-
       clear hwD hco hb7 hgo
       go_simp
       refine hK.out _ _ (Or.inr hS.out) (fun _ => ?_)
       clear hK K
       refine AnyT.take (i := 18) (v := .agg #[.int .i64 (x : Int), .int .i64 (y : Int), .slice (some ⟨gk, 0, none⟩) lk.length ck, .slice Av lv.length cv, .slice (some ⟨go, 0, none⟩) (sb (tab4 i)).length co]) rfl (by kernel_rfl) (by kernel_rfl) (by kernel_rfl) (by kernel_rfl) (fun _ _ _ h => h) (Or.inl ⟨by kernel_rfl, fun w _ => by go_simp; simp [sb_len]⟩) hS.out ?_
       refine AnyT.ready (rs := [20]) (by kernel_rfl) (by simp) ?_
       refine AllT.cons rfl (fun K hK => ?_) AllT.nil
       obtain ⟨c0, c1, c2, c3, c4⟩ := five hk4
       have f0 := hk4.frozen 0
       have f1 := hk4.frozen 1
       have f2 := hk4.frozen 2
       have f3 := hk4.frozen 3
       have f4 := hk4.frozen 4
       go_simp
       refine hK.out _ _ (Or.inl rfl) (fun _ => ?_)
       clear hK K
       refine AnyT.done (by kernel_rfl) ?_ _
       go_wp2_with fail
       go_meet
       have hk5 := ((((hk4.set_ 0 (.int .i64 (x : Int))).set_ 1 (.int .i64 (y : Int))).set_ 2 (.slice (some ⟨gk, 0, none⟩) lk.length ck)).set_ 3 (.slice Av lv.length cv)).set_ 4 (.slice (some ⟨go, 0, none⟩) (sb (tab4 i)).length co)
       have hs : (sb (tab4 i)).length = (tab4 i).size := sb_len _
       rw [hs] at hro hk5
       refine ⟨g4, gk, go, ck, co, rfl, hD ⟨by rw [hs]; exact hk5, hz4, hzk, hzo, hnk, hno, ((((hrk.set_ne hnk).set_ne hnk).set_ne hnk).set_ne hnk).set_ne hnk, by rw [hs]; exact ((((hro.set_ne hno).set_ne hno).set_ne hno).set_ne hno).set_ne hno, ((((hS.out.setCell (p := ⟨g4, 0, none⟩) hz4 _).setCell (p := ⟨g4, 1, none⟩) hz4 _).setCell (p := ⟨g4, 2, none⟩) hz4 _).setCell (p := ⟨g4, 3, none⟩) hz4 _).setCell (p := ⟨g4, 4, none⟩) hz4 _⟩, hD ⟨hlk, hlk9, sb_lt _, by rw [sb_len]; exact tab4_size i hi4⟩⟩
   · go_simp
     obtain ⟨gB, hgB⟩ : ∃ g, w4.heap.size = g := ⟨_, rfl⟩
     rw [hgB]
     have hbB : Below w4.heap.size w4 (w4.alloc (.cells #[.string ⟨#[]⟩, .string ⟨#[97]⟩, .string ⟨#[98]⟩, .string ⟨#[97, 98]⟩] 9)) := (Below.refl _ _).alloc lR _
     have hS := hD (hS.out.trans (hbB.mono hS.out.size))
     have hkB : Blk (w4.alloc (.cells #[.string ⟨#[]⟩, .string ⟨#[97]⟩, .string ⟨#[98]⟩, .string ⟨#[97, 98]⟩] 9)) gB 9 #[.string ⟨#[]⟩, .string ⟨#[97]⟩, .string ⟨#[98]⟩, .string ⟨#[97, 98]⟩] := by rw [<- hgB]; exact Blk.new _ _ _
     obtain ⟨wB, hwB⟩ : ∃ x, (w4.alloc (.cells #[.string ⟨#[]⟩, .string ⟨#[97]⟩, .string ⟨#[98]⟩, .string ⟨#[97, 98]⟩] 9)) = x := ⟨_, rfl⟩
     rw [hwB] at hS hkB |-
     clear hwB hbB hgB
     go_simp
     refine hK.out _ _ (Or.inr hS.out) (fun _ => ?_)
     clear hK K
     refine AnyT.take (i := 15) (v := .pointer (some ⟨gB, i, none⟩)) rfl (by kernel_rfl) (by kernel_rfl) (by kernel_rfl) (by kernel_rfl) (fun _ _ _ h => h) (Or.inl ⟨by kernel_rfl, fun w _ => by go_simp⟩) hS.out ?_
     refine AnyT.ready (rs := [9, 16, 19]) (by kernel_rfl) (by simp) ?_
     refine AllT.cons rfl (fun K hK => ?_) (AllT.cons rfl (fun K hK => ?_) (AllT.cons rfl (fun K hK => ?_) AllT.nil))
     · go_simp
       have hSz := hS.out.size
       refine (HKD.out _).mono ?_
       rintro e w9 ⟨gk, ck, rfl, hrk, hlk, hlk9, hgk1, hgk2, hb9⟩
       have hS := hD (hS.out.trans (hb9.mono hS.out.size))
       have hkB := hkB.below hb9
       have hzk : wz.heap.size <= gk := by omega
       go_simp
       refine hK.out _ _ (Or.inr hS.out) (fun _ => ?_)
       clear hK K
       refine AnyT.ready (rs := [16, 19]) (by kernel_rfl) (by simp) ?_
       refine AllT.cons rfl (fun K hK => ?_) (AllT.cons rfl (fun K hK => ?_) AllT.nil)
       · have hcB : w9.cell? ⟨gB, i, none⟩ = some (.string (tab4 i)) := by rw [hkB.cell]; have hl : i < (#[Value.string ⟨#[]⟩, .string ⟨#[97]⟩, .string ⟨#[98]⟩, .string ⟨#[97, 98]⟩] : Array Value).size := hi4; rw [Array.getElem?_eq_getElem hl]; congr 1; exact tab4_at i hi4
         go_simp
         refine hK.out _ _ (Or.inr hS.out) (fun _ => ?_)
         clear hK K
         refine AnyT.ready (rs := [17, 19]) (by kernel_rfl) (by simp) ?_
         refine AllT.cons rfl (fun K hK => ?_) (AllT.cons rfl (fun K hK => ?_) AllT.nil)
         · go_simp
           obtain ⟨go, hgo⟩ : ∃ g, w9.heap.size = g := ⟨_, rfl⟩
           rw [hgo]
           have hzo : wz.heap.size <= go := by have := hS.out.size; omega
           have hb7 : Below w9.heap.size w9 ((w9.alloc (.cells (bytesRow (tab4 i) (grownCap w9 (tab4 i).size 0 5)) 5 ((bytesRow (tab4 i) (grownCap w9 (tab4 i).size 0 5)).size, (bytesRow (tab4 i) (grownCap w9 (tab4 i).size 0 5)).size + 1))).drew) := ((Below.refl _ _).alloc lR _).drew
           have hS := hD (hS.out.trans (hb7.mono hS.out.size))
           have hkB := hkB.below hb7
           have hrk := (hrk.below hb7).fit
           have hgk2 := Nat.lt_of_lt_of_le hgk2 hb7.size
           have hro : Rd ((w9.alloc (.cells (bytesRow (tab4 i) (grownCap w9 (tab4 i).size 0 5)) 5 ((bytesRow (tab4 i) (grownCap w9 (tab4 i).size 0 5)).size, (bytesRow (tab4 i) (grownCap w9 (tab4 i).size 0 5)).size + 1))).drew) ((w9.alloc (.cells (bytesRow (tab4 i) (grownCap w9 (tab4 i).size 0 5)) 5 ((bytesRow (tab4 i) (grownCap w9 (tab4 i).size 0 5)).size, (bytesRow (tab4 i) (grownCap w9 (tab4 i).size 0 5)).size + 1))).drew).heap.size (some ⟨go, 0, none⟩) (sb (tab4 i)).length (bv (sb (tab4 i))) := Rd.of_stringAt _ _ _ _ _ hgo
           have hgo2 : go < ((w9.alloc (.cells (bytesRow (tab4 i) (grownCap w9 (tab4 i).size 0 5)) 5 ((bytesRow (tab4 i) (grownCap w9 (tab4 i).size 0 5)).size, (bytesRow (tab4 i) (grownCap w9 (tab4 i).size 0 5)).size + 1))).drew).heap.size := by rw [<- hgo]; simp
           obtain ⟨co, hco⟩ : ∃ x, grownCap w9 (tab4 i).size 0 5 = x := ⟨_, rfl⟩
           rw [hco] at hS hro hgo2 hkB hrk hgk2 |-
           obtain ⟨wD, hwD⟩ : ∃ x, (w9.alloc (.cells (bytesRow (tab4 i) co) 5 ((bytesRow (tab4 i) co).size, (bytesRow (tab4 i) co).size + 1))).drew = x := ⟨_, rfl⟩
           rw [hwD] at hS hro hgo2 hkB hrk hgk2 |-
           clear hwD hco hb7 hgo
           go_simp
           refine hK.out _ _ (Or.inr hS.out) (fun _ => ?_)
           clear hK K
           refine AnyT.take (i := 18) (v := .agg #[.int .i64 (x : Int), .int .i64 (y : Int), .slice (some ⟨gk, 0, none⟩) lk.length ck, .slice Av lv.length cv, .slice (some ⟨go, 0, none⟩) (sb (tab4 i)).length co]) rfl (by kernel_rfl) (by kernel_rfl) (by kernel_rfl) (by kernel_rfl) (fun _ _ _ h => h) (Or.inl ⟨by kernel_rfl, fun w _ => by go_simp; simp [sb_len]⟩) hS.out ?_
           refine AnyT.ready (rs := [19]) (by kernel_rfl) (by simp) ?_
           refine AllT.cons rfl (fun K hK => ?_) AllT.nil
           go_simp
           obtain ⟨g4, hg4⟩ : ∃ g, wD.heap.size = g := ⟨_, rfl⟩
           rw [hg4]
           have hnk : g4 ≠ gk := by omega
           have hno : g4 ≠ go := by omega
           have hz4 : wz.heap.size <= g4 := by have := hS.out.size; omega
           have hb4 : Below wD.heap.size wD (wD.alloc (.cells #[.int .i64 0, .int .i64 0, .slice none 0 0, .slice none 0 0, .slice none 0 0] 41)) := (Below.refl _ _).alloc lR _
           have hS := hD (hS.out.trans (hb4.mono hS.out.size))
           have hrk := (hrk.below hb4).fit
           have hgk2 := Nat.lt_of_lt_of_le hgk2 hb4.size
           have hro := (hro.below hb4).fit
           have hgo2 := Nat.lt_of_lt_of_le hgo2 hb4.size
           have hk4 : Blk (wD.alloc (.cells #[.int .i64 0, .int .i64 0, .slice none 0 0, .slice none 0 0, .slice none 0 0] 41)) g4 41 #[.int .i64 0, .int .i64 0, .slice none 0 0, .slice none 0 0, .slice none 0 0] := by rw [<- hg4]; exact Blk.new _ _ _
           have hg42 := hk4.lt
           obtain ⟨wC, hwC⟩ : ∃ x, (wD.alloc (.cells #[.int .i64 0, .int .i64 0, .slice none 0 0, .slice none 0 0, .slice none 0 0] 41)) = x := ⟨_, rfl⟩
           rw [hwC] at hS hk4 hg42 hrk hgk2 hro hgo2 |-
           clear hwC hb4 hg4
           go_simp
           refine hK.out _ _ (Or.inr hS.out) (fun _ => ?_)
           clear hK K
           refine AnyT.ready (rs := [20]) (by kernel_rfl) (by simp) ?_
           refine AllT.cons rfl (fun K hK => ?_) AllT.nil
           obtain ⟨c0, c1, c2, c3, c4⟩ := five hk4
           have f0 := hk4.frozen 0
           have f1 := hk4.frozen 1
           have f2 := hk4.frozen 2
           have f3 := hk4.frozen 3
           have f4 := hk4.frozen 4
           go_simp
           refine hK.out _ _ (Or.inl rfl) (fun _ => ?_)
           clear hK K
           refine AnyT.done (by kernel_rfl) ?_ _
           go_wp2_with fail
           go_meet
           have hk5 := ((((hk4.set_ 0 (.int .i64 (x : Int))).set_ 1 (.int .i64 (y : Int))).set_ 2 (.slice (some ⟨gk, 0, none⟩) lk.length ck)).set_ 3 (.slice Av lv.length cv)).set_ 4 (.slice (some ⟨go, 0, none⟩) (sb (tab4 i)).length co)
           have hs : (sb (tab4 i)).length = (tab4 i).size := sb_len _
           rw [hs] at hro hk5
           refine ⟨g4, gk, go, ck, co, rfl, hD ⟨by rw [hs]; exact hk5, hz4, hzk, hzo, hnk, hno, ((((hrk.set_ne hnk).set_ne hnk).set_ne hnk).set_ne hnk).set_ne hnk, by rw [hs]; exact ((((hro.set_ne hno).set_ne hno).set_ne hno).set_ne hno).set_ne hno, ((((hS.out.setCell (p := ⟨g4, 0, none⟩) hz4 _).setCell (p := ⟨g4, 1, none⟩) hz4 _).setCell (p := ⟨g4, 2, none⟩) hz4 _).setCell (p := ⟨g4, 3, none⟩) hz4 _).setCell (p := ⟨g4, 4, none⟩) hz4 _⟩, hD ⟨hlk, hlk9, sb_lt _, by rw [sb_len]; exact tab4_size i hi4⟩⟩
         · go_simp
           obtain ⟨g4, hg4⟩ : ∃ g, w9.heap.size = g := ⟨_, rfl⟩
           rw [hg4]
           have hnk : g4 ≠ gk := by omega
           have hz4 : wz.heap.size <= g4 := by have := hS.out.size; omega
           have hb4 : Below w9.heap.size w9 (w9.alloc (.cells #[.int .i64 0, .int .i64 0, .slice none 0 0, .slice none 0 0, .slice none 0 0] 41)) := (Below.refl _ _).alloc lR _
           have hS := hD (hS.out.trans (hb4.mono hS.out.size))
           have hkB := hkB.below hb4
           have hrk := (hrk.below hb4).fit
           have hgk2 := Nat.lt_of_lt_of_le hgk2 hb4.size
           have hk4 : Blk (w9.alloc (.cells #[.int .i64 0, .int .i64 0, .slice none 0 0, .slice none 0 0, .slice none 0 0] 41)) g4 41 #[.int .i64 0, .int .i64 0, .slice none 0 0, .slice none 0 0, .slice none 0 0] := by rw [<- hg4]; exact Blk.new _ _ _
           have hg42 := hk4.lt
           obtain ⟨wC, hwC⟩ : ∃ x, (w9.alloc (.cells #[.int .i64 0, .int .i64 0, .slice none 0 0, .slice none 0 0, .slice none 0 0] 41)) = x := ⟨_, rfl⟩
           rw [hwC] at hS hk4 hg42 hkB hrk hgk2 |-
           clear hwC hb4 hg4
           go_simp
           refine hK.out _ _ (Or.inr hS.out) (fun _ => ?_)
           clear hK K
           refine AnyT.ready (rs := [17]) (by kernel_rfl) (by simp) ?_
           refine AllT.cons rfl (fun K hK => ?_) AllT.nil
           go_simp
           obtain ⟨go, hgo⟩ : ∃ g, wC.heap.size = g := ⟨_, rfl⟩
           rw [hgo]
           have hzo : wz.heap.size <= go := by have := hS.out.size; omega
           have hno : g4 ≠ go := by omega
           have hb7 : Below wC.heap.size wC ((wC.alloc (.cells (bytesRow (tab4 i) (grownCap wC (tab4 i).size 0 5)) 5 ((bytesRow (tab4 i) (grownCap wC (tab4 i).size 0 5)).size, (bytesRow (tab4 i) (grownCap wC (tab4 i).size 0 5)).size + 1))).drew) := ((Below.refl _ _).alloc lR _).drew
           have hS := hD (hS.out.trans (hb7.mono hS.out.size))
           have hkB := hkB.below hb7
           have hrk := (hrk.below hb7).fit
           have hgk2 := Nat.lt_of_lt_of_le hgk2 hb7.size
           have hk4 := hk4.below hb7
           have hg42 := Nat.lt_of_lt_of_le hg42 hb7.size
           have hro : Rd ((wC.alloc (.cells (bytesRow (tab4 i) (grownCap wC (tab4 i).size 0 5)) 5 ((bytesRow (tab4 i) (grownCap wC (tab4 i).size 0 5)).size, (bytesRow (tab4 i) (grownCap wC (tab4 i).size 0 5)).size + 1))).drew) ((wC.alloc (.cells (bytesRow (tab4 i) (grownCap wC (tab4 i).size 0 5)) 5 ((bytesRow (tab4 i) (grownCap wC (tab4 i).size 0 5)).size, (bytesRow (tab4 i) (grownCap wC (tab4 i).size 0 5)).size + 1))).drew).heap.size (some ⟨go, 0, none⟩) (sb (tab4 i)).length (bv (sb (tab4 i))) := Rd.of_stringAt _ _ _ _ _ hgo
           have hgo2 : go < ((wC.alloc (.cells (bytesRow (tab4 i) (grownCap wC (tab4 i).size 0 5)) 5 ((bytesRow (tab4 i) (grownCap wC (tab4 i).size 0 5)).size, (bytesRow (tab4 i) (grownCap wC (tab4 i).size 0 5)).size + 1))).drew).heap.size := by rw [<- hgo]; simp
           obtain ⟨co, hco⟩ : ∃ x, grownCap wC (tab4 i).size 0 5 = x := ⟨_, rfl⟩
           rw [hco] at hS hro hgo2 hkB hrk hgk2 hk4 hg42 |-
           obtain ⟨wD, hwD⟩ : ∃ x, (wC.alloc (.cells (bytesRow (tab4 i) co) 5 ((bytesRow (tab4 i) co).size, (bytesRow (tab4 i) co).size + 1))).drew = x := ⟨_, rfl⟩
           rw [hwD] at hS hro hgo2 hkB hrk hgk2 hk4 hg42 |-
           clear hwD hco hb7 hgo
           go_simp
           refine hK.out _ _ (Or.inr hS.out) (fun _ => ?_)
           clear hK K
           refine AnyT.take (i := 18) (v := .agg #[.int .i64 (x : Int), .int .i64 (y : Int), .slice (some ⟨gk, 0, none⟩) lk.length ck, .slice Av lv.length cv, .slice (some ⟨go, 0, none⟩) (sb (tab4 i)).length co]) rfl (by kernel_rfl) (by kernel_rfl) (by kernel_rfl) (by kernel_rfl) (fun _ _ _ h => h) (Or.inl ⟨by kernel_rfl, fun w _ => by go_simp; simp [sb_len]⟩) hS.out ?_
           refine AnyT.ready (rs := [20]) (by kernel_rfl) (by simp) ?_
           refine AllT.cons rfl (fun K hK => ?_) AllT.nil
           obtain ⟨c0, c1, c2, c3, c4⟩ := five hk4
           have f0 := hk4.frozen 0
           have f1 := hk4.frozen 1
           have f2 := hk4.frozen 2
           have f3 := hk4.frozen 3
           have f4 := hk4.frozen 4
           go_simp
           refine hK.out _ _ (Or.inl rfl) (fun _ => ?_)
           clear hK K
           refine AnyT.done (by kernel_rfl) ?_ _
           go_wp2_with fail
           go_meet
           have hk5 := ((((hk4.set_ 0 (.int .i64 (x : Int))).set_ 1 (.int .i64 (y : Int))).set_ 2 (.slice (some ⟨gk, 0, none⟩) lk.length ck)).set_ 3 (.slice Av lv.length cv)).set_ 4 (.slice (some ⟨go, 0, none⟩) (sb (tab4 i)).length co)
           have hs : (sb (tab4 i)).length = (tab4 i).size := sb_len _
           rw [hs] at hro hk5
           refine ⟨g4, gk, go, ck, co, rfl, hD ⟨by rw [hs]; exact hk5, hz4, hzk, hzo, hnk, hno, ((((hrk.set_ne hnk).set_ne hnk).set_ne hnk).set_ne hnk).set_ne hnk, by rw [hs]; exact ((((hro.set_ne hno).set_ne hno).set_ne hno).set_ne hno).set_ne hno, ((((hS.out.setCell (p := ⟨g4, 0, none⟩) hz4 _).setCell (p := ⟨g4, 1, none⟩) hz4 _).setCell (p := ⟨g4, 2, none⟩) hz4 _).setCell (p := ⟨g4, 3, none⟩) hz4 _).setCell (p := ⟨g4, 4, none⟩) hz4 _⟩, hD ⟨hlk, hlk9, sb_lt _, by rw [sb_len]; exact tab4_size i hi4⟩⟩
       · go_simp
         obtain ⟨g4, hg4⟩ : ∃ g, w9.heap.size = g := ⟨_, rfl⟩
         rw [hg4]
         have hnk : g4 ≠ gk := by omega
         have hz4 : wz.heap.size <= g4 := by have := hS.out.size; omega
         have hb4 : Below w9.heap.size w9 (w9.alloc (.cells #[.int .i64 0, .int .i64 0, .slice none 0 0, .slice none 0 0, .slice none 0 0] 41)) := (Below.refl _ _).alloc lR _
         have hS := hD (hS.out.trans (hb4.mono hS.out.size))
         have hkB := hkB.below hb4
         have hrk := (hrk.below hb4).fit
         have hgk2 := Nat.lt_of_lt_of_le hgk2 hb4.size
         have hk4 : Blk (w9.alloc (.cells #[.int .i64 0, .int .i64 0, .slice none 0 0, .slice none 0 0, .slice none 0 0] 41)) g4 41 #[.int .i64 0, .int .i64 0, .slice none 0 0, .slice none 0 0, .slice none 0 0] := by rw [<- hg4]; exact Blk.new _ _ _
         have hg42 := hk4.lt
         obtain ⟨wC, hwC⟩ : ∃ x, (w9.alloc (.cells #[.int .i64 0, .int .i64 0, .slice none 0 0, .slice none 0 0, .slice none 0 0] 41)) = x := ⟨_, rfl⟩
         rw [hwC] at hS hk4 hg42 hkB hrk hgk2 |-
         clear hwC hb4 hg4
         go_simp
         refine hK.out _ _ (Or.inr hS.out) (fun _ => ?_)
         clear hK K
         refine AnyT.ready (rs := [16]) (by kernel_rfl) (by simp) ?_
         refine AllT.cons rfl (fun K hK => ?_) AllT.nil
         have hcB : wC.cell? ⟨gB, i, none⟩ = some (.string (tab4 i)) := by rw [hkB.cell]; have hl : i < (#[Value.string ⟨#[]⟩, .string ⟨#[97]⟩, .string ⟨#[98]⟩, .string ⟨#[97, 98]⟩] : Array Value).size := hi4; rw [Array.getElem?_eq_getElem hl]; congr 1; exact tab4_at i hi4
         go_simp
         refine hK.out _ _ (Or.inr hS.out) (fun _ => ?_)
         clear hK K
         refine AnyT.ready (rs := [17]) (by kernel_rfl) (by simp) ?_
         refine AllT.cons rfl (fun K hK => ?_) AllT.nil
         go_simp
         obtain ⟨go, hgo⟩ : ∃ g, wC.heap.size = g := ⟨_, rfl⟩
         rw [hgo]
         have hzo : wz.heap.size <= go := by have := hS.out.size; omega
         have hno : g4 ≠ go := by omega
         have hb7 : Below wC.heap.size wC ((wC.alloc (.cells (bytesRow (tab4 i) (grownCap wC (tab4 i).size 0 5)) 5 ((bytesRow (tab4 i) (grownCap wC (tab4 i).size 0 5)).size, (bytesRow (tab4 i) (grownCap wC (tab4 i).size 0 5)).size + 1))).drew) := ((Below.refl _ _).alloc lR _).drew
         have hS := hD (hS.out.trans (hb7.mono hS.out.size))
         have hkB := hkB.below hb7
         have hrk := (hrk.below hb7).fit
         have hgk2 := Nat.lt_of_lt_of_le hgk2 hb7.size
         have hk4 := hk4.below hb7
         have hg42 := Nat.lt_of_lt_of_le hg42 hb7.size
         have hro : Rd ((wC.alloc (.cells (bytesRow (tab4 i) (grownCap wC (tab4 i).size 0 5)) 5 ((bytesRow (tab4 i) (grownCap wC (tab4 i).size 0 5)).size, (bytesRow (tab4 i) (grownCap wC (tab4 i).size 0 5)).size + 1))).drew) ((wC.alloc (.cells (bytesRow (tab4 i) (grownCap wC (tab4 i).size 0 5)) 5 ((bytesRow (tab4 i) (grownCap wC (tab4 i).size 0 5)).size, (bytesRow (tab4 i) (grownCap wC (tab4 i).size 0 5)).size + 1))).drew).heap.size (some ⟨go, 0, none⟩) (sb (tab4 i)).length (bv (sb (tab4 i))) := Rd.of_stringAt _ _ _ _ _ hgo
         have hgo2 : go < ((wC.alloc (.cells (bytesRow (tab4 i) (grownCap wC (tab4 i).size 0 5)) 5 ((bytesRow (tab4 i) (grownCap wC (tab4 i).size 0 5)).size, (bytesRow (tab4 i) (grownCap wC (tab4 i).size 0 5)).size + 1))).drew).heap.size := by rw [<- hgo]; simp
         obtain ⟨co, hco⟩ : ∃ x, grownCap wC (tab4 i).size 0 5 = x := ⟨_, rfl⟩
         rw [hco] at hS hro hgo2 hkB hrk hgk2 hk4 hg42 |-
         obtain ⟨wD, hwD⟩ : ∃ x, (wC.alloc (.cells (bytesRow (tab4 i) co) 5 ((bytesRow (tab4 i) co).size, (bytesRow (tab4 i) co).size + 1))).drew = x := ⟨_, rfl⟩
         rw [hwD] at hS hro hgo2 hkB hrk hgk2 hk4 hg42 |-
         clear hwD hco hb7 hgo
         go_simp
         refine hK.out _ _ (Or.inr hS.out) (fun _ => ?_)
         clear hK K
         refine AnyT.take (i := 18) (v := .agg #[.int .i64 (x : Int), .int .i64 (y : Int), .slice (some ⟨gk, 0, none⟩) lk.length ck, .slice Av lv.length cv, .slice (some ⟨go, 0, none⟩) (sb (tab4 i)).length co]) rfl (by kernel_rfl) (by kernel_rfl) (by kernel_rfl) (by kernel_rfl) (fun _ _ _ h => h) (Or.inl ⟨by kernel_rfl, fun w _ => by go_simp; simp [sb_len]⟩) hS.out ?_
         refine AnyT.ready (rs := [20]) (by kernel_rfl) (by simp) ?_
         refine AllT.cons rfl (fun K hK => ?_) AllT.nil
         obtain ⟨c0, c1, c2, c3, c4⟩ := five hk4
         have f0 := hk4.frozen 0
         have f1 := hk4.frozen 1
         have f2 := hk4.frozen 2
         have f3 := hk4.frozen 3
         have f4 := hk4.frozen 4
         go_simp
         refine hK.out _ _ (Or.inl rfl) (fun _ => ?_)
         clear hK K
         refine AnyT.done (by kernel_rfl) ?_ _
         go_wp2_with fail
         go_meet
         have hk5 := ((((hk4.set_ 0 (.int .i64 (x : Int))).set_ 1 (.int .i64 (y : Int))).set_ 2 (.slice (some ⟨gk, 0, none⟩) lk.length ck)).set_ 3 (.slice Av lv.length cv)).set_ 4 (.slice (some ⟨go, 0, none⟩) (sb (tab4 i)).length co)
         have hs : (sb (tab4 i)).length = (tab4 i).size := sb_len _
         rw [hs] at hro hk5
         refine ⟨g4, gk, go, ck, co, rfl, hD ⟨by rw [hs]; exact hk5, hz4, hzk, hzo, hnk, hno, ((((hrk.set_ne hnk).set_ne hnk).set_ne hnk).set_ne hnk).set_ne hnk, by rw [hs]; exact ((((hro.set_ne hno).set_ne hno).set_ne hno).set_ne hno).set_ne hno, ((((hS.out.setCell (p := ⟨g4, 0, none⟩) hz4 _).setCell (p := ⟨g4, 1, none⟩) hz4 _).setCell (p := ⟨g4, 2, none⟩) hz4 _).setCell (p := ⟨g4, 3, none⟩) hz4 _).setCell (p := ⟨g4, 4, none⟩) hz4 _⟩, hD ⟨hlk, hlk9, sb_lt _, by rw [sb_len]; exact tab4_size i hi4⟩⟩
     · have hcB : wB.cell? ⟨gB, i, none⟩ = some (.string (tab4 i)) := by rw [hkB.cell]; have hl : i < (#[Value.string ⟨#[]⟩, .string ⟨#[97]⟩, .string ⟨#[98]⟩, .string ⟨#[97, 98]⟩] : Array Value).size := hi4; rw [Array.getElem?_eq_getElem hl]; congr 1; exact tab4_at i hi4
       go_simp
       refine hK.out _ _ (Or.inr hS.out) (fun _ => ?_)
       clear hK K
       refine AnyT.ready (rs := [9, 17, 19]) (by kernel_rfl) (by simp) ?_
       refine AllT.cons rfl (fun K hK => ?_) (AllT.cons rfl (fun K hK => ?_) (AllT.cons rfl (fun K hK => ?_) AllT.nil))
       · go_simp
         have hSz := hS.out.size
         refine (HKD.out _).mono ?_
         rintro e w9 ⟨gk, ck, rfl, hrk, hlk, hlk9, hgk1, hgk2, hb9⟩
         have hS := hD (hS.out.trans (hb9.mono hS.out.size))
         have hkB := hkB.below hb9
         have hzk : wz.heap.size <= gk := by omega
         go_simp
         refine hK.out _ _ (Or.inr hS.out) (fun _ => ?_)
         clear hK K
         refine AnyT.ready (rs := [17, 19]) (by kernel_rfl) (by simp) ?_
         refine AllT.cons rfl (fun K hK => ?_) (AllT.cons rfl (fun K hK => ?_) AllT.nil)
         · go_simp
           obtain ⟨go, hgo⟩ : ∃ g, w9.heap.size = g := ⟨_, rfl⟩
           rw [hgo]
           have hzo : wz.heap.size <= go := by have := hS.out.size; omega
           have hb7 : Below w9.heap.size w9 ((w9.alloc (.cells (bytesRow (tab4 i) (grownCap w9 (tab4 i).size 0 5)) 5 ((bytesRow (tab4 i) (grownCap w9 (tab4 i).size 0 5)).size, (bytesRow (tab4 i) (grownCap w9 (tab4 i).size 0 5)).size + 1))).drew) := ((Below.refl _ _).alloc lR _).drew
           have hS := hD (hS.out.trans (hb7.mono hS.out.size))
           have hkB := hkB.below hb7
           have hrk := (hrk.below hb7).fit
           have hgk2 := Nat.lt_of_lt_of_le hgk2 hb7.size
           have hro : Rd ((w9.alloc (.cells (bytesRow (tab4 i) (grownCap w9 (tab4 i).size 0 5)) 5 ((bytesRow (tab4 i) (grownCap w9 (tab4 i).size 0 5)).size, (bytesRow (tab4 i) (grownCap w9 (tab4 i).size 0 5)).size + 1))).drew) ((w9.alloc (.cells (bytesRow (tab4 i) (grownCap w9 (tab4 i).size 0 5)) 5 ((bytesRow (tab4 i) (grownCap w9 (tab4 i).size 0 5)).size, (bytesRow (tab4 i) (grownCap w9 (tab4 i).size 0 5)).size + 1))).drew).heap.size (some ⟨go, 0, none⟩) (sb (tab4 i)).length (bv (sb (tab4 i))) := Rd.of_stringAt _ _ _ _ _ hgo
           have hgo2 : go < ((w9.alloc (.cells (bytesRow (tab4 i) (grownCap w9 (tab4 i).size 0 5)) 5 ((bytesRow (tab4 i) (grownCap w9 (tab4 i).size 0 5)).size, (bytesRow (tab4 i) (grownCap w9 (tab4 i).size 0 5)).size + 1))).drew).heap.size := by rw [<- hgo]; simp
           obtain ⟨co, hco⟩ : ∃ x, grownCap w9 (tab4 i).size 0 5 = x := ⟨_, rfl⟩
           rw [hco] at hS hro hgo2 hkB hrk hgk2 |-
           obtain ⟨wD, hwD⟩ : ∃ x, (w9.alloc (.cells (bytesRow (tab4 i) co) 5 ((bytesRow (tab4 i) co).size, (bytesRow (tab4 i) co).size + 1))).drew = x := ⟨_, rfl⟩
           rw [hwD] at hS hro hgo2 hkB hrk hgk2 |-
           clear hwD hco hb7 hgo
           go_simp
           refine hK.out _ _ (Or.inr hS.out) (fun _ => ?_)
           clear hK K
           refine AnyT.take (i := 18) (v := .agg #[.int .i64 (x : Int), .int .i64 (y : Int), .slice (some ⟨gk, 0, none⟩) lk.length ck, .slice Av lv.length cv, .slice (some ⟨go, 0, none⟩) (sb (tab4 i)).length co]) rfl (by kernel_rfl) (by kernel_rfl) (by kernel_rfl) (by kernel_rfl) (fun _ _ _ h => h) (Or.inl ⟨by kernel_rfl, fun w _ => by go_simp; simp [sb_len]⟩) hS.out ?_
           refine AnyT.ready (rs := [19]) (by kernel_rfl) (by simp) ?_
           refine AllT.cons rfl (fun K hK => ?_) AllT.nil
           go_simp
           obtain ⟨g4, hg4⟩ : ∃ g, wD.heap.size = g := ⟨_, rfl⟩
           rw [hg4]
           have hnk : g4 ≠ gk := by omega
           have hno : g4 ≠ go := by omega
           have hz4 : wz.heap.size <= g4 := by have := hS.out.size; omega
           have hb4 : Below wD.heap.size wD (wD.alloc (.cells #[.int .i64 0, .int .i64 0, .slice none 0 0, .slice none 0 0, .slice none 0 0] 41)) := (Below.refl _ _).alloc lR _
           have hS := hD (hS.out.trans (hb4.mono hS.out.size))
           have hrk := (hrk.below hb4).fit
           have hgk2 := Nat.lt_of_lt_of_le hgk2 hb4.size
           have hro := (hro.below hb4).fit
           have hgo2 := Nat.lt_of_lt_of_le hgo2 hb4.size
           have hk4 : Blk (wD.alloc (.cells #[.int .i64 0, .int .i64 0, .slice none 0 0, .slice none 0 0, .slice none 0 0] 41)) g4 41 #[.int .i64 0, .int .i64 0, .slice none 0 0, .slice none 0 0, .slice none 0 0] := by rw [<- hg4]; exact Blk.new _ _ _
           have hg42 := hk4.lt
           obtain ⟨wC, hwC⟩ : ∃ x, (wD.alloc (.cells #[.int .i64 0, .int .i64 0, .slice none 0 0, .slice none 0 0, .slice none 0 0] 41)) = x := ⟨_, rfl⟩
           rw [hwC] at hS hk4 hg42 hrk hgk2 hro hgo2 |-
           clear hwC hb4 hg4
           go_simp
           refine hK.out _ _ (Or.inr hS.out) (fun _ => ?_)
           clear hK K
           refine AnyT.ready (rs := [20]) (by kernel_rfl) (by simp) ?_
           refine AllT.cons rfl (fun K hK => ?_) AllT.nil
           obtain ⟨c0, c1, c2, c3, c4⟩ := five hk4
           have f0 := hk4.frozen 0
           have f1 := hk4.frozen 1
           have f2 := hk4.frozen 2
           have f3 := hk4.frozen 3
           have f4 := hk4.frozen 4
           go_simp
           refine hK.out _ _ (Or.inl rfl) (fun _ => ?_)
           clear hK K
           refine AnyT.done (by kernel_rfl) ?_ _
           go_wp2_with fail
           go_meet
           have hk5 := ((((hk4.set_ 0 (.int .i64 (x : Int))).set_ 1 (.int .i64 (y : Int))).set_ 2 (.slice (some ⟨gk, 0, none⟩) lk.length ck)).set_ 3 (.slice Av lv.length cv)).set_ 4 (.slice (some ⟨go, 0, none⟩) (sb (tab4 i)).length co)
           have hs : (sb (tab4 i)).length = (tab4 i).size := sb_len _
           rw [hs] at hro hk5
           refine ⟨g4, gk, go, ck, co, rfl, hD ⟨by rw [hs]; exact hk5, hz4, hzk, hzo, hnk, hno, ((((hrk.set_ne hnk).set_ne hnk).set_ne hnk).set_ne hnk).set_ne hnk, by rw [hs]; exact ((((hro.set_ne hno).set_ne hno).set_ne hno).set_ne hno).set_ne hno, ((((hS.out.setCell (p := ⟨g4, 0, none⟩) hz4 _).setCell (p := ⟨g4, 1, none⟩) hz4 _).setCell (p := ⟨g4, 2, none⟩) hz4 _).setCell (p := ⟨g4, 3, none⟩) hz4 _).setCell (p := ⟨g4, 4, none⟩) hz4 _⟩, hD ⟨hlk, hlk9, sb_lt _, by rw [sb_len]; exact tab4_size i hi4⟩⟩
         · go_simp
           obtain ⟨g4, hg4⟩ : ∃ g, w9.heap.size = g := ⟨_, rfl⟩
           rw [hg4]
           have hnk : g4 ≠ gk := by omega
           have hz4 : wz.heap.size <= g4 := by have := hS.out.size; omega
           have hb4 : Below w9.heap.size w9 (w9.alloc (.cells #[.int .i64 0, .int .i64 0, .slice none 0 0, .slice none 0 0, .slice none 0 0] 41)) := (Below.refl _ _).alloc lR _
           have hS := hD (hS.out.trans (hb4.mono hS.out.size))
           have hkB := hkB.below hb4
           have hrk := (hrk.below hb4).fit
           have hgk2 := Nat.lt_of_lt_of_le hgk2 hb4.size
           have hk4 : Blk (w9.alloc (.cells #[.int .i64 0, .int .i64 0, .slice none 0 0, .slice none 0 0, .slice none 0 0] 41)) g4 41 #[.int .i64 0, .int .i64 0, .slice none 0 0, .slice none 0 0, .slice none 0 0] := by rw [<- hg4]; exact Blk.new _ _ _
           have hg42 := hk4.lt
           obtain ⟨wC, hwC⟩ : ∃ x, (w9.alloc (.cells #[.int .i64 0, .int .i64 0, .slice none 0 0, .slice none 0 0, .slice none 0 0] 41)) = x := ⟨_, rfl⟩
           rw [hwC] at hS hk4 hg42 hkB hrk hgk2 |-
           clear hwC hb4 hg4
           go_simp
           refine hK.out _ _ (Or.inr hS.out) (fun _ => ?_)
           clear hK K
           refine AnyT.ready (rs := [17]) (by kernel_rfl) (by simp) ?_
           refine AllT.cons rfl (fun K hK => ?_) AllT.nil
           go_simp
           obtain ⟨go, hgo⟩ : ∃ g, wC.heap.size = g := ⟨_, rfl⟩
           rw [hgo]
           have hzo : wz.heap.size <= go := by have := hS.out.size; omega
           have hno : g4 ≠ go := by omega
           have hb7 : Below wC.heap.size wC ((wC.alloc (.cells (bytesRow (tab4 i) (grownCap wC (tab4 i).size 0 5)) 5 ((bytesRow (tab4 i) (grownCap wC (tab4 i).size 0 5)).size, (bytesRow (tab4 i) (grownCap wC (tab4 i).size 0 5)).size + 1))).drew) := ((Below.refl _ _).alloc lR _).drew
           have hS := hD (hS.out.trans (hb7.mono hS.out.size))
           have hkB := hkB.below hb7
           have hrk := (hrk.below hb7).fit
           have hgk2 := Nat.lt_of_lt_of_le hgk2 hb7.size
           have hk4 := hk4.below hb7
           have hg42 := Nat.lt_of_lt_of_le hg42 hb7.size
           have hro : Rd ((wC.alloc (.cells (bytesRow (tab4 i) (grownCap wC (tab4 i).size 0 5)) 5 ((bytesRow (tab4 i) (grownCap wC (tab4 i).size 0 5)).size, (bytesRow (tab4 i) (grownCap wC (tab4 i).size 0 5)).size + 1))).drew) ((wC.alloc (.cells (bytesRow (tab4 i) (grownCap wC (tab4 i).size 0 5)) 5 ((bytesRow (tab4 i) (grownCap wC (tab4 i).size 0 5)).size, (bytesRow (tab4 i) (grownCap wC (tab4 i).size 0 5)).size + 1))).drew).heap.size (some ⟨go, 0, none⟩) (sb (tab4 i)).length (bv (sb (tab4 i))) := Rd.of_stringAt _ _ _ _ _ hgo
           have hgo2 : go < ((wC.alloc (.cells (bytesRow (tab4 i) (grownCap wC (tab4 i).size 0 5)) 5 ((bytesRow (tab4 i) (grownCap wC (tab4 i).size 0 5)).size, (bytesRow (tab4 i) (grownCap wC (tab4 i).size 0 5)).size + 1))).drew).heap.size := by rw [<- hgo]; simp
           obtain ⟨co, hco⟩ : ∃ x, grownCap wC (tab4 i).size 0 5 = x := ⟨_, rfl⟩
           rw [hco] at hS hro hgo2 hkB hrk hgk2 hk4 hg42 |-
           obtain ⟨wD, hwD⟩ : ∃ x, (wC.alloc (.cells (bytesRow (tab4 i) co) 5 ((bytesRow (tab4 i) co).size, (bytesRow (tab4 i) co).size + 1))).drew = x := ⟨_, rfl⟩
           rw [hwD] at hS hro hgo2 hkB hrk hgk2 hk4 hg42 |-
           clear hwD hco hb7 hgo
           go_simp
           refine hK.out _ _ (Or.inr hS.out) (fun _ => ?_)
           clear hK K
           refine AnyT.take (i := 18) (v := .agg #[.int .i64 (x : Int), .int .i64 (y : Int), .slice (some ⟨gk, 0, none⟩) lk.length ck, .slice Av lv.length cv, .slice (some ⟨go, 0, none⟩) (sb (tab4 i)).length co]) rfl (by kernel_rfl) (by kernel_rfl) (by kernel_rfl) (by kernel_rfl) (fun _ _ _ h => h) (Or.inl ⟨by kernel_rfl, fun w _ => by go_simp; simp [sb_len]⟩) hS.out ?_
           refine AnyT.ready (rs := [20]) (by kernel_rfl) (by simp) ?_
           refine AllT.cons rfl (fun K hK => ?_) AllT.nil
           obtain ⟨c0, c1, c2, c3, c4⟩ := five hk4
           have f0 := hk4.frozen 0
           have f1 := hk4.frozen 1
           have f2 := hk4.frozen 2
           have f3 := hk4.frozen 3
           have f4 := hk4.frozen 4
           go_simp
           refine hK.out _ _ (Or.inl rfl) (fun _ => ?_)
           clear hK K
           refine AnyT.done (by kernel_rfl) ?_ _
           go_wp2_with fail
           go_meet
           have hk5 := ((((hk4.set_ 0 (.int .i64 (x : Int))).set_ 1 (.int .i64 (y : Int))).set_ 2 (.slice (some ⟨gk, 0, none⟩) lk.length ck)).set_ 3 (.slice Av lv.length cv)).set_ 4 (.slice (some ⟨go, 0, none⟩) (sb (tab4 i)).length co)
           have hs : (sb (tab4 i)).length = (tab4 i).size := sb_len _
           rw [hs] at hro hk5
           refine ⟨g4, gk, go, ck, co, rfl, hD ⟨by rw [hs]; exact hk5, hz4, hzk, hzo, hnk, hno, ((((hrk.set_ne hnk).set_ne hnk).set_ne hnk).set_ne hnk).set_ne hnk, by rw [hs]; exact ((((hro.set_ne hno).set_ne hno).set_ne hno).set_ne hno).set_ne hno, ((((hS.out.setCell (p := ⟨g4, 0, none⟩) hz4 _).setCell (p := ⟨g4, 1, none⟩) hz4 _).setCell (p := ⟨g4, 2, none⟩) hz4 _).setCell (p := ⟨g4, 3, none⟩) hz4 _).setCell (p := ⟨g4, 4, none⟩) hz4 _⟩, hD ⟨hlk, hlk9, sb_lt _, by rw [sb_len]; exact tab4_size i hi4⟩⟩
       · go_simp
         obtain ⟨go, hgo⟩ : ∃ g, wB.heap.size = g := ⟨_, rfl⟩
         rw [hgo]
         have hzo : wz.heap.size <= go := by have := hS.out.size; omega
         have hb7 : Below wB.heap.size wB ((wB.alloc (.cells (bytesRow (tab4 i) (grownCap wB (tab4 i).size 0 5)) 5 ((bytesRow (tab4 i) (grownCap wB (tab4 i).size 0 5)).size, (bytesRow (tab4 i) (grownCap wB (tab4 i).size 0 5)).size + 1))).drew) := ((Below.refl _ _).alloc lR _).drew
         have hS := hD (hS.out.trans (hb7.mono hS.out.size))
         have hkB := hkB.below hb7
         have hro : Rd ((wB.alloc (.cells (bytesRow (tab4 i) (grownCap wB (tab4 i).size 0 5)) 5 ((bytesRow (tab4 i) (grownCap wB (tab4 i).size 0 5)).size, (bytesRow (tab4 i) (grownCap wB (tab4 i).size 0 5)).size + 1))).drew) ((wB.alloc (.cells (bytesRow (tab4 i) (grownCap wB (tab4 i).size 0 5)) 5 ((bytesRow (tab4 i) (grownCap wB (tab4 i).size 0 5)).size, (bytesRow (tab4 i) (grownCap wB (tab4 i).size 0 5)).size + 1))).drew).heap.size (some ⟨go, 0, none⟩) (sb (tab4 i)).length (bv (sb (tab4 i))) := Rd.of_stringAt _ _ _ _ _ hgo
         have hgo2 : go < ((wB.alloc (.cells (bytesRow (tab4 i) (grownCap wB (tab4 i).size 0 5)) 5 ((bytesRow (tab4 i) (grownCap wB (tab4 i).size 0 5)).size, (bytesRow (tab4 i) (grownCap wB (tab4 i).size 0 5)).size + 1))).drew).heap.size := by rw [<- hgo]; simp
         obtain ⟨co, hco⟩ : ∃ x, grownCap wB (tab4 i).size 0 5 = x := ⟨_, rfl⟩
         rw [hco] at hS hro hgo2 hkB |-
         obtain ⟨wD, hwD⟩ : ∃ x, (wB.alloc (.cells (bytesRow (tab4 i) co) 5 ((bytesRow (tab4 i) co).size, (bytesRow (tab4 i) co).size + 1))).drew = x := ⟨_, rfl⟩
         rw [hwD] at hS hro hgo2 hkB |-
         clear hwD hco hb7 hgo
         go_simp
         refine hK.out _ _ (Or.inr hS.out) (fun _ => ?_)
         clear hK K
         refine AnyT.ready (rs := [9, 19]) (by kernel_rfl) (by simp) ?_
         refine AllT.cons rfl (fun K hK => ?_) (AllT.cons rfl (fun K hK => ?_) AllT.nil)
         · go_simp
           have hSz := hS.out.size
           refine (HKD.out _).mono ?_
           rintro e w9 ⟨gk, ck, rfl, hrk, hlk, hlk9, hgk1, hgk2, hb9⟩
           have hS := hD (hS.out.trans (hb9.mono hS.out.size))
           have hro := (hro.below hb9).fit
           have hgo2 := Nat.lt_of_lt_of_le hgo2 hb9.size
           have hzk : wz.heap.size <= gk := by omega
           go_simp
           refine hK.out _ _ (Or.inr hS.out) (fun _ => ?_)
           clear hK K
           refine AnyT.take (i := 18) (v := .agg #[.int .i64 (x : Int), .int .i64 (y : Int), .slice (some ⟨gk, 0, none⟩) lk.length ck, .slice Av lv.length cv, .slice (some ⟨go, 0, none⟩) (sb (tab4 i)).length co]) rfl (by kernel_rfl) (by kernel_rfl) (by kernel_rfl) (by kernel_rfl) (fun _ _ _ h => h) (Or.inl ⟨by kernel_rfl, fun w _ => by go_simp; simp [sb_len]⟩) hS.out ?_
           refine AnyT.ready (rs := [19]) (by kernel_rfl) (by simp) ?_
           refine AllT.cons rfl (fun K hK => ?_) AllT.nil
           go_simp
           obtain ⟨g4, hg4⟩ : ∃ g, w9.heap.size = g := ⟨_, rfl⟩
           rw [hg4]
           have hnk : g4 ≠ gk := by omega
           have hno : g4 ≠ go := by omega
           have hz4 : wz.heap.size <= g4 := by have := hS.out.size; omega
           have hb4 : Below w9.heap.size w9 (w9.alloc (.cells #[.int .i64 0, .int .i64 0, .slice none 0 0, .slice none 0 0, .slice none 0 0] 41)) := (Below.refl _ _).alloc lR _
           have hS := hD (hS.out.trans (hb4.mono hS.out.size))
           have hro := (hro.below hb4).fit
           have hgo2 := Nat.lt_of_lt_of_le hgo2 hb4.size
           have hrk := (hrk.below hb4).fit
           have hgk2 := Nat.lt_of_lt_of_le hgk2 hb4.size
           have hk4 : Blk (w9.alloc (.cells #[.int .i64 0, .int .i64 0, .slice none 0 0, .slice none 0 0, .slice none 0 0] 41)) g4 41 #[.int .i64 0, .int .i64 0, .slice none 0 0, .slice none 0 0, .slice none 0 0] := by rw [<- hg4]; exact Blk.new _ _ _
           have hg42 := hk4.lt
           obtain ⟨wC, hwC⟩ : ∃ x, (w9.alloc (.cells #[.int .i64 0, .int .i64 0, .slice none 0 0, .slice none 0 0, .slice none 0 0] 41)) = x := ⟨_, rfl⟩
           rw [hwC] at hS hk4 hg42 hro hgo2 hrk hgk2 |-
           clear hwC hb4 hg4
           go_simp
           refine hK.out _ _ (Or.inr hS.out) (fun _ => ?_)
           clear hK K
           refine AnyT.ready (rs := [20]) (by kernel_rfl) (by simp) ?_
           refine AllT.cons rfl (fun K hK => ?_) AllT.nil
           obtain ⟨c0, c1, c2, c3, c4⟩ := five hk4
           have f0 := hk4.frozen 0
           have f1 := hk4.frozen 1
           have f2 := hk4.frozen 2
           have f3 := hk4.frozen 3
           have f4 := hk4.frozen 4
           go_simp
           refine hK.out _ _ (Or.inl rfl) (fun _ => ?_)
           clear hK K
           refine AnyT.done (by kernel_rfl) ?_ _
           go_wp2_with fail
           go_meet
           have hk5 := ((((hk4.set_ 0 (.int .i64 (x : Int))).set_ 1 (.int .i64 (y : Int))).set_ 2 (.slice (some ⟨gk, 0, none⟩) lk.length ck)).set_ 3 (.slice Av lv.length cv)).set_ 4 (.slice (some ⟨go, 0, none⟩) (sb (tab4 i)).length co)
           have hs : (sb (tab4 i)).length = (tab4 i).size := sb_len _
           rw [hs] at hro hk5
           refine ⟨g4, gk, go, ck, co, rfl, hD ⟨by rw [hs]; exact hk5, hz4, hzk, hzo, hnk, hno, ((((hrk.set_ne hnk).set_ne hnk).set_ne hnk).set_ne hnk).set_ne hnk, by rw [hs]; exact ((((hro.set_ne hno).set_ne hno).set_ne hno).set_ne hno).set_ne hno, ((((hS.out.setCell (p := ⟨g4, 0, none⟩) hz4 _).setCell (p := ⟨g4, 1, none⟩) hz4 _).setCell (p := ⟨g4, 2, none⟩) hz4 _).setCell (p := ⟨g4, 3, none⟩) hz4 _).setCell (p := ⟨g4, 4, none⟩) hz4 _⟩, hD ⟨hlk, hlk9, sb_lt _, by rw [sb_len]; exact tab4_size i hi4⟩⟩
         · go_simp
           obtain ⟨g4, hg4⟩ : ∃ g, wD.heap.size = g := ⟨_, rfl⟩
           rw [hg4]
           have hno : g4 ≠ go := by omega
           have hz4 : wz.heap.size <= g4 := by have := hS.out.size; omega
           have hb4 : Below wD.heap.size wD (wD.alloc (.cells #[.int .i64 0, .int .i64 0, .slice none 0 0, .slice none 0 0, .slice none 0 0] 41)) := (Below.refl _ _).alloc lR _
           have hS := hD (hS.out.trans (hb4.mono hS.out.size))
           have hro := (hro.below hb4).fit
           have hgo2 := Nat.lt_of_lt_of_le hgo2 hb4.size
           have hk4 : Blk (wD.alloc (.cells #[.int .i64 0, .int .i64 0, .slice none 0 0, .slice none 0 0, .slice none 0 0] 41)) g4 41 #[.int .i64 0, .int .i64 0, .slice none 0 0, .slice none 0 0, .slice none 0 0] := by rw [<- hg4]; exact Blk.new _ _ _
           have hg42 := hk4.lt
           obtain ⟨wC, hwC⟩ : ∃ x, (wD.alloc (.cells #[.int .i64 0, .int .i64 0, .slice none 0 0, .slice none 0 0, .slice none 0 0] 41)) = x := ⟨_, rfl⟩
           rw [hwC] at hS hk4 hg42 hro hgo2 |-
           clear hwC hb4 hg4
           go_simp
           refine hK.out _ _ (Or.inr hS.out) (fun _ => ?_)
           clear hK K
           refine AnyT.ready (rs := [9]) (by kernel_rfl) (by simp) ?_
           refine AllT.cons rfl (fun K hK => ?_) AllT.nil
           go_simp
           have hSz := hS.out.size
           refine (HKD.out _).mono ?_
           have hg4o := hg42
           rintro e w9 ⟨gk, ck, rfl, hrk, hlk, hlk9, hgk1, hgk2, hb9⟩
           have hS := hD (hS.out.trans (hb9.mono hS.out.size))
           have hro := (hro.below hb9).fit
           have hgo2 := Nat.lt_of_lt_of_le hgo2 hb9.size
           have hk4 := hk4.below hb9
           have hg42 := Nat.lt_of_lt_of_le hg42 hb9.size
           have hzk : wz.heap.size <= gk := by omega
           have hnk : g4 ≠ gk := by omega
           go_simp
           refine hK.out _ _ (Or.inr hS.out) (fun _ => ?_)
           clear hK K
           refine AnyT.take (i := 18) (v := .agg #[.int .i64 (x : Int), .int .i64 (y : Int), .slice (some ⟨gk, 0, none⟩) lk.length ck, .slice Av lv.length cv, .slice (some ⟨go, 0, none⟩) (sb (tab4 i)).length co]) rfl (by kernel_rfl) (by kernel_rfl) (by kernel_rfl) (by kernel_rfl) (fun _ _ _ h => h) (Or.inl ⟨by kernel_rfl, fun w _ => by go_simp; simp [sb_len]⟩) hS.out ?_
           refine AnyT.ready (rs := [20]) (by kernel_rfl) (by simp) ?_
           refine AllT.cons rfl (fun K hK => ?_) AllT.nil
           obtain ⟨c0, c1, c2, c3, c4⟩ := five hk4
           have f0 := hk4.frozen 0
           have f1 := hk4.frozen 1
           have f2 := hk4.frozen 2
           have f3 := hk4.frozen 3
           have f4 := hk4.frozen 4
           go_simp
           refine hK.out _ _ (Or.inl rfl) (fun _ => ?_)
           clear hK K
           refine AnyT.done (by kernel_rfl) ?_ _
           go_wp2_with fail
           go_meet
           have hk5 := ((((hk4.set_ 0 (.int .i64 (x : Int))).set_ 1 (.int .i64 (y : Int))).set_ 2 (.slice (some ⟨gk, 0, none⟩) lk.length ck)).set_ 3 (.slice Av lv.length cv)).set_ 4 (.slice (some ⟨go, 0, none⟩) (sb (tab4 i)).length co)
           have hs : (sb (tab4 i)).length = (tab4 i).size := sb_len _
           rw [hs] at hro hk5
           refine ⟨g4, gk, go, ck, co, rfl, hD ⟨by rw [hs]; exact hk5, hz4, hzk, hzo, hnk, hno, ((((hrk.set_ne hnk).set_ne hnk).set_ne hnk).set_ne hnk).set_ne hnk, by rw [hs]; exact ((((hro.set_ne hno).set_ne hno).set_ne hno).set_ne hno).set_ne hno, ((((hS.out.setCell (p := ⟨g4, 0, none⟩) hz4 _).setCell (p := ⟨g4, 1, none⟩) hz4 _).setCell (p := ⟨g4, 2, none⟩) hz4 _).setCell (p := ⟨g4, 3, none⟩) hz4 _).setCell (p := ⟨g4, 4, none⟩) hz4 _⟩, hD ⟨hlk, hlk9, sb_lt _, by rw [sb_len]; exact tab4_size i hi4⟩⟩
       · go_simp
         obtain ⟨g4, hg4⟩ : ∃ g, wB.heap.size = g := ⟨_, rfl⟩
         rw [hg4]
         have hz4 : wz.heap.size <= g4 := by have := hS.out.size; omega
         have hb4 : Below wB.heap.size wB (wB.alloc (.cells #[.int .i64 0, .int .i64 0, .slice none 0 0, .slice none 0 0, .slice none 0 0] 41)) := (Below.refl _ _).alloc lR _
         have hS := hD (hS.out.trans (hb4.mono hS.out.size))
         have hkB := hkB.below hb4
         have hk4 : Blk (wB.alloc (.cells #[.int .i64 0, .int .i64 0, .slice none 0 0, .slice none 0 0, .slice none 0 0] 41)) g4 41 #[.int .i64 0, .int .i64 0, .slice none 0 0, .slice none 0 0, .slice none 0 0] := by rw [<- hg4]; exact Blk.new _ _ _
         have hg42 := hk4.lt
         obtain ⟨wC, hwC⟩ : ∃ x, (wB.alloc (.cells #[.int .i64 0, .int .i64 0, .slice none 0 0, .slice none 0 0, .slice none 0 0] 41)) = x := ⟨_, rfl⟩
         rw [hwC] at hS hk4 hg42 hkB |-
         clear hwC hb4 hg4
         go_simp
         refine hK.out _ _ (Or.inr hS.out) (fun _ => ?_)
         clear hK K
         refine AnyT.ready (rs := [9, 17]) (by kernel_rfl) (by simp) ?_
         refine AllT.cons rfl (fun K hK => ?_) (AllT.cons rfl (fun K hK => ?_) AllT.nil)
         · go_simp
           have hSz := hS.out.size
           refine (HKD.out _).mono ?_
           have hg4o := hg42
           rintro e w9 ⟨gk, ck, rfl, hrk, hlk, hlk9, hgk1, hgk2, hb9⟩
           have hS := hD (hS.out.trans (hb9.mono hS.out.size))
           have hkB := hkB.below hb9
           have hk4 := hk4.below hb9
           have hg42 := Nat.lt_of_lt_of_le hg42 hb9.size
           have hzk : wz.heap.size <= gk := by omega
           have hnk : g4 ≠ gk := by omega
           go_simp
           refine hK.out _ _ (Or.inr hS.out) (fun _ => ?_)
           clear hK K
           refine AnyT.ready (rs := [17]) (by kernel_rfl) (by simp) ?_
           refine AllT.cons rfl (fun K hK => ?_) AllT.nil
           go_simp
           obtain ⟨go, hgo⟩ : ∃ g, w9.heap.size = g := ⟨_, rfl⟩
           rw [hgo]
           have hzo : wz.heap.size <= go := by have := hS.out.size; omega
           have hno : g4 ≠ go := by omega
           have hb7 : Below w9.heap.size w9 ((w9.alloc (.cells (bytesRow (tab4 i) (grownCap w9 (tab4 i).size 0 5)) 5 ((bytesRow (tab4 i) (grownCap w9 (tab4 i).size 0 5)).size, (bytesRow (tab4 i) (grownCap w9 (tab4 i).size 0 5)).size + 1))).drew) := ((Below.refl _ _).alloc lR _).drew
           have hS := hD (hS.out.trans (hb7.mono hS.out.size))
           have hkB := hkB.below hb7
           have hk4 := hk4.below hb7
           have hg42 := Nat.lt_of_lt_of_le hg42 hb7.size
           have hrk := (hrk.below hb7).fit
           have hgk2 := Nat.lt_of_lt_of_le hgk2 hb7.size
           have hro : Rd ((w9.alloc (.cells (bytesRow (tab4 i) (grownCap w9 (tab4 i).size 0 5)) 5 ((bytesRow (tab4 i) (grownCap w9 (tab4 i).size 0 5)).size, (bytesRow (tab4 i) (grownCap w9 (tab4 i).size 0 5)).size + 1))).drew) ((w9.alloc (.cells (bytesRow (tab4 i) (grownCap w9 (tab4 i).size 0 5)) 5 ((bytesRow (tab4 i) (grownCap w9 (tab4 i).size 0 5)).size, (bytesRow (tab4 i) (grownCap w9 (tab4 i).size 0 5)).size + 1))).drew).heap.size (some ⟨go, 0, none⟩) (sb (tab4 i)).length (bv (sb (tab4 i))) := Rd.of_stringAt _ _ _ _ _ hgo
           have hgo2 : go < ((w9.alloc (.cells (bytesRow (tab4 i) (grownCap w9 (tab4 i).size 0 5)) 5 ((bytesRow (tab4 i) (grownCap w9 (tab4 i).size 0 5)).size, (bytesRow (tab4 i) (grownCap w9 (tab4 i).size 0 5)).size + 1))).drew).heap.size := by rw [<- hgo]; simp
           obtain ⟨co, hco⟩ : ∃ x, grownCap w9 (tab4 i).size 0 5 = x := ⟨_, rfl⟩
           rw [hco] at hS hro hgo2 hkB hk4 hg42 hrk hgk2 |-
           obtain ⟨wD, hwD⟩ : ∃ x, (w9.alloc (.cells (bytesRow (tab4 i) co) 5 ((bytesRow (tab4 i) co).size, (bytesRow (tab4 i) co).size + 1))).drew = x := ⟨_, rfl⟩
           rw [hwD] at hS hro hgo2 hkB hk4 hg42 hrk hgk2 |-
           clear hwD hco hb7 hgo
           go_simp
           refine hK.out _ _ (Or.inr hS.out) (fun _ => ?_)
           clear hK K
           refine AnyT.take (i := 18) (v := .agg #[.int .i64 (x : Int), .int .i64 (y : Int), .slice (some ⟨gk, 0, none⟩) lk.length ck, .slice Av lv.length cv, .slice (some ⟨go, 0, none⟩) (sb (tab4 i)).length co]) rfl (by kernel_rfl) (by kernel_rfl) (by kernel_rfl) (by kernel_rfl) (fun _ _ _ h => h) (Or.inl ⟨by kernel_rfl, fun w _ => by go_simp; simp [sb_len]⟩) hS.out ?_
           refine AnyT.ready (rs := [20]) (by kernel_rfl) (by simp) ?_
           refine AllT.cons rfl (fun K hK => ?_) AllT.nil
           obtain ⟨c0, c1, c2, c3, c4⟩ := five hk4
           have f0 := hk4.frozen 0
           have f1 := hk4.frozen 1
           have f2 := hk4.frozen 2
           have f3 := hk4.frozen 3
           have f4 := hk4.frozen 4
           go_simp
           refine hK.out _ _ (Or.inl rfl) (fun _ => ?_)
           clear hK K
           refine AnyT.done (by kernel_rfl) ?_ _
           go_wp2_with fail
           go_meet
           have hk5 := ((((hk4.set_ 0 (.int .i64 (x : Int))).set_ 1 (.int .i64 (y : Int))).set_ 2 (.slice (some ⟨gk, 0, none⟩) lk.length ck)).set_ 3 (.slice Av lv.length cv)).set_ 4 (.slice (some ⟨go, 0, none⟩) (sb (tab4 i)).length co)
           have hs : (sb (tab4 i)).length = (tab4 i).size := sb_len _
           rw [hs] at hro hk5
           refine ⟨g4, gk, go, ck, co, rfl, hD ⟨by rw [hs]; exact hk5, hz4, hzk, hzo, hnk, hno, ((((hrk.set_ne hnk).set_ne hnk).set_ne hnk).set_ne hnk).set_ne hnk, by rw [hs]; exact ((((hro.set_ne hno).set_ne hno).set_ne hno).set_ne hno).set_ne hno, ((((hS.out.setCell (p := ⟨g4, 0, none⟩) hz4 _).setCell (p := ⟨g4, 1, none⟩) hz4 _).setCell (p := ⟨g4, 2, none⟩) hz4 _).setCell (p := ⟨g4, 3, none⟩) hz4 _).setCell (p := ⟨g4, 4, none⟩) hz4 _⟩, hD ⟨hlk, hlk9, sb_lt _, by rw [sb_len]; exact tab4_size i hi4⟩⟩
         · go_simp
           obtain ⟨go, hgo⟩ : ∃ g, wC.heap.size = g := ⟨_, rfl⟩
           rw [hgo]
           have hzo : wz.heap.size <= go := by have := hS.out.size; omega
           have hno : g4 ≠ go := by omega
           have hb7 : Below wC.heap.size wC ((wC.alloc (.cells (bytesRow (tab4 i) (grownCap wC (tab4 i).size 0 5)) 5 ((bytesRow (tab4 i) (grownCap wC (tab4 i).size 0 5)).size, (bytesRow (tab4 i) (grownCap wC (tab4 i).size 0 5)).size + 1))).drew) := ((Below.refl _ _).alloc lR _).drew
           have hS := hD (hS.out.trans (hb7.mono hS.out.size))
           have hkB := hkB.below hb7
           have hk4 := hk4.below hb7
           have hg42 := Nat.lt_of_lt_of_le hg42 hb7.size
           have hro : Rd ((wC.alloc (.cells (bytesRow (tab4 i) (grownCap wC (tab4 i).size 0 5)) 5 ((bytesRow (tab4 i) (grownCap wC (tab4 i).size 0 5)).size, (bytesRow (tab4 i) (grownCap wC (tab4 i).size 0 5)).size + 1))).drew) ((wC.alloc (.cells (bytesRow (tab4 i) (grownCap wC (tab4 i).size 0 5)) 5 ((bytesRow (tab4 i) (grownCap wC (tab4 i).size 0 5)).size, (bytesRow (tab4 i) (grownCap wC (tab4 i).size 0 5)).size + 1))).drew).heap.size (some ⟨go, 0, none⟩) (sb (tab4 i)).length (bv (sb (tab4 i))) := Rd.of_stringAt _ _ _ _ _ hgo
           have hgo2 : go < ((wC.alloc (.cells (bytesRow (tab4 i) (grownCap wC (tab4 i).size 0 5)) 5 ((bytesRow (tab4 i) (grownCap wC (tab4 i).size 0 5)).size, (bytesRow (tab4 i) (grownCap wC (tab4 i).size 0 5)).size + 1))).drew).heap.size := by rw [<- hgo]; simp
           obtain ⟨co, hco⟩ : ∃ x, grownCap wC (tab4 i).size 0 5 = x := ⟨_, rfl⟩
           rw [hco] at hS hro hgo2 hkB hk4 hg42 |-
           obtain ⟨wD, hwD⟩ : ∃ x, (wC.alloc (.cells (bytesRow (tab4 i) co) 5 ((bytesRow (tab4 i) co).size, (bytesRow (tab4 i) co).size + 1))).drew = x := ⟨_, rfl⟩
           rw [hwD] at hS hro hgo2 hkB hk4 hg42 |-
           clear hwD hco hb7 hgo
           go_simp
           refine hK.out _ _ (Or.inr hS.out) (fun _ => ?_)
           clear hK K
           refine AnyT.ready (rs := [9]) (by kernel_rfl) (by simp) ?_
           refine AllT.cons rfl (fun K hK => ?_) AllT.nil
           go_simp
           have hSz := hS.out.size
           refine (HKD.out _).mono ?_
           have hg4o := hg42
           rintro e w9 ⟨gk, ck, rfl, hrk, hlk, hlk9, hgk1, hgk2, hb9⟩
           have hS := hD (hS.out.trans (hb9.mono hS.out.size))
           have hk4 := hk4.below hb9
           have hg42 := Nat.lt_of_lt_of_le hg42 hb9.size
           have hro := (hro.below hb9).fit
           have hgo2 := Nat.lt_of_lt_of_le hgo2 hb9.size
           have hzk : wz.heap.size <= gk := by omega
           have hnk : g4 ≠ gk := by omega
           go_simp
           refine hK.out _ _ (Or.inr hS.out) (fun _ => ?_)
           clear hK K
           refine AnyT.take (i := 18) (v := .agg #[.int .i64 (x : Int), .int .i64 (y : Int), .slice (some ⟨gk, 0, none⟩) lk.length ck, .slice Av lv.length cv, .slice (some ⟨go, 0, none⟩) (sb (tab4 i)).length co]) rfl (by kernel_rfl) (by kernel_rfl) (by kernel_rfl) (by kernel_rfl) (fun _ _ _ h => h) (Or.inl ⟨by kernel_rfl, fun w _ => by go_simp; simp [sb_len]⟩) hS.out ?_
           refine AnyT.ready (rs := [20]) (by kernel_rfl) (by simp) ?_
           refine AllT.cons rfl (fun K hK => ?_) AllT.nil
           obtain ⟨c0, c1, c2, c3, c4⟩ := five hk4
           have f0 := hk4.frozen 0
           have f1 := hk4.frozen 1
           have f2 := hk4.frozen 2
           have f3 := hk4.frozen 3
           have f4 := hk4.frozen 4
           go_simp
           refine hK.out _ _ (Or.inl rfl) (fun _ => ?_)
           clear hK K
           refine AnyT.done (by kernel_rfl) ?_ _
           go_wp2_with fail
           go_meet
           have hk5 := ((((hk4.set_ 0 (.int .i64 (x : Int))).set_ 1 (.int .i64 (y : Int))).set_ 2 (.slice (some ⟨gk, 0, none⟩) lk.length ck)).set_ 3 (.slice Av lv.length cv)).set_ 4 (.slice (some ⟨go, 0, none⟩) (sb (tab4 i)).length co)
           have hs : (sb (tab4 i)).length = (tab4 i).size := sb_len _
           rw [hs] at hro hk5
           refine ⟨g4, gk, go, ck, co, rfl, hD ⟨by rw [hs]; exact hk5, hz4, hzk, hzo, hnk, hno, ((((hrk.set_ne hnk).set_ne hnk).set_ne hnk).set_ne hnk).set_ne hnk, by rw [hs]; exact ((((hro.set_ne hno).set_ne hno).set_ne hno).set_ne hno).set_ne hno, ((((hS.out.setCell (p := ⟨g4, 0, none⟩) hz4 _).setCell (p := ⟨g4, 1, none⟩) hz4 _).setCell (p := ⟨g4, 2, none⟩) hz4 _).setCell (p := ⟨g4, 3, none⟩) hz4 _).setCell (p := ⟨g4, 4, none⟩) hz4 _⟩, hD ⟨hlk, hlk9, sb_lt _, by rw [sb_len]; exact tab4_size i hi4⟩⟩
     · go_simp
       obtain ⟨g4, hg4⟩ : ∃ g, wB.heap.size = g := ⟨_, rfl⟩
       rw [hg4]
       have hz4 : wz.heap.size <= g4 := by have := hS.out.size; omega
       have hb4 : Below wB.heap.size wB (wB.alloc (.cells #[.int .i64 0, .int .i64 0, .slice none 0 0, .slice none 0 0, .slice none 0 0] 41)) := (Below.refl _ _).alloc lR _
       have hS := hD (hS.out.trans (hb4.mono hS.out.size))
       have hkB := hkB.below hb4
       have hk4 : Blk (wB.alloc (.cells #[.int .i64 0, .int .i64 0, .slice none 0 0, .slice none 0 0, .slice none 0 0] 41)) g4 41 #[.int .i64 0, .int .i64 0, .slice none 0 0, .slice none 0 0, .slice none 0 0] := by rw [<- hg4]; exact Blk.new _ _ _
       have hg42 := hk4.lt
       obtain ⟨wC, hwC⟩ : ∃ x, (wB.alloc (.cells #[.int .i64 0, .int .i64 0, .slice none 0 0, .slice none 0 0, .slice none 0 0] 41)) = x := ⟨_, rfl⟩
       rw [hwC] at hS hk4 hg42 hkB |-
       clear hwC hb4 hg4
       go_simp
       refine hK.out _ _ (Or.inr hS.out) (fun _ => ?_)
       clear hK K
       refine AnyT.ready (rs := [9, 16]) (by kernel_rfl) (by simp) ?_
       refine AllT.cons rfl (fun K hK => ?_) (AllT.cons rfl (fun K hK => ?_) AllT.nil)
       · go_simp
         have hSz := hS.out.size
         refine (HKD.out _).mono ?_
         have hg4o := hg42
         rintro e w9 ⟨gk, ck, rfl, hrk, hlk, hlk9, hgk1, hgk2, hb9⟩
         have hS := hD (hS.out.trans (hb9.mono hS.out.size))
         have hkB := hkB.below hb9
         have hk4 := hk4.below hb9
         have hg42 := Nat.lt_of_lt_of_le hg42 hb9.size
         have hzk : wz.heap.size <= gk := by omega
         have hnk : g4 ≠ gk := by omega
         go_simp
         refine hK.out _ _ (Or.inr hS.out) (fun _ => ?_)
         clear hK K
         refine AnyT.ready (rs := [16]) (by kernel_rfl) (by simp) ?_
         refine AllT.cons rfl (fun K hK => ?_) AllT.nil
         have hcB : w9.cell? ⟨gB, i, none⟩ = some (.string (tab4 i)) := by rw [hkB.cell]; have hl : i < (#[Value.string ⟨#[]⟩, .string ⟨#[97]⟩, .string ⟨#[98]⟩, .string ⟨#[97, 98]⟩] : Array Value).size := hi4; rw [Array.getElem?_eq_getElem hl]; congr 1; exact tab4_at i hi4
         go_simp
         refine hK.out _ _ (Or.inr hS.out) (fun _ => ?_)
         clear hK K
         refine AnyT.ready (rs := [17]) (by kernel_rfl) (by simp) ?_
         refine AllT.cons rfl (fun K hK => ?_) AllT.nil
         go_simp
         obtain ⟨go, hgo⟩ : ∃ g, w9.heap.size = g := ⟨_, rfl⟩
         rw [hgo]
         have hzo : wz.heap.size <= go := by have := hS.out.size; omega
         have hno : g4 ≠ go := by omega
         have hb7 : Below w9.heap.size w9 ((w9.alloc (.cells (bytesRow (tab4 i) (grownCap w9 (tab4 i).size 0 5)) 5 ((bytesRow (tab4 i) (grownCap w9 (tab4 i).size 0 5)).size, (bytesRow (tab4 i) (grownCap w9 (tab4 i).size 0 5)).size + 1))).drew) := ((Below.refl _ _).alloc lR _).drew
         have hS := hD (hS.out.trans (hb7.mono hS.out.size))
         have hkB := hkB.below hb7
         have hk4 := hk4.below hb7
         have hg42 := Nat.lt_of_lt_of_le hg42 hb7.size
         have hrk := (hrk.below hb7).fit
         have hgk2 := Nat.lt_of_lt_of_le hgk2 hb7.size
         have hro : Rd ((w9.alloc (.cells (bytesRow (tab4 i) (grownCap w9 (tab4 i).size 0 5)) 5 ((bytesRow (tab4 i) (grownCap w9 (tab4 i).size 0 5)).size, (bytesRow (tab4 i) (grownCap w9 (tab4 i).size 0 5)).size + 1))).drew) ((w9.alloc (.cells (bytesRow (tab4 i) (grownCap w9 (tab4 i).size 0 5)) 5 ((bytesRow (tab4 i) (grownCap w9 (tab4 i).size 0 5)).size, (bytesRow (tab4 i) (grownCap w9 (tab4 i).size 0 5)).size + 1))).drew).heap.size (some ⟨go, 0, none⟩) (sb (tab4 i)).length (bv (sb (tab4 i))) := Rd.of_stringAt _ _ _ _ _ hgo
         have hgo2 : go < ((w9.alloc (.cells (bytesRow (tab4 i) (grownCap w9 (tab4 i).size 0 5)) 5 ((bytesRow (tab4 i) (grownCap w9 (tab4 i).size 0 5)).size, (bytesRow (tab4 i) (grownCap w9 (tab4 i).size 0 5)).size + 1))).drew).heap.size := by rw [<- hgo]; simp
         obtain ⟨co, hco⟩ : ∃ x, grownCap w9 (tab4 i).size 0 5 = x := ⟨_, rfl⟩
         rw [hco] at hS hro hgo2 hkB hk4 hg42 hrk hgk2 |-
         obtain ⟨wD, hwD⟩ : ∃ x, (w9.alloc (.cells (bytesRow (tab4 i) co) 5 ((bytesRow (tab4 i) co).size, (bytesRow (tab4 i) co).size + 1))).drew = x := ⟨_, rfl⟩
         rw [hwD] at hS hro hgo2 hkB hk4 hg42 hrk hgk2 |-
         clear hwD hco hb7 hgo
         go_simp
         refine hK.out _ _ (Or.inr hS.out) (fun _ => ?_)
         clear hK K
         refine AnyT.take (i := 18) (v := .agg #[.int .i64 (x : Int), .int .i64 (y : Int), .slice (some ⟨gk, 0, none⟩) lk.length ck, .slice Av lv.length cv, .slice (some ⟨go, 0, none⟩) (sb (tab4 i)).length co]) rfl (by kernel_rfl) (by kernel_rfl) (by kernel_rfl) (by kernel_rfl) (fun _ _ _ h => h) (Or.inl ⟨by kernel_rfl, fun w _ => by go_simp; simp [sb_len]⟩) hS.out ?_
         refine AnyT.ready (rs := [20]) (by kernel_rfl) (by simp) ?_
         refine AllT.cons rfl (fun K hK => ?_) AllT.nil
         obtain ⟨c0, c1, c2, c3, c4⟩ := five hk4
         have f0 := hk4.frozen 0
         have f1 := hk4.frozen 1
         have f2 := hk4.frozen 2
         have f3 := hk4.frozen 3
         have f4 := hk4.frozen 4
         go_simp
         refine hK.out _ _ (Or.inl rfl) (fun _ => ?_)
         clear hK K
         refine AnyT.done (by kernel_rfl) ?_ _
         go_wp2_with fail
         go_meet
         have hk5 := ((((hk4.set_ 0 (.int .i64 (x : Int))).set_ 1 (.int .i64 (y : Int))).set_ 2 (.slice (some ⟨gk, 0, none⟩) lk.length ck)).set_ 3 (.slice Av lv.length cv)).set_ 4 (.slice (some ⟨go, 0, none⟩) (sb (tab4 i)).length co)
         have hs : (sb (tab4 i)).length = (tab4 i).size := sb_len _
         rw [hs] at hro hk5
         refine ⟨g4, gk, go, ck, co, rfl, hD ⟨by rw [hs]; exact hk5, hz4, hzk, hzo, hnk, hno, ((((hrk.set_ne hnk).set_ne hnk).set_ne hnk).set_ne hnk).set_ne hnk, by rw [hs]; exact ((((hro.set_ne hno).set_ne hno).set_ne hno).set_ne hno).set_ne hno, ((((hS.out.setCell (p := ⟨g4, 0, none⟩) hz4 _).setCell (p := ⟨g4, 1, none⟩) hz4 _).setCell (p := ⟨g4, 2, none⟩) hz4 _).setCell (p := ⟨g4, 3, none⟩) hz4 _).setCell (p := ⟨g4, 4, none⟩) hz4 _⟩, hD ⟨hlk, hlk9, sb_lt _, by rw [sb_len]; exact tab4_size i hi4⟩⟩
       · have hcB : wC.cell? ⟨gB, i, none⟩ = some (.string (tab4 i)) := by rw [hkB.cell]; have hl : i < (#[Value.string ⟨#[]⟩, .string ⟨#[97]⟩, .string ⟨#[98]⟩, .string ⟨#[97, 98]⟩] : Array Value).size := hi4; rw [Array.getElem?_eq_getElem hl]; congr 1; exact tab4_at i hi4
         go_simp
         refine hK.out _ _ (Or.inr hS.out) (fun _ => ?_)
         clear hK K
         refine AnyT.ready (rs := [9, 17]) (by kernel_rfl) (by simp) ?_
         refine AllT.cons rfl (fun K hK => ?_) (AllT.cons rfl (fun K hK => ?_) AllT.nil)
         · go_simp
           have hSz := hS.out.size
           refine (HKD.out _).mono ?_
           have hg4o := hg42
           rintro e w9 ⟨gk, ck, rfl, hrk, hlk, hlk9, hgk1, hgk2, hb9⟩
           have hS := hD (hS.out.trans (hb9.mono hS.out.size))
           have hkB := hkB.below hb9
           have hk4 := hk4.below hb9
           have hg42 := Nat.lt_of_lt_of_le hg42 hb9.size
           have hzk : wz.heap.size <= gk := by omega
           have hnk : g4 ≠ gk := by omega
           go_simp
           refine hK.out _ _ (Or.inr hS.out) (fun _ => ?_)
           clear hK K
           refine AnyT.ready (rs := [17]) (by kernel_rfl) (by simp) ?_
           refine AllT.cons rfl (fun K hK => ?_) AllT.nil
           go_simp
           obtain ⟨go, hgo⟩ : ∃ g, w9.heap.size = g := ⟨_, rfl⟩
           rw [hgo]
           have hzo : wz.heap.size <= go := by have := hS.out.size; omega
           have hno : g4 ≠ go := by omega
           have hb7 : Below w9.heap.size w9 ((w9.alloc (.cells (bytesRow (tab4 i) (grownCap w9 (tab4 i).size 0 5)) 5 ((bytesRow (tab4 i) (grownCap w9 (tab4 i).size 0 5)).size, (bytesRow (tab4 i) (grownCap w9 (tab4 i).size 0 5)).size + 1))).drew) := ((Below.refl _ _).alloc lR _).drew
           have hS := hD (hS.out.trans (hb7.mono hS.out.size))
           have hkB := hkB.below hb7
           have hk4 := hk4.below hb7
           have hg42 := Nat.lt_of_lt_of_le hg42 hb7.size
           have hrk := (hrk.below hb7).fit
           have hgk2 := Nat.lt_of_lt_of_le hgk2 hb7.size
           have hro : Rd ((w9.alloc (.cells (bytesRow (tab4 i) (grownCap w9 (tab4 i).size 0 5)) 5 ((bytesRow (tab4 i) (grownCap w9 (tab4 i).size 0 5)).size, (bytesRow (tab4 i) (grownCap w9 (tab4 i).size 0 5)).size + 1))).drew) ((w9.alloc (.cells (bytesRow (tab4 i) (grownCap w9 (tab4 i).size 0 5)) 5 ((bytesRow (tab4 i) (grownCap w9 (tab4 i).size 0 5)).size, (bytesRow (tab4 i) (grownCap w9 (tab4 i).size 0 5)).size + 1))).drew).heap.size (some ⟨go, 0, none⟩) (sb (tab4 i)).length (bv (sb (tab4 i))) := Rd.of_stringAt _ _ _ _ _ hgo
           have hgo2 : go < ((w9.alloc (.cells (bytesRow (tab4 i) (grownCap w9 (tab4 i).size 0 5)) 5 ((bytesRow (tab4 i) (grownCap w9 (tab4 i).size 0 5)).size, (bytesRow (tab4 i) (grownCap w9 (tab4 i).size 0 5)).size + 1))).drew).heap.size := by rw [<- hgo]; simp
           obtain ⟨co, hco⟩ : ∃ x, grownCap w9 (tab4 i).size 0 5 = x := ⟨_, rfl⟩
           rw [hco] at hS hro hgo2 hkB hk4 hg42 hrk hgk2 |-
           obtain ⟨wD, hwD⟩ : ∃ x, (w9.alloc (.cells (bytesRow (tab4 i) co) 5 ((bytesRow (tab4 i) co).size, (bytesRow (tab4 i) co).size + 1))).drew = x := ⟨_, rfl⟩
           rw [hwD] at hS hro hgo2 hkB hk4 hg42 hrk hgk2 |-
           clear hwD hco hb7 hgo
           go_simp
           refine hK.out _ _ (Or.inr hS.out) (fun _ => ?_)
           clear hK K
           refine AnyT.take (i := 18) (v := .agg #[.int .i64 (x : Int), .int .i64 (y : Int), .slice (some ⟨gk, 0, none⟩) lk.length ck, .slice Av lv.length cv, .slice (some ⟨go, 0, none⟩) (sb (tab4 i)).length co]) rfl (by kernel_rfl) (by kernel_rfl) (by kernel_rfl) (by kernel_rfl) (fun _ _ _ h => h) (Or.inl ⟨by kernel_rfl, fun w _ => by go_simp; simp [sb_len]⟩) hS.out ?_
           refine AnyT.ready (rs := [20]) (by kernel_rfl) (by simp) ?_
           refine AllT.cons rfl (fun K hK => ?_) AllT.nil
           obtain ⟨c0, c1, c2, c3, c4⟩ := five hk4
           have f0 := hk4.frozen 0
           have f1 := hk4.frozen 1
           have f2 := hk4.frozen 2
           have f3 := hk4.frozen 3
           have f4 := hk4.frozen 4
           go_simp
           refine hK.out _ _ (Or.inl rfl) (fun _ => ?_)
           clear hK K
           refine AnyT.done (by kernel_rfl) ?_ _
           go_wp2_with fail
           go_meet
           have hk5 := ((((hk4.set_ 0 (.int .i64 (x : Int))).set_ 1 (.int .i64 (y : Int))).set_ 2 (.slice (some ⟨gk, 0, none⟩) lk.length ck)).set_ 3 (.slice Av lv.length cv)).set_ 4 (.slice (some ⟨go, 0, none⟩) (sb (tab4 i)).length co)
           have hs : (sb (tab4 i)).length = (tab4 i).size := sb_len _
           rw [hs] at hro hk5
           refine ⟨g4, gk, go, ck, co, rfl, hD ⟨by rw [hs]; exact hk5, hz4, hzk, hzo, hnk, hno, ((((hrk.set_ne hnk).set_ne hnk).set_ne hnk).set_ne hnk).set_ne hnk, by rw [hs]; exact ((((hro.set_ne hno).set_ne hno).set_ne hno).set_ne hno).set_ne hno, ((((hS.out.setCell (p := ⟨g4, 0, none⟩) hz4 _).setCell (p := ⟨g4, 1, none⟩) hz4 _).setCell (p := ⟨g4, 2, none⟩) hz4 _).setCell (p := ⟨g4, 3, none⟩) hz4 _).setCell (p := ⟨g4, 4, none⟩) hz4 _⟩, hD ⟨hlk, hlk9, sb_lt _, by rw [sb_len]; exact tab4_size i hi4⟩⟩
         · go_simp
           obtain ⟨go, hgo⟩ : ∃ g, wC.heap.size = g := ⟨_, rfl⟩
           rw [hgo]
           have hzo : wz.heap.size <= go := by have := hS.out.size; omega
           have hno : g4 ≠ go := by omega
           have hb7 : Below wC.heap.size wC ((wC.alloc (.cells (bytesRow (tab4 i) (grownCap wC (tab4 i).size 0 5)) 5 ((bytesRow (tab4 i) (grownCap wC (tab4 i).size 0 5)).size, (bytesRow (tab4 i) (grownCap wC (tab4 i).size 0 5)).size + 1))).drew) := ((Below.refl _ _).alloc lR _).drew
           have hS := hD (hS.out.trans (hb7.mono hS.out.size))
           have hkB := hkB.below hb7
           have hk4 := hk4.below hb7
           have hg42 := Nat.lt_of_lt_of_le hg42 hb7.size
           have hro : Rd ((wC.alloc (.cells (bytesRow (tab4 i) (grownCap wC (tab4 i).size 0 5)) 5 ((bytesRow (tab4 i) (grownCap wC (tab4 i).size 0 5)).size, (bytesRow (tab4 i) (grownCap wC (tab4 i).size 0 5)).size + 1))).drew) ((wC.alloc (.cells (bytesRow (tab4 i) (grownCap wC (tab4 i).size 0 5)) 5 ((bytesRow (tab4 i) (grownCap wC (tab4 i).size 0 5)).size, (bytesRow (tab4 i) (grownCap wC (tab4 i).size 0 5)).size + 1))).drew).heap.size (some ⟨go, 0, none⟩) (sb (tab4 i)).length (bv (sb (tab4 i))) := Rd.of_stringAt _ _ _ _ _ hgo
           have hgo2 : go < ((wC.alloc (.cells (bytesRow (tab4 i) (grownCap wC (tab4 i).size 0 5)) 5 ((bytesRow (tab4 i) (grownCap wC (tab4 i).size 0 5)).size, (bytesRow (tab4 i) (grownCap wC (tab4 i).size 0 5)).size + 1))).drew).heap.size := by rw [<- hgo]; simp
           obtain ⟨co, hco⟩ : ∃ x, grownCap wC (tab4 i).size 0 5 = x := ⟨_, rfl⟩
           rw [hco] at hS hro hgo2 hkB hk4 hg42 |-
           obtain ⟨wD, hwD⟩ : ∃ x, (wC.alloc (.cells (bytesRow (tab4 i) co) 5 ((bytesRow (tab4 i) co).size, (bytesRow (tab4 i) co).size + 1))).drew = x := ⟨_, rfl⟩
           rw [hwD] at hS hro hgo2 hkB hk4 hg42 |-
           clear hwD hco hb7 hgo
           go_simp
           refine hK.out _ _ (Or.inr hS.out) (fun _ => ?_)
           clear hK K
           refine AnyT.ready (rs := [9]) (by kernel_rfl) (by simp) ?_
           refine AllT.cons rfl (fun K hK => ?_) AllT.nil
           go_simp
           have hSz := hS.out.size
           refine (HKD.out _).mono ?_
           have hg4o := hg42
           rintro e w9 ⟨gk, ck, rfl, hrk, hlk, hlk9, hgk1, hgk2, hb9⟩
           have hS := hD (hS.out.trans (hb9.mono hS.out.size))
           have hk4 := hk4.below hb9
           have hg42 := Nat.lt_of_lt_of_le hg42 hb9.size
           have hro := (hro.below hb9).fit
           have hgo2 := Nat.lt_of_lt_of_le hgo2 hb9.size
           have hzk : wz.heap.size <= gk := by omega
           have hnk : g4 ≠ gk := by omega
           go_simp
           refine hK.out _ _ (Or.inr hS.out) (fun _ => ?_)
           clear hK K
           refine AnyT.take (i := 18) (v := .agg #[.int .i64 (x : Int), .int .i64 (y : Int), .slice (some ⟨gk, 0, none⟩) lk.length ck, .slice Av lv.length cv, .slice (some ⟨go, 0, none⟩) (sb (tab4 i)).length co]) rfl (by kernel_rfl) (by kernel_rfl) (by kernel_rfl) (by kernel_rfl) (fun _ _ _ h => h) (Or.inl ⟨by kernel_rfl, fun w _ => by go_simp; simp [sb_len]⟩) hS.out ?_
           refine AnyT.ready (rs := [20]) (by kernel_rfl) (by simp) ?_
           refine AllT.cons rfl (fun K hK => ?_) AllT.nil
           obtain ⟨c0, c1, c2, c3, c4⟩ := five hk4
           have f0 := hk4.frozen 0
           have f1 := hk4.frozen 1
           have f2 := hk4.frozen 2
           have f3 := hk4.frozen 3
           have f4 := hk4.frozen 4
           go_simp
           refine hK.out _ _ (Or.inl rfl) (fun _ => ?_)
           clear hK K
           refine AnyT.done (by kernel_rfl) ?_ _
           go_wp2_with fail
           go_meet
           have hk5 := ((((hk4.set_ 0 (.int .i64 (x : Int))).set_ 1 (.int .i64 (y : Int))).set_ 2 (.slice (some ⟨gk, 0, none⟩) lk.length ck)).set_ 3 (.slice Av lv.length cv)).set_ 4 (.slice (some ⟨go, 0, none⟩) (sb (tab4 i)).length co)
           have hs : (sb (tab4 i)).length = (tab4 i).size := sb_len _
           rw [hs] at hro hk5
           refine ⟨g4, gk, go, ck, co, rfl, hD ⟨by rw [hs]; exact hk5, hz4, hzk, hzo, hnk, hno, ((((hrk.set_ne hnk).set_ne hnk).set_ne hnk).set_ne hnk).set_ne hnk, by rw [hs]; exact ((((hro.set_ne hno).set_ne hno).set_ne hno).set_ne hno).set_ne hno, ((((hS.out.setCell (p := ⟨g4, 0, none⟩) hz4 _).setCell (p := ⟨g4, 1, none⟩) hz4 _).setCell (p := ⟨g4, 2, none⟩) hz4 _).setCell (p := ⟨g4, 3, none⟩) hz4 _).setCell (p := ⟨g4, 4, none⟩) hz4 _⟩, hD ⟨hlk, hlk9, sb_lt _, by rw [sb_len]; exact tab4_size i hi4⟩⟩
   · go_simp
     obtain ⟨g4, hg4⟩ : ∃ g, w4.heap.size = g := ⟨_, rfl⟩
     rw [hg4]
     have hz4 : wz.heap.size <= g4 := by have := hS.out.size; omega
     have hb4 : Below w4.heap.size w4 (w4.alloc (.cells #[.int .i64 0, .int .i64 0, .slice none 0 0, .slice none 0 0, .slice none 0 0] 41)) := (Below.refl _ _).alloc lR _
     have hS := hD (hS.out.trans (hb4.mono hS.out.size))
     have hk4 : Blk (w4.alloc (.cells #[.int .i64 0, .int .i64 0, .slice none 0 0, .slice none 0 0, .slice none 0 0] 41)) g4 41 #[.int .i64 0, .int .i64 0, .slice none 0 0, .slice none 0 0, .slice none 0 0] := by rw [<- hg4]; exact Blk.new _ _ _
     have hg42 := hk4.lt
     obtain ⟨wC, hwC⟩ : ∃ x, (w4.alloc (.cells #[.int .i64 0, .int .i64 0, .slice none 0 0, .slice none 0 0, .slice none 0 0] 41)) = x := ⟨_, rfl⟩
     rw [hwC] at hS hk4 hg42 |-
     clear hwC hb4 hg4
     go_simp
     refine hK.out _ _ (Or.inr hS.out) (fun _ => ?_)
     clear hK K
     refine AnyT.ready (rs := [9, 11]) (by kernel_rfl) (by simp) ?_
     refine AllT.cons rfl (fun K hK => ?_) (AllT.cons rfl (fun K hK => ?_) AllT.nil)
     · go_simp
       have hSz := hS.out.size
       refine (HKD.out _).mono ?_
       have hg4o := hg42
       rintro e w9 ⟨gk, ck, rfl, hrk, hlk, hlk9, hgk1, hgk2, hb9⟩
       have hS := hD (hS.out.trans (hb9.mono hS.out.size))
       have hk4 := hk4.below hb9
       have hg42 := Nat.lt_of_lt_of_le hg42 hb9.size
       have hzk : wz.heap.size <= gk := by omega
       have hnk : g4 ≠ gk := by omega
       go_simp
       refine hK.out _ _ (Or.inr hS.out) (fun _ => ?_)
       clear hK K
       refine AnyT.ready (rs := [11]) (by kernel_rfl) (by simp) ?_
       refine AllT.cons rfl (fun K hK => ?_) AllT.nil
       go_simp
       obtain ⟨gB, hgB⟩ : ∃ g, w9.heap.size = g := ⟨_, rfl⟩
       rw [hgB]
       have hbB : Below w9.heap.size w9 (w9.alloc (.cells #[.string ⟨#[]⟩, .string ⟨#[97]⟩, .string ⟨#[98]⟩, .string ⟨#[97, 98]⟩] 9)) := (Below.refl _ _).alloc lR _
       have hS := hD (hS.out.trans (hbB.mono hS.out.size))
       have hk4 := hk4.below hbB
       have hg42 := Nat.lt_of_lt_of_le hg42 hbB.size
       have hrk := (hrk.below hbB).fit
       have hgk2 := Nat.lt_of_lt_of_le hgk2 hbB.size
       have hkB : Blk (w9.alloc (.cells #[.string ⟨#[]⟩, .string ⟨#[97]⟩, .string ⟨#[98]⟩, .string ⟨#[97, 98]⟩] 9)) gB 9 #[.string ⟨#[]⟩, .string ⟨#[97]⟩, .string ⟨#[98]⟩, .string ⟨#[97, 98]⟩] := by rw [<- hgB]; exact Blk.new _ _ _
       obtain ⟨wB, hwB⟩ : ∃ x, (w9.alloc (.cells #[.string ⟨#[]⟩, .string ⟨#[97]⟩, .string ⟨#[98]⟩, .string ⟨#[97, 98]⟩] 9)) = x := ⟨_, rfl⟩
       rw [hwB] at hS hkB hk4 hg42 hrk hgk2 |-
       clear hwB hbB hgB
       go_simp
       refine hK.out _ _ (Or.inr hS.out) (fun _ => ?_)
       clear hK K
       refine AnyT.take (i := 15) (v := .pointer (some ⟨gB, i, none⟩)) rfl (by kernel_rfl) (by kernel_rfl) (by kernel_rfl) (by kernel_rfl) (fun _ _ _ h => h) (Or.inl ⟨by kernel_rfl, fun w _ => by go_simp⟩) hS.out ?_
       refine AnyT.ready (rs := [16]) (by kernel_rfl) (by simp) ?_
       refine AllT.cons rfl (fun K hK => ?_) AllT.nil
       have hcB : wB.cell? ⟨gB, i, none⟩ = some (.string (tab4 i)) := by rw [hkB.cell]; have hl : i < (#[Value.string ⟨#[]⟩, .string ⟨#[97]⟩, .string ⟨#[98]⟩, .string ⟨#[97, 98]⟩] : Array Value).size := hi4; rw [Array.getElem?_eq_getElem hl]; congr 1; exact tab4_at i hi4
       go_simp
       refine hK.out _ _ (Or.inr hS.out) (fun _ => ?_)
       clear hK K
       refine AnyT.ready (rs := [17]) (by kernel_rfl) (by simp) ?_
       refine AllT.cons rfl (fun K hK => ?_) AllT.nil
       go_simp
       obtain ⟨go, hgo⟩ : ∃ g, wB.heap.size = g := ⟨_, rfl⟩
       rw [hgo]
       have hzo : wz.heap.size <= go := by have := hS.out.size; omega
       have hno : g4 ≠ go := by omega
       have hb7 : Below wB.heap.size wB ((wB.alloc (.cells (bytesRow (tab4 i) (grownCap wB (tab4 i).size 0 5)) 5 ((bytesRow (tab4 i) (grownCap wB (tab4 i).size 0 5)).size, (bytesRow (tab4 i) (grownCap wB (tab4 i).size 0 5)).size + 1))).drew) := ((Below.refl _ _).alloc lR _).drew
       have hS := hD (hS.out.trans (hb7.mono hS.out.size))
       have hk4 := hk4.below hb7
       have hg42 := Nat.lt_of_lt_of_le hg42 hb7.size
       have hrk := (hrk.below hb7).fit
       have hgk2 := Nat.lt_of_lt_of_le hgk2 hb7.size
       have hkB := hkB.below hb7
       have hro : Rd ((wB.alloc (.cells (bytesRow (tab4 i) (grownCap wB (tab4 i).size 0 5)) 5 ((bytesRow (tab4 i) (grownCap wB (tab4 i).size 0 5)).size, (bytesRow (tab4 i) (grownCap wB (tab4 i).size 0 5)).size + 1))).drew) ((wB.alloc (.cells (bytesRow (tab4 i) (grownCap wB (tab4 i).size 0 5)) 5 ((bytesRow (tab4 i) (grownCap wB (tab4 i).size 0 5)).size, (bytesRow (tab4 i) (grownCap wB (tab4 i).size 0 5)).size + 1))).drew).heap.size (some ⟨go, 0, none⟩) (sb (tab4 i)).length (bv (sb (tab4 i))) := Rd.of_stringAt _ _ _ _ _ hgo
       have hgo2 : go < ((wB.alloc (.cells (bytesRow (tab4 i) (grownCap wB (tab4 i).size 0 5)) 5 ((bytesRow (tab4 i) (grownCap wB (tab4 i).size 0 5)).size, (bytesRow (tab4 i) (grownCap wB (tab4 i).size 0 5)).size + 1))).drew).heap.size := by rw [<- hgo]; simp
       obtain ⟨co, hco⟩ : ∃ x, grownCap wB (tab4 i).size 0 5 = x := ⟨_, rfl⟩
       rw [hco] at hS hro hgo2 hk4 hg42 hrk hgk2 hkB |-
       obtain ⟨wD, hwD⟩ : ∃ x, (wB.alloc (.cells (bytesRow (tab4 i) co) 5 ((bytesRow (tab4 i) co).size, (bytesRow (tab4 i) co).size + 1))).drew = x := ⟨_, rfl⟩
       rw [hwD] at hS hro hgo2 hk4 hg42 hrk hgk2 hkB |-
       clear hwD hco hb7 hgo
       go_simp
       refine hK.out _ _ (Or.inr hS.out) (fun _ => ?_)
       clear hK K
       refine AnyT.take (i := 18) (v := .agg #[.int .i64 (x : Int), .int .i64 (y : Int), .slice (some ⟨gk, 0, none⟩) lk.length ck, .slice Av lv.length cv, .slice (some ⟨go, 0, none⟩) (sb (tab4 i)).length co]) rfl (by kernel_rfl) (by kernel_rfl) (by kernel_rfl) (by kernel_rfl) (fun _ _ _ h => h) (Or.inl ⟨by kernel_rfl, fun w _ => by go_simp; simp [sb_len]⟩) hS.out ?_
       refine AnyT.ready (rs := [20]) (by kernel_rfl) (by simp) ?_
       refine AllT.cons rfl (fun K hK => ?_) AllT.nil
       obtain ⟨c0, c1, c2, c3, c4⟩ := five hk4
       have f0 := hk4.frozen 0
       have f1 := hk4.frozen 1
       have f2 := hk4.frozen 2
       have f3 := hk4.frozen 3
       have f4 := hk4.frozen 4
       go_simp
       refine hK.out _ _ (Or.inl rfl) (fun _ => ?_)
       clear hK K
       refine AnyT.done (by kernel_rfl) ?_ _
       go_wp2_with fail
       go_meet
       have hk5 := ((((hk4.set_ 0 (.int .i64 (x : Int))).set_ 1 (.int .i64 (y : Int))).set_ 2 (.slice (some ⟨gk, 0, none⟩) lk.length ck)).set_ 3 (.slice Av lv.length cv)).set_ 4 (.slice (some ⟨go, 0, none⟩) (sb (tab4 i)).length co)
       have hs : (sb (tab4 i)).length = (tab4 i).size := sb_len _
       rw [hs] at hro hk5
       refine ⟨g4, gk, go, ck, co, rfl, hD ⟨by rw [hs]; exact hk5, hz4, hzk, hzo, hnk, hno, ((((hrk.set_ne hnk).set_ne hnk).set_ne hnk).set_ne hnk).set_ne hnk, by rw [hs]; exact ((((hro.set_ne hno).set_ne hno).set_ne hno).set_ne hno).set_ne hno, ((((hS.out.setCell (p := ⟨g4, 0, none⟩) hz4 _).setCell (p := ⟨g4, 1, none⟩) hz4 _).setCell (p := ⟨g4, 2, none⟩) hz4 _).setCell (p := ⟨g4, 3, none⟩) hz4 _).setCell (p := ⟨g4, 4, none⟩) hz4 _⟩, hD ⟨hlk, hlk9, sb_lt _, by rw [sb_len]; exact tab4_size i hi4⟩⟩
     · go_simp
       obtain ⟨gB, hgB⟩ : ∃ g, wC.heap.size = g := ⟨_, rfl⟩
       rw [hgB]
       have hbB : Below wC.heap.size wC (wC.alloc (.cells #[.string ⟨#[]⟩, .string ⟨#[97]⟩, .string ⟨#[98]⟩, .string ⟨#[97, 98]⟩] 9)) := (Below.refl _ _).alloc lR _
       have hS := hD (hS.out.trans (hbB.mono hS.out.size))
       have hk4 := hk4.below hbB
       have hg42 := Nat.lt_of_lt_of_le hg42 hbB.size
       have hkB : Blk (wC.alloc (.cells #[.string ⟨#[]⟩, .string ⟨#[97]⟩, .string ⟨#[98]⟩, .string ⟨#[97, 98]⟩] 9)) gB 9 #[.string ⟨#[]⟩, .string ⟨#[97]⟩, .string ⟨#[98]⟩, .string ⟨#[97, 98]⟩] := by rw [<- hgB]; exact Blk.new _ _ _
       obtain ⟨wB, hwB⟩ : ∃ x, (wC.alloc (.cells #[.string ⟨#[]⟩, .string ⟨#[97]⟩, .string ⟨#[98]⟩, .string ⟨#[97, 98]⟩] 9)) = x := ⟨_, rfl⟩
       rw [hwB] at hS hkB hk4 hg42 |-
       clear hwB hbB hgB
       go_simp
       refine hK.out _ _ (Or.inr hS.out) (fun _ => ?_)
       clear hK K
       refine AnyT.take (i := 15) (v := .pointer (some ⟨gB, i, none⟩)) rfl (by kernel_rfl) (by kernel_rfl) (by kernel_rfl) (by kernel_rfl) (fun _ _ _ h => h) (Or.inl ⟨by kernel_rfl, fun w _ => by go_simp⟩) hS.out ?_
       refine AnyT.ready (rs := [9, 16]) (by kernel_rfl) (by simp) ?_
       refine AllT.cons rfl (fun K hK => ?_) (AllT.cons rfl (fun K hK => ?_) AllT.nil)
       · go_simp
         have hSz := hS.out.size
         refine (HKD.out _).mono ?_
         have hg4o := hg42
         rintro e w9 ⟨gk, ck, rfl, hrk, hlk, hlk9, hgk1, hgk2, hb9⟩
         have hS := hD (hS.out.trans (hb9.mono hS.out.size))
         have hk4 := hk4.below hb9
         have hg42 := Nat.lt_of_lt_of_le hg42 hb9.size
         have hkB := hkB.below hb9
         have hzk : wz.heap.size <= gk := by omega
         have hnk : g4 ≠ gk := by omega
         go_simp
         refine hK.out _ _ (Or.inr hS.out) (fun _ => ?_)
         clear hK K
         refine AnyT.ready (rs := [16]) (by kernel_rfl) (by simp) ?_
         refine AllT.cons rfl (fun K hK => ?_) AllT.nil
         have hcB : w9.cell? ⟨gB, i, none⟩ = some (.string (tab4 i)) := by rw [hkB.cell]; have hl : i < (#[Value.string ⟨#[]⟩, .string ⟨#[97]⟩, .string ⟨#[98]⟩, .string ⟨#[97, 98]⟩] : Array Value).size := hi4; rw [Array.getElem?_eq_getElem hl]; congr 1; exact tab4_at i hi4
         go_simp
         refine hK.out _ _ (Or.inr hS.out) (fun _ => ?_)
         clear hK K
         refine AnyT.ready (rs := [17]) (by kernel_rfl) (by simp) ?_
         refine AllT.cons rfl (fun K hK => ?_) AllT.nil
         go_simp
         obtain ⟨go, hgo⟩ : ∃ g, w9.heap.size = g := ⟨_, rfl⟩
         rw [hgo]
         have hzo : wz.heap.size <= go := by have := hS.out.size; omega
         have hno : g4 ≠ go := by omega
         have hb7 : Below w9.heap.size w9 ((w9.alloc (.cells (bytesRow (tab4 i) (grownCap w9 (tab4 i).size 0 5)) 5 ((bytesRow (tab4 i) (grownCap w9 (tab4 i).size 0 5)).size, (bytesRow (tab4 i) (grownCap w9 (tab4 i).size 0 5)).size + 1))).drew) := ((Below.refl _ _).alloc lR _).drew
         have hS := hD (hS.out.trans (hb7.mono hS.out.size))
         have hk4 := hk4.below hb7
         have hg42 := Nat.lt_of_lt_of_le hg42 hb7.size
         have hkB := hkB.below hb7
         have hrk := (hrk.below hb7).fit
         have hgk2 := Nat.lt_of_lt_of_le hgk2 hb7.size
         have hro : Rd ((w9.alloc (.cells (bytesRow (tab4 i) (grownCap w9 (tab4 i).size 0 5)) 5 ((bytesRow (tab4 i) (grownCap w9 (tab4 i).size 0 5)).size, (bytesRow (tab4 i) (grownCap w9 (tab4 i).size 0 5)).size + 1))).drew) ((w9.alloc (.cells (bytesRow (tab4 i) (grownCap w9 (tab4 i).size 0 5)) 5 ((bytesRow (tab4 i) (grownCap w9 (tab4 i).size 0 5)).size, (bytesRow (tab4 i) (grownCap w9 (tab4 i).size 0 5)).size + 1))).drew).heap.size (some ⟨go, 0, none⟩) (sb (tab4 i)).length (bv (sb (tab4 i))) := Rd.of_stringAt _ _ _ _ _ hgo
         have hgo2 : go < ((w9.alloc (.cells (bytesRow (tab4 i) (grownCap w9 (tab4 i).size 0 5)) 5 ((bytesRow (tab4 i) (grownCap w9 (tab4 i).size 0 5)).size, (bytesRow (tab4 i) (grownCap w9 (tab4 i).size 0 5)).size + 1))).drew).heap.size := by rw [<- hgo]; simp
         obtain ⟨co, hco⟩ : ∃ x, grownCap w9 (tab4 i).size 0 5 = x := ⟨_, rfl⟩
         rw [hco] at hS hro hgo2 hk4 hg42 hkB hrk hgk2 |-
         obtain ⟨wD, hwD⟩ : ∃ x, (w9.alloc (.cells (bytesRow (tab4 i) co) 5 ((bytesRow (tab4 i) co).size, (bytesRow (tab4 i) co).size + 1))).drew = x := ⟨_, rfl⟩
         rw [hwD] at hS hro hgo2 hk4 hg42 hkB hrk hgk2 |-
         clear hwD hco hb7 hgo
         go_simp
         refine hK.out _ _ (Or.inr hS.out) (fun _ => ?_)
         clear hK K
         refine AnyT.take (i := 18) (v := .agg #[.int .i64 (x : Int), .int .i64 (y : Int), .slice (some ⟨gk, 0, none⟩) lk.length ck, .slice Av lv.length cv, .slice (some ⟨go, 0, none⟩) (sb (tab4 i)).length co]) rfl (by kernel_rfl) (by kernel_rfl) (by kernel_rfl) (by kernel_rfl) (fun _ _ _ h => h) (Or.inl ⟨by kernel_rfl, fun w _ => by go_simp; simp [sb_len]⟩) hS.out ?_
         refine AnyT.ready (rs := [20]) (by kernel_rfl) (by simp) ?_
         refine AllT.cons rfl (fun K hK => ?_) AllT.nil
         obtain ⟨c0, c1, c2, c3, c4⟩ := five hk4
         have f0 := hk4.frozen 0
         have f1 := hk4.frozen 1
         have f2 := hk4.frozen 2
         have f3 := hk4.frozen 3
         have f4 := hk4.frozen 4
         go_simp
         refine hK.out _ _ (Or.inl rfl) (fun _ => ?_)
         clear hK K
         refine AnyT.done (by kernel_rfl) ?_ _
         go_wp2_with fail
         go_meet
         have hk5 := ((((hk4.set_ 0 (.int .i64 (x : Int))).set_ 1 (.int .i64 (y : Int))).set_ 2 (.slice (some ⟨gk, 0, none⟩) lk.length ck)).set_ 3 (.slice Av lv.length cv)).set_ 4 (.slice (some ⟨go, 0, none⟩) (sb (tab4 i)).length co)
         have hs : (sb (tab4 i)).length = (tab4 i).size := sb_len _
         rw [hs] at hro hk5
         refine ⟨g4, gk, go, ck, co, rfl, hD ⟨by rw [hs]; exact hk5, hz4, hzk, hzo, hnk, hno, ((((hrk.set_ne hnk).set_ne hnk).set_ne hnk).set_ne hnk).set_ne hnk, by rw [hs]; exact ((((hro.set_ne hno).set_ne hno).set_ne hno).set_ne hno).set_ne hno, ((((hS.out.setCell (p := ⟨g4, 0, none⟩) hz4 _).setCell (p := ⟨g4, 1, none⟩) hz4 _).setCell (p := ⟨g4, 2, none⟩) hz4 _).setCell (p := ⟨g4, 3, none⟩) hz4 _).setCell (p := ⟨g4, 4, none⟩) hz4 _⟩, hD ⟨hlk, hlk9, sb_lt _, by rw [sb_len]; exact tab4_size i hi4⟩⟩
       · have hcB : wB.cell? ⟨gB, i, none⟩ = some (.string (tab4 i)) := by rw [hkB.cell]; have hl : i < (#[Value.string ⟨#[]⟩, .string ⟨#[97]⟩, .string ⟨#[98]⟩, .string ⟨#[97, 98]⟩] : Array Value).size := hi4; rw [Array.getElem?_eq_getElem hl]; congr 1; exact tab4_at i hi4
         go_simp
         refine hK.out _ _ (Or.inr hS.out) (fun _ => ?_)
         clear hK K
         refine AnyT.ready (rs := [9, 17]) (by kernel_rfl) (by simp) ?_
         refine AllT.cons rfl (fun K hK => ?_) (AllT.cons rfl (fun K hK => ?_) AllT.nil)
         · go_simp
           have hSz := hS.out.size
           refine (HKD.out _).mono ?_
           have hg4o := hg42
           rintro e w9 ⟨gk, ck, rfl, hrk, hlk, hlk9, hgk1, hgk2, hb9⟩
           have hS := hD (hS.out.trans (hb9.mono hS.out.size))
           have hk4 := hk4.below hb9
           have hg42 := Nat.lt_of_lt_of_le hg42 hb9.size
           have hkB := hkB.below hb9
           have hzk : wz.heap.size <= gk := by omega
           have hnk : g4 ≠ gk := by omega
           go_simp
           refine hK.out _ _ (Or.inr hS.out) (fun _ => ?_)
           clear hK K
           refine AnyT.ready (rs := [17]) (by kernel_rfl) (by simp) ?_
           refine AllT.cons rfl (fun K hK => ?_) AllT.nil
           go_simp
           obtain ⟨go, hgo⟩ : ∃ g, w9.heap.size = g := ⟨_, rfl⟩
           rw [hgo]
           have hzo : wz.heap.size <= go := by have := hS.out.size; omega
           have hno : g4 ≠ go := by omega
           have hb7 : Below w9.heap.size w9 ((w9.alloc (.cells (bytesRow (tab4 i) (grownCap w9 (tab4 i).size 0 5)) 5 ((bytesRow (tab4 i) (grownCap w9 (tab4 i).size 0 5)).size, (bytesRow (tab4 i) (grownCap w9 (tab4 i).size 0 5)).size + 1))).drew) := ((Below.refl _ _).alloc lR _).drew
           have hS := hD (hS.out.trans (hb7.mono hS.out.size))
           have hk4 := hk4.below hb7
           have hg42 := Nat.lt_of_lt_of_le hg42 hb7.size
           have hkB := hkB.below hb7
           have hrk := (hrk.below hb7).fit
           have hgk2 := Nat.lt_of_lt_of_le hgk2 hb7.size
           have hro : Rd ((w9.alloc (.cells (bytesRow (tab4 i) (grownCap w9 (tab4 i).size 0 5)) 5 ((bytesRow (tab4 i) (grownCap w9 (tab4 i).size 0 5)).size, (bytesRow (tab4 i) (grownCap w9 (tab4 i).size 0 5)).size + 1))).drew) ((w9.alloc (.cells (bytesRow (tab4 i) (grownCap w9 (tab4 i).size 0 5)) 5 ((bytesRow (tab4 i) (grownCap w9 (tab4 i).size 0 5)).size, (bytesRow (tab4 i) (grownCap w9 (tab4 i).size 0 5)).size + 1))).drew).heap.size (some ⟨go, 0, none⟩) (sb (tab4 i)).length (bv (sb (tab4 i))) := Rd.of_stringAt _ _ _ _ _ hgo
           have hgo2 : go < ((w9.alloc (.cells (bytesRow (tab4 i) (grownCap w9 (tab4 i).size 0 5)) 5 ((bytesRow (tab4 i) (grownCap w9 (tab4 i).size 0 5)).size, (bytesRow (tab4 i) (grownCap w9 (tab4 i).size 0 5)).size + 1))).drew).heap.size := by rw [<- hgo]; simp
           obtain ⟨co, hco⟩ : ∃ x, grownCap w9 (tab4 i).size 0 5 = x := ⟨_, rfl⟩
           rw [hco] at hS hro hgo2 hk4 hg42 hkB hrk hgk2 |-
           obtain ⟨wD, hwD⟩ : ∃ x, (w9.alloc (.cells (bytesRow (tab4 i) co) 5 ((bytesRow (tab4 i) co).size, (bytesRow (tab4 i) co).size + 1))).drew = x := ⟨_, rfl⟩
           rw [hwD] at hS hro hgo2 hk4 hg42 hkB hrk hgk2 |-
           clear hwD hco hb7 hgo
           go_simp
           refine hK.out _ _ (Or.inr hS.out) (fun _ => ?_)
           clear hK K
           refine AnyT.take (i := 18) (v := .agg #[.int .i64 (x : Int), .int .i64 (y : Int), .slice (some ⟨gk, 0, none⟩) lk.length ck, .slice Av lv.length cv, .slice (some ⟨go, 0, none⟩) (sb (tab4 i)).length co]) rfl (by kernel_rfl) (by kernel_rfl) (by kernel_rfl) (by kernel_rfl) (fun _ _ _ h => h) (Or.inl ⟨by kernel_rfl, fun w _ => by go_simp; simp [sb_len]⟩) hS.out ?_
           refine AnyT.ready (rs := [20]) (by kernel_rfl) (by simp) ?_
           refine AllT.cons rfl (fun K hK => ?_) AllT.nil
           obtain ⟨c0, c1, c2, c3, c4⟩ := five hk4
           have f0 := hk4.frozen 0
           have f1 := hk4.frozen 1
           have f2 := hk4.frozen 2
           have f3 := hk4.frozen 3
           have f4 := hk4.frozen 4
           go_simp
           refine hK.out _ _ (Or.inl rfl) (fun _ => ?_)
           clear hK K
           refine AnyT.done (by kernel_rfl) ?_ _
           go_wp2_with fail
           go_meet
           have hk5 := ((((hk4.set_ 0 (.int .i64 (x : Int))).set_ 1 (.int .i64 (y : Int))).set_ 2 (.slice (some ⟨gk, 0, none⟩) lk.length ck)).set_ 3 (.slice Av lv.length cv)).set_ 4 (.slice (some ⟨go, 0, none⟩) (sb (tab4 i)).length co)
           have hs : (sb (tab4 i)).length = (tab4 i).size := sb_len _
           rw [hs] at hro hk5
           refine ⟨g4, gk, go, ck, co, rfl, hD ⟨by rw [hs]; exact hk5, hz4, hzk, hzo, hnk, hno, ((((hrk.set_ne hnk).set_ne hnk).set_ne hnk).set_ne hnk).set_ne hnk, by rw [hs]; exact ((((hro.set_ne hno).set_ne hno).set_ne hno).set_ne hno).set_ne hno, ((((hS.out.setCell (p := ⟨g4, 0, none⟩) hz4 _).setCell (p := ⟨g4, 1, none⟩) hz4 _).setCell (p := ⟨g4, 2, none⟩) hz4 _).setCell (p := ⟨g4, 3, none⟩) hz4 _).setCell (p := ⟨g4, 4, none⟩) hz4 _⟩, hD ⟨hlk, hlk9, sb_lt _, by rw [sb_len]; exact tab4_size i hi4⟩⟩
         · go_simp
           obtain ⟨go, hgo⟩ : ∃ g, wB.heap.size = g := ⟨_, rfl⟩
           rw [hgo]
           have hzo : wz.heap.size <= go := by have := hS.out.size; omega
           have hno : g4 ≠ go := by omega
           have hb7 : Below wB.heap.size wB ((wB.alloc (.cells (bytesRow (tab4 i) (grownCap wB (tab4 i).size 0 5)) 5 ((bytesRow (tab4 i) (grownCap wB (tab4 i).size 0 5)).size, (bytesRow (tab4 i) (grownCap wB (tab4 i).size 0 5)).size + 1))).drew) := ((Below.refl _ _).alloc lR _).drew
           have hS := hD (hS.out.trans (hb7.mono hS.out.size))
           have hk4 := hk4.below hb7
           have hg42 := Nat.lt_of_lt_of_le hg42 hb7.size
           have hkB := hkB.below hb7
           have hro : Rd ((wB.alloc (.cells (bytesRow (tab4 i) (grownCap wB (tab4 i).size 0 5)) 5 ((bytesRow (tab4 i) (grownCap wB (tab4 i).size 0 5)).size, (bytesRow (tab4 i) (grownCap wB (tab4 i).size 0 5)).size + 1))).drew) ((wB.alloc (.cells (bytesRow (tab4 i) (grownCap wB (tab4 i).size 0 5)) 5 ((bytesRow (tab4 i) (grownCap wB (tab4 i).size 0 5)).size, (bytesRow (tab4 i) (grownCap wB (tab4 i).size 0 5)).size + 1))).drew).heap.size (some ⟨go, 0, none⟩) (sb (tab4 i)).length (bv (sb (tab4 i))) := Rd.of_stringAt _ _ _ _ _ hgo
           have hgo2 : go < ((wB.alloc (.cells (bytesRow (tab4 i) (grownCap wB (tab4 i).size 0 5)) 5 ((bytesRow (tab4 i) (grownCap wB (tab4 i).size 0 5)).size, (bytesRow (tab4 i) (grownCap wB (tab4 i).size 0 5)).size + 1))).drew).heap.size := by rw [<- hgo]; simp
           obtain ⟨co, hco⟩ : ∃ x, grownCap wB (tab4 i).size 0 5 = x := ⟨_, rfl⟩
           rw [hco] at hS hro hgo2 hk4 hg42 hkB |-
           obtain ⟨wD, hwD⟩ : ∃ x, (wB.alloc (.cells (bytesRow (tab4 i) co) 5 ((bytesRow (tab4 i) co).size, (bytesRow (tab4 i) co).size + 1))).drew = x := ⟨_, rfl⟩
           rw [hwD] at hS hro hgo2 hk4 hg42 hkB |-
           clear hwD hco hb7 hgo
           go_simp
           refine hK.out _ _ (Or.inr hS.out) (fun _ => ?_)
           clear hK K
           refine AnyT.ready (rs := [9]) (by kernel_rfl) (by simp) ?_
           refine AllT.cons rfl (fun K hK => ?_) AllT.nil
           go_simp
           have hSz := hS.out.size
           refine (HKD.out _).mono ?_
           have hg4o := hg42
           rintro e w9 ⟨gk, ck, rfl, hrk, hlk, hlk9, hgk1, hgk2, hb9⟩
           have hS := hD (hS.out.trans (hb9.mono hS.out.size))
           have hk4 := hk4.below hb9
           have hg42 := Nat.lt_of_lt_of_le hg42 hb9.size
           have hro := (hro.below hb9).fit
           have hgo2 := Nat.lt_of_lt_of_le hgo2 hb9.size
           have hzk : wz.heap.size <= gk := by omega
           have hnk : g4 ≠ gk := by omega
           go_simp
           refine hK.out _ _ (Or.inr hS.out) (fun _ => ?_)
           clear hK K
           refine AnyT.take (i := 18) (v := .agg #[.int .i64 (x : Int), .int .i64 (y : Int), .slice (some ⟨gk, 0, none⟩) lk.length ck, .slice Av lv.length cv, .slice (some ⟨go, 0, none⟩) (sb (tab4 i)).length co]) rfl (by kernel_rfl) (by kernel_rfl) (by kernel_rfl) (by kernel_rfl) (fun _ _ _ h => h) (Or.inl ⟨by kernel_rfl, fun w _ => by go_simp; simp [sb_len]⟩) hS.out ?_
           refine AnyT.ready (rs := [20]) (by kernel_rfl) (by simp) ?_
           refine AllT.cons rfl (fun K hK => ?_) AllT.nil
           obtain ⟨c0, c1, c2, c3, c4⟩ := five hk4
           have f0 := hk4.frozen 0
           have f1 := hk4.frozen 1
           have f2 := hk4.frozen 2
           have f3 := hk4.frozen 3
           have f4 := hk4.frozen 4
           go_simp
           refine hK.out _ _ (Or.inl rfl) (fun _ => ?_)
           clear hK K
           refine AnyT.done (by kernel_rfl) ?_ _
           go_wp2_with fail
           go_meet
           have hk5 := ((((hk4.set_ 0 (.int .i64 (x : Int))).set_ 1 (.int .i64 (y : Int))).set_ 2 (.slice (some ⟨gk, 0, none⟩) lk.length ck)).set_ 3 (.slice Av lv.length cv)).set_ 4 (.slice (some ⟨go, 0, none⟩) (sb (tab4 i)).length co)
           have hs : (sb (tab4 i)).length = (tab4 i).size := sb_len _
           rw [hs] at hro hk5
           refine ⟨g4, gk, go, ck, co, rfl, hD ⟨by rw [hs]; exact hk5, hz4, hzk, hzo, hnk, hno, ((((hrk.set_ne hnk).set_ne hnk).set_ne hnk).set_ne hnk).set_ne hnk, by rw [hs]; exact ((((hro.set_ne hno).set_ne hno).set_ne hno).set_ne hno).set_ne hno, ((((hS.out.setCell (p := ⟨g4, 0, none⟩) hz4 _).setCell (p := ⟨g4, 1, none⟩) hz4 _).setCell (p := ⟨g4, 2, none⟩) hz4 _).setCell (p := ⟨g4, 3, none⟩) hz4 _).setCell (p := ⟨g4, 4, none⟩) hz4 _⟩, hD ⟨hlk, hlk9, sb_lt _, by rw [sb_len]; exact tab4_size i hi4⟩⟩
  case rest =>
   obtain ⟨g, gk, go, ck, co, rfl, HC, HL⟩ := hcut
   obtain ⟨lo, hlo⟩ : ∃ l, sb (tab4 i) = l := ⟨_, rfl⟩
   obtain ⟨kd, hkd⟩ : ∃ l, (x : Int) = l := ⟨_, rfl⟩
   obtain ⟨wh, hwh⟩ : ∃ l, (y : Int) = l := ⟨_, rfl⟩
   rw [hlo, hkd, hwh] at HC
   rw [hlo] at HL
   have HLO := hD hlo
   have HKD0 := hD (HXN.out.trans hkd)
   have HWH := hD (HYN.out.trans hwh)
   clear hlo hkd hwh
   clear h4 hii hm hy hi hx hxw kc
   rename World => w5
   obtain ⟨p, hp, hp4, hpn⟩ : ∃ p : Nat, bits .and .i64 (n / 131072) 3 = (p : Int) /\ p < 4 /\ (n / 131072 % 4).toNat = p := by
    rw [and_3]; have h1 := Int.emod_nonneg (n / 131072) (show (4 : Int) ≠ 0 by omega); exact ⟨(n / 131072 % 4).toNat, by omega, by omega, rfl⟩
   have HPN := hD hpn
   clear hpn
   have hpi : (p : Int) < 4 := by omega
   have hpt := tabk_at p
   obtain ⟨z0, z1, z2, z3, z4⟩ := five HC.out.blk
   go_upto_region 3 with fail
   go_cut [38] from 31 to 38 (fun s38 wx => ∃ b : Bool, s38 = .bool b /\ Hid (b = (kd == 0 || kd == 12)) /\ wx = w5)
   case first =>
    by_cases h0 : kd = 0
    · have k0 : (kd == 0) = true := by simpa using h0
      clear h0
      go_wp2_with fail
      go_meet
      exact ⟨_, rfl, hD (by rw [k0]; rfl), rfl⟩
    · have k0 : (kd == 0) = false := by simpa using h0
      clear h0
      go_wp2_with fail
      go_meet
      exact ⟨_, rfl, hD (by rw [k0]; first | rfl | simp), rfl⟩
   case rest =>
   obtain ⟨b, rfl, HBB, hw5⟩ := hcut
   subst hw5
   rename World => w5
   go_upto_if 38 with fail
   go_cut [] from 39 to 45 (fun wx => ∃ kd', Hid (kd' = if b = true then tabk p else kd) /\ Hid (CmdS wz wx g gk go ck co Av cv lk lv lo kd' wh))
   case first =>
    cases b with
    | false =>
      go_wp2_with fail
      go_meet
      exact ⟨_, hD (by simp), HC⟩
    | true =>
      have HA := hD (HC.out.below ((Below.refl _ _).alloc lR (.cells #[.int .i64 1, .int .i64 2, .int .i64 4, .int .i64 9] 3)))
      obtain ⟨t0, t1, t2, t3, t4⟩ := five HA.out.blk
      have f0 := HA.out.blk.frozen 0
      go_wp2_with fail
      go_meet
      exact ⟨_, hD (by simp), hD (HA.out.set0 _)⟩
   case rest =>
    obtain ⟨kd', HKD1, HC2⟩ := hcut
    clear z0 z1 z2 z3 z4 hp hpi hpt HC
    rename World => w6
    obtain ⟨q, hq⟩ : ∃ q, bits .and .i64 (n / 524288) 31 = q := ⟨_, rfl⟩
    obtain ⟨r, hr⟩ : ∃ q, bits .and .i64 (n / 16777216) 31 = q := ⟨_, rfl⟩
    obtain ⟨u, hu⟩ : ∃ q, bits .and .i64 (n / 131072) 2047 = q := ⟨_, rfl⟩
    obtain ⟨v, hv⟩ : ∃ q, IntKind.i64.wrap (u - 20) = q := ⟨_, rfl⟩
    have HQN : Hid (n / 524288 % 32 = q) := hD (by rw [<- hq, and_31])
    have HRN : Hid (n / 16777216 % 32 = r) := hD (by rw [<- hr, and_31])
    have HVN : Hid (n / 131072 % 2048 - 20 = v) := hD (by
     have h1 : bits .and .i64 (n / 131072) 2047 = n / 131072 % 2048 := by simpa using and_mask (n / 131072) 11 (by omega)
     have h2 := Int.emod_nonneg (n / 131072) (show (2048 : Int) ≠ 0 by omega)
     have h3 := Int.emod_lt_of_pos (n / 131072) (show (0 : Int) < 2048 by omega)
     rw [<- hv, <- hu, h1, IntWalk.i64_in _ (by omega)])
    go_upto_region 5 with fail
    go_cut [49] from 46 to 49 (fun s49 wx => ∃ b : Bool, s49 = .bool b /\ Hid (b = (q == 0)) /\ wx = w6)
    case first =>
     go_wp2_with fail
     go_meet
     exact ⟨_, rfl, hD (by first | rfl | simp), rfl⟩
    case rest =>
    obtain ⟨b1, rfl, HB1, hw6⟩ := hcut
    subst hw6
    rename World => w6
    go_upto_if 49 with fail
    go_cut [] from 50 to 58 (fun wx => ∃ kd2 wh2, Hid (kd2 = (if b1 = true then r else kd') /\ wh2 = (if b1 = true then v else wh)) /\ Hid (CmdS wz wx g gk go ck co Av cv lk lv lo kd2 wh2))
    case first =>
     cases b1 with
     | false =>
       go_wp2_with fail
       go_meet
       exact ⟨_, _, hD (by simp), HC2⟩
     | true =>
       obtain ⟨z0, z1, z2, z3, z4⟩ := five HC2.out.blk
       have f0 := HC2.out.blk.frozen 0
       obtain ⟨t0, t1, t2, t3, t4⟩ := five (HC2.out.set0 r).blk
       have f1 := (HC2.out.set0 r).blk.frozen 1
       go_wp2_with fail
       go_meet
       exact ⟨_, _, hD (by simp), hD ((HC2.out.set0 _).set1 _)⟩
    case rest =>
     obtain ⟨k3, wh3, H33, HC3⟩ := hcut
     clear hq hr hu hv HC2
     rename World => w7
     have hb0 := HX.out.1.below HC3.out.bel
     have hlt := HX.out.1.lt
     have hzg := HC3.out.zg
     obtain ⟨z0, z1, z2, z3, z4⟩ := five HC3.out.blk
     obtain ⟨t0, t1, t2, t3, t4⟩ := five hb0
     have f0 := hb0.frozen 0
     have f1 := hb0.frozen 1
     have f2 := hb0.frozen 2
     have f3 := hb0.frozen 3
     have f4 := hb0.frozen 4
     have HB0 := hD hb0
     clear hb0
     go_wp2_with fail
     have k5 := ((((HB0.out.set_ 0 (.int .i64 k3)).set_ 1 (.int .i64 wh3)).set_ 2 (.slice (some ⟨gk, 0, none⟩) lk.length ck)).set_ 3 (.slice Av lv.length cv)).set_ 4 (.slice (some ⟨go, 0, none⟩) lo.length co)
     refine bodyPost_ret (results_cell_row rfl _ _ _ _ _ _ _ rfl k5 Tryz.underlying41 rfl (by kernel_rfl)) rfl ?_
     have n1 : w.heap.size ≠ gk := by have := HC3.out.zk; omega
     have n2 : w.heap.size ≠ go := by have := HC3.out.zo; omega
     have n3 := HV.out.2
     have rv := (HV.out.1.below HC3.out.bel)
     have hbw : Below w.heap.size w w7 := HX.out.2.trans (HC3.out.bel.mono HX.out.2.size)
     have hl := Nat.le_refl w.heap.size
     have hcm : cmdOf n = ⟨k3, wh3, lk, lv, lo⟩ := by
      unfold cmdOf
      rw [HLK.out, HJN.out, HIN.out, HPN.out, HLO.out, <- HLV.out, HKD0.out, HWH.out, HQN.out, HRN.out, HVN.out, H33.out.1, H33.out.2, HKD1.out, HBB.out, HB1.out]
      simp only [beq_iff_eq, Bool.or_eq_true]
     rw [hcm]
     refine ⟨⟨some ⟨gk, 0, none⟩, ck, Av, cv, some ⟨go, 0, none⟩, co⟩, rfl, ⟨⟨by have := HL.out.2.1; show lk.length <= 100; omega, HL.out.1⟩, ⟨by have := HVB.out.2; show lv.length <= 100; omega, HVB.out.1⟩, ⟨by have := HL.out.2.2.2; show lo.length <= 100; omega, HL.out.2.2.1⟩⟩, ⟨?_, ?_, ?_⟩, ⟨⟨gk, rfl⟩, ⟨gv, HAV.out.symm⟩, ⟨go, rfl⟩⟩, ?_⟩
     · exact ((((HC3.out.rk.set_ne n1).set_ne n1).set_ne n1).set_ne n1).set_ne n1
     · rw [HAV.out] at rv
       have rv := rv.fit
       rw [<- HAV.out] at rv |-
       exact ((((rv.set_ne n3).set_ne n3).set_ne n3).set_ne n3).set_ne n3
     · exact ((((HC3.out.ro.set_ne n2).set_ne n2).set_ne n2).set_ne n2).set_ne n2
     · exact ((((hbw.setCell (p := ⟨w.heap.size, 0, none⟩) hl _).setCell (p := ⟨w.heap.size, 1, none⟩) hl _).setCell (p := ⟨w.heap.size, 2, none⟩) hl _).setCell (p := ⟨w.heap.size, 3, none⟩) hl _).setCell (p := ⟨w.heap.size, 4, none⟩) hl _
end Go.Proofs.YtmekamgohonffaaGreat
