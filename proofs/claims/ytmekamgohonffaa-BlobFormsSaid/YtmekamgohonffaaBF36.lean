/- MesgKit MachGet -/
import Derived.Test.YtmekamgohonffaaBF17
import Derived.Test.YtmekamgohonffaaBF19
import Derived.Test.YtmekamgohonffaaBF26
import Derived.Test.YtmekamgohonffaaBF27
import Derived.Test.YtmekamgohonffaaBF28
import Derived.Test.YtmekamgohonffaaBF31
namespace Go.Proofs.Ytmekamgohonffaa
open Go.RowKit
set_option linter.unusedVariables false
section
variable {W w w' : World} {B : Nat} {c : Cm} {ca : CA}
theorem OwnC.below (h : OwnC W w ca c) (hb : Below w.heap.size w w') : OwnC W w' ca c := ⟨own_below h.k hb, own_below h.v hb, own_below h.o hb⟩
theorem OwnC.of (hs : W.heap.size ≤ w.heap.size) (h : OwnC w w' ca c) : OwnC W w' ca c := ⟨own_of hs h.k, own_of hs h.v, own_of hs h.o⟩
end
end Go.Proofs.Ytmekamgohonffaa

namespace Go.Proofs.Ytmekamgohonffaa
open Go.RowKit
set_option linter.unusedVariables false
/-- the state of a walk that reads: reader, what is turned -/
structure RgSt (w wx : World) (b : Nat) (s : Pk.St) : Prop where
  r : RdrAt wx b s
  only : Only b w wx
section
variable {w wx wy : World} {b g i : Nat} {s s' : Pk.St} {t e : TypeId} {cs : Array Value} {u : Value}
theorem RgSt.size (h : RgSt w wx b s) : w.heap.size ≤ wx.heap.size := h.only.size
theorem RgSt.call (h : RgSt w wx b s) (hr : RdrAt wy b s') (ho : Only b wx wy) : RgSt w wy b s' := ⟨hr, only_trans h.only ho⟩
theorem RgSt.below (h : RgSt w wx b s) (hb : Below wx.heap.size wx wy) : RgSt w wy b s := ⟨h.r.below hb, only_below h.only hb h.size⟩
theorem RgSt.set (h : RgSt w wx b s) (hk : Blk wx g t cs) (h1 : 5 ≠ t) (h2 : 79 ≠ t) (hg : w.heap.size ≤ g) : RgSt w (wx.setCell ⟨g, i, none⟩ u) b s := by
  obtain ⟨A, n, c, hb, q1, q2, q3, q4, q5⟩ := h.r
  exact ⟨⟨A, n, c, hb.set_other (hb.apart hk h2), q1, q2, q3, q4.grown (only_set (only_refl g wx) i u) hk h1, q5⟩, only_below h.only ((Below.refl w.heap.size wx).setCell (p := ⟨g, i, none⟩) hg u) (Nat.le_refl _)⟩
theorem RgSt.row {A : Option Addr} {n c size : Nat} {xs : List Value} (h : RgSt w wx b s) (ho : wx.ownsRow w.heap.size e size (.slice A n c) n xs) (h1 : 5 ≠ e) (h2 : 79 ≠ e) (hg : wx.grownBy wy (Value.slice A n c).ownBlock) : RgSt w wy b s := by
  obtain ⟨A', n', c', hb, q1, q2, q3, q4, q5⟩ := h.r
  exact ⟨⟨A', n', c', hb.apart_own ho h2 hg, q1, q2, q3, q4.kept ho h1 hg, q5⟩, only_below h.only ((Below.refl w.heap.size wx).grown hg h.size (fun k hk => (ho.lt k hk).1)) (Nat.le_refl _)⟩
end
theorem getVal_any (w : World) (b : Nat) (s : Pk.St) (h : RdrAt w b s) {v : List Nat} {s' : Pk.St} (hv : Pk.bytV s 16 = v) (hs : Pk.bytS s 16 = s') :
    Calls Try.prog 39 #[.pointer (some ⟨b, 0, none⟩)] w fun e w' => ∃ A c, e = .returned (.slice A v.length c) ∧ OwnB w w' A v.length c v ∧ RdrAt w' b s' ∧ Only b w w' := by
  have HC := Lib.hid (rbytes_is w b s 16 h v s' hv hs)
  clear h hv hs
  go_enter Try.func39, Try.ntmps39
  go_wp2_with (first
    | (go_at_call 17; refine HC.out.mono ?_; rintro e w1 ⟨A1, n1, c1, rfl, ho1, hr1, hb1⟩; obtain rfl := own_len ho1)
    | fail)
  go_ret
  exact ⟨A1, c1, rfl, ho1, hr1, hb1⟩
theorem getWho_any (w : World) (b : Nat) (s : Pk.St) (h : RdrAt w b s) {v : Nat} {s' : Pk.St} (hv : Pk.numV s 999 = v) (hs : Pk.numS s 999 = s') :
    Calls Try.prog 42 #[.pointer (some ⟨b, 0, none⟩)] w (NumP w b v s') := by
  have HC := Lib.hid (rnum_is w b s 999 h v s' hv hs)
  clear h hv hs
  go_enter Try.func42, Try.ntmps42
  go_wp2_with (first
    | (go_at_call 15; refine HC.out.mono ?_; rintro e w1 ⟨rfl, hr1, hb1⟩)
    | fail)
  go_ret
  exact ⟨rfl, hr1, hb1⟩
set_option maxHeartbeats 4000000 in
set_option maxRecDepth 100000 in
theorem getPair_any (w : World) (b : Nat) (s : Pk.St) (h : RdrAt w b s) :
    Calls Try.prog 44 #[.pointer (some ⟨b, 0, none⟩)] w fun en w' => ∃ A1 c1 A2 c2, en = .returned (.agg #[.slice A1 (getP1 s).1.1.length c1, .slice A2 (getP1 s).1.2.length c2]) ∧ OwnB w w' A1 (getP1 s).1.1.length c1 (getP1 s).1.1 ∧ OwnB w w' A2 (getP1 s).1.2.length c2 (getP1 s).1.2 ∧ RdrAt w' b (getP1 s).2 ∧ Only b w w' := by
  have hbl := h.lt
  have HBL := Lib.hid hbl
  have h0 : RgSt w w b s := ⟨h, only_refl b w⟩
  obtain ⟨s0, es⟩ : ∃ x, s = x := ⟨_, rfl⟩
  obtain ⟨v0, d0⟩ : ∃ x, Pk.bytV s0 8 = x := ⟨_, rfl⟩
  obtain ⟨s1, e0⟩ : ∃ x, Pk.bytS s0 8 = x := ⟨_, rfl⟩
  obtain ⟨v1, d1⟩ : ∃ x, Pk.bytV s1 16 = x := ⟨_, rfl⟩
  obtain ⟨s2, e1⟩ : ∃ x, Pk.bytS s1 16 = x := ⟨_, rfl⟩
  have HRES : Hid (getP1 s0 = ((v0, v1), s2)) := Lib.hid (by unfold getP1; rw [d0, e0, d1, e1])
  subst es
  have C0 := Lib.hid (fun w h => rbytes_is w b _ 8 h _ _ d0 e0)
  have C1 := Lib.hid (fun w h => getVal_any w b _ h d1 e1)
  clear d0 e0 d1 e1
  have bb : Below w.heap.size w ((w.alloc (.cells #[.slice none 0 0, .slice none 0 0] 68)).alloc (.cells #[.slice none 0 0, .slice none 0 0] 68)) := ((Below.refl _ _).alloc (Nat.le_refl _) _).alloc (by simp) _
  have HR0 := Lib.hid (h0.below bb)
  have HK2 := Lib.hid ((Blk.new w 68 #[.slice none 0 0, .slice none 0 0]).alloc (.cells #[.slice none 0 0, .slice none 0 0] 68))
  have HK3 := Lib.hid (Blk.new (w.alloc (.cells #[.slice none 0 0, .slice none 0 0] 68)) 68 #[.slice none 0 0, .slice none 0 0])
  rw [World.size_alloc] at HK3
  have hne : w.heap.size ≠ b := by omega
  have hne3 : w.heap.size + 1 ≠ b := by omega
  clear h h0 bb
  go_enter Try.func44, Try.ntmps44
  go_upto_region 2 with fail
  generalize (w.alloc (.cells #[.slice none 0 0, .slice none 0 0] 68)).alloc (.cells #[.slice none 0 0, .slice none 0 0] 68) = wx0 at HR0 HK2 HK3 ⊢
  go_upto_region 3 with (first
    | (go_at_call 17; refine (C0.out _ HR0.out.r).mono ?_; rintro en w1 ⟨A0, n0, c0, rfl, hv, hr, ho⟩; obtain rfl := own_len hv
       have HRC := Lib.hid (HR0.out.call hr ho)
       have HK2 := Lib.hid (HK2.out.grown ho (by simpa using hne))
       have HK3 := Lib.hid (HK3.out.grown ho (by simpa using hne3))
       have HV0 := Lib.hid (own_of HR0.out.size hv)
       have x0 := HK3.out.cell 0
       have f0 := HK3.out.frozen 0
       have x1 := HK3.out.cell 1
       have f1 := HK3.out.frozen 1
       clear hr ho C0 hv)
    | fail)
  have HR1 : Hid (RgSt w (w1.setCell ⟨w.heap.size + 1, 0, none⟩ (.slice A0 v0.length c0)) b s1) := Lib.hid (HRC.out.set HK3.out (by decide) (by decide) (by omega))
  have HK2 := Lib.hid (HK2.out.set_other (i := 0) (u := .slice A0 v0.length c0) (b := w.heap.size + 1) (by omega))
  have HV0 : Hid (OwnB w (w1.setCell ⟨w.heap.size + 1, 0, none⟩ (.slice A0 v0.length c0)) A0 v0.length c0 v0) := Lib.hid (own_set_t HV0.out HK3.out (by decide))
  have HK3 : Hid (Blk (w1.setCell ⟨w.heap.size + 1, 0, none⟩ (.slice A0 v0.length c0)) (w.heap.size + 1) 68 #[.slice A0 v0.length c0, .slice none 0 0]) := Lib.hid (HK3.out.set_ 0 (.slice A0 v0.length c0))
  clear HRC x0 f0 x1 f1
  generalize w1.setCell ⟨w.heap.size + 1, 0, none⟩ (.slice A0 v0.length c0) = wx1 at HR1 HK2 HK3 HV0 ⊢
  go_upto_region 4 with (first
    | (go_at_call 39; refine (C1.out _ HR1.out.r).mono ?_; rintro en w2 ⟨A1, c1, rfl, hv, hr, ho⟩
       have HRC := Lib.hid (HR1.out.call hr ho)
       have HK2 := Lib.hid (HK2.out.grown ho (by simpa using hne))
       have HK3 := Lib.hid (HK3.out.grown ho (by simpa using hne3))
       have HV0 := Lib.hid (own_read HV0.out ho HBL.out)
       have HV1 := Lib.hid (own_of HR1.out.size hv)
       have x0 := HK3.out.cell 0
       have f0 := HK3.out.frozen 0
       have x1 := HK3.out.cell 1
       have f1 := HK3.out.frozen 1
       clear hr ho C1 hv)
    | fail)
  have HR2 : Hid (RgSt w (w2.setCell ⟨w.heap.size + 1, 1, none⟩ (.slice A1 v1.length c1)) b s2) := Lib.hid (HRC.out.set HK3.out (by decide) (by decide) (by omega))
  have HK2 := Lib.hid (HK2.out.set_other (i := 1) (u := .slice A1 v1.length c1) (b := w.heap.size + 1) (by omega))
  have HV0 : Hid (OwnB w (w2.setCell ⟨w.heap.size + 1, 1, none⟩ (.slice A1 v1.length c1)) A0 v0.length c0 v0) := Lib.hid (own_set_t HV0.out HK3.out (by decide))
  have HV1 : Hid (OwnB w (w2.setCell ⟨w.heap.size + 1, 1, none⟩ (.slice A1 v1.length c1)) A1 v1.length c1 v1) := Lib.hid (own_set_t HV1.out HK3.out (by decide))
  have HK3 : Hid (Blk (w2.setCell ⟨w.heap.size + 1, 1, none⟩ (.slice A1 v1.length c1)) (w.heap.size + 1) 68 #[.slice A0 v0.length c0, .slice A1 v1.length c1]) := Lib.hid (HK3.out.set_ 1 (.slice A1 v1.length c1))
  clear HRC x0 f0 x1 f1
  generalize w2.setCell ⟨w.heap.size + 1, 1, none⟩ (.slice A1 v1.length c1) = wx2 at HR2 HK2 HK3 HV0 HV1 ⊢
  have HRN := HR2
  have x0 := HK2.out.cell 0
  have f0 := HK2.out.frozen 0
  have y0 := HK3.out.cell 0
  have x1 := HK2.out.cell 1
  have f1 := HK2.out.frozen 1
  have y1 := HK3.out.cell 1
  go_wp2_with fail
  have q0 := HK2.out
  have q1 := q0.set_ 0 (.slice A0 v0.length c0)
  have q2 := q1.set_ 1 (.slice A1 v1.length c1)
  refine bodyPost_ret (results_cell_row rfl _ _ _ _ _ _ _ rfl q2 Try.underlying68 rfl (by kernel_rfl)) rfl ?_
  have hrg := ((HRN.out).set (i := 0) (u := .slice A0 v0.length c0) q0 (by decide) (by decide) (Nat.le_refl _)).set (i := 1) (u := .slice A1 v1.length c1) q1 (by decide) (by decide) (Nat.le_refl _)
  rw [HRES.out]
  exact ⟨A0, c0, A1, c1, rfl, own_set_t (own_set_t (HV0.out) q0 (by decide)) q1 (by decide), own_set_t (own_set_t (HV1.out) q0 (by decide)) q1 (by decide), hrg.r, hrg.only⟩
set_option maxHeartbeats 4000000 in
set_option maxRecDepth 100000 in
theorem getLast_any (w : World) (b : Nat) (s : Pk.St) (h : RdrAt w b s) :
    Calls Try.prog 46 #[.pointer (some ⟨b, 0, none⟩)] w fun en w' => ∃ A c, en = .returned (.agg #[.int .i64 (getT1 s).1.s, .int .i64 (getT1 s).1.q, .int .i64 (getT1 s).1.e, .slice A (getT1 s).1.v.length c, .int .i64 (getT1 s).1.n]) ∧ OwnB w w' A (getT1 s).1.v.length c (getT1 s).1.v ∧ RdrAt w' b (getT1 s).2 ∧ Only b w w' := by
  have hbl := h.lt
  have HBL := Lib.hid hbl
  have h0 : RgSt w w b s := ⟨h, only_refl b w⟩
  obtain ⟨s0, es⟩ : ∃ x, s = x := ⟨_, rfl⟩
  obtain ⟨v0, d0⟩ : ∃ x, Pk.numV s0 1073741824 = x := ⟨_, rfl⟩
  obtain ⟨s1, e0⟩ : ∃ x, Pk.numS s0 1073741824 = x := ⟨_, rfl⟩
  obtain ⟨v1, d1⟩ : ∃ x, Pk.numV s1 1073741824 = x := ⟨_, rfl⟩
  obtain ⟨s2, e1⟩ : ∃ x, Pk.numS s1 1073741824 = x := ⟨_, rfl⟩
  obtain ⟨v2, d2⟩ : ∃ x, Pk.numV s2 10 = x := ⟨_, rfl⟩
  obtain ⟨s3, e2⟩ : ∃ x, Pk.numS s2 10 = x := ⟨_, rfl⟩
  obtain ⟨v3, d3⟩ : ∃ x, Pk.numV s3 1073741825 = x := ⟨_, rfl⟩
  obtain ⟨s4, e3⟩ : ∃ x, Pk.numS s3 1073741825 = x := ⟨_, rfl⟩
  obtain ⟨v4, d4⟩ : ∃ x, Pk.bytV s4 16 = x := ⟨_, rfl⟩
  obtain ⟨s5, e4⟩ : ∃ x, Pk.bytS s4 16 = x := ⟨_, rfl⟩
  have HRES : Hid (getT1 s0 = (⟨v0, v1, v2, v4, (v3 : Int) - 1⟩, s5)) := Lib.hid (by unfold getT1; simp only [e0, e1, e2, e3, e4, d0, d1, d2, d3, d4])
  have hv3 : (v3 : Int) ≤ 1073741825 := by rw [← d3]; exact numV_le _ (by omega)
  have hw3 : IntKind.i64.wrap ((v3 : Int) - 1) = (v3 : Int) - 1 := IntWalk.i64_in _ (by omega)
  clear hv3
  subst es
  have C0 := Lib.hid (fun w h => rnum_is w b _ 1073741824 h _ _ d0 e0)
  have C1 := Lib.hid (fun w h => rnum_is w b _ 1073741824 h _ _ d1 e1)
  have C2 := Lib.hid (fun w h => rnum_is w b _ 10 h _ _ d2 e2)
  have C3 := Lib.hid (fun w h => rnum_is w b _ 1073741825 h _ _ d3 e3)
  have C4 := Lib.hid (fun w h => getVal_any w b _ h d4 e4)
  clear d0 e0 d1 e1 d2 e2 d3 e3 d4 e4
  have bb : Below w.heap.size w ((w.alloc (.cells #[.int .i64 0, .int .i64 0, .int .i64 0, .slice none 0 0, .int .i64 0] 75)).alloc (.cells #[.int .i64 0, .int .i64 0, .int .i64 0, .slice none 0 0, .int .i64 0] 75)) := ((Below.refl _ _).alloc (Nat.le_refl _) _).alloc (by simp) _
  have HR0 := Lib.hid (h0.below bb)
  have HK2 := Lib.hid ((Blk.new w 75 #[.int .i64 0, .int .i64 0, .int .i64 0, .slice none 0 0, .int .i64 0]).alloc (.cells #[.int .i64 0, .int .i64 0, .int .i64 0, .slice none 0 0, .int .i64 0] 75))
  have HK3 := Lib.hid (Blk.new (w.alloc (.cells #[.int .i64 0, .int .i64 0, .int .i64 0, .slice none 0 0, .int .i64 0] 75)) 75 #[.int .i64 0, .int .i64 0, .int .i64 0, .slice none 0 0, .int .i64 0])
  rw [World.size_alloc] at HK3
  have hne : w.heap.size ≠ b := by omega
  have hne3 : w.heap.size + 1 ≠ b := by omega
  clear h h0 bb
  go_enter Try.func46, Try.ntmps46
  go_upto_region 2 with fail
  generalize (w.alloc (.cells #[.int .i64 0, .int .i64 0, .int .i64 0, .slice none 0 0, .int .i64 0] 75)).alloc (.cells #[.int .i64 0, .int .i64 0, .int .i64 0, .slice none 0 0, .int .i64 0] 75) = wx0 at HR0 HK2 HK3 ⊢
  go_upto_region 3 with (first
    | (go_at_call 15; refine (C0.out _ HR0.out.r).mono ?_; rintro en w1 ⟨rfl, hr, ho⟩
       have HRC := Lib.hid (HR0.out.call hr ho)
       have HK2 := Lib.hid (HK2.out.grown ho (by simpa using hne))
       have HK3 := Lib.hid (HK3.out.grown ho (by simpa using hne3))
       have x0 := HK3.out.cell 0
       have f0 := HK3.out.frozen 0
       have x1 := HK3.out.cell 1
       have f1 := HK3.out.frozen 1
       have x2 := HK3.out.cell 2
       have f2 := HK3.out.frozen 2
       have x3 := HK3.out.cell 3
       have f3 := HK3.out.frozen 3
       have x4 := HK3.out.cell 4
       have f4 := HK3.out.frozen 4
       clear hr ho C0)
    | fail)
  have HR1 : Hid (RgSt w (w1.setCell ⟨w.heap.size + 1, 0, none⟩ (.int .i64 (v0 : Int))) b s1) := Lib.hid (HRC.out.set HK3.out (by decide) (by decide) (by omega))
  have HK2 := Lib.hid (HK2.out.set_other (i := 0) (u := .int .i64 (v0 : Int)) (b := w.heap.size + 1) (by omega))
  have HK3 : Hid (Blk (w1.setCell ⟨w.heap.size + 1, 0, none⟩ (.int .i64 (v0 : Int))) (w.heap.size + 1) 75 #[.int .i64 (v0 : Int), .int .i64 0, .int .i64 0, .slice none 0 0, .int .i64 0]) := Lib.hid (HK3.out.set_ 0 (.int .i64 (v0 : Int)))
  clear HRC x0 f0 x1 f1 x2 f2 x3 f3 x4 f4
  generalize w1.setCell ⟨w.heap.size + 1, 0, none⟩ (.int .i64 (v0 : Int)) = wx1 at HR1 HK2 HK3  ⊢
  go_upto_region 4 with (first
    | (go_at_call 15; refine (C1.out _ HR1.out.r).mono ?_; rintro en w2 ⟨rfl, hr, ho⟩
       have HRC := Lib.hid (HR1.out.call hr ho)
       have HK2 := Lib.hid (HK2.out.grown ho (by simpa using hne))
       have HK3 := Lib.hid (HK3.out.grown ho (by simpa using hne3))
       have x0 := HK3.out.cell 0
       have f0 := HK3.out.frozen 0
       have x1 := HK3.out.cell 1
       have f1 := HK3.out.frozen 1
       have x2 := HK3.out.cell 2
       have f2 := HK3.out.frozen 2
       have x3 := HK3.out.cell 3
       have f3 := HK3.out.frozen 3
       have x4 := HK3.out.cell 4
       have f4 := HK3.out.frozen 4
       clear hr ho C1)
    | fail)
  have HR2 : Hid (RgSt w (w2.setCell ⟨w.heap.size + 1, 1, none⟩ (.int .i64 (v1 : Int))) b s2) := Lib.hid (HRC.out.set HK3.out (by decide) (by decide) (by omega))
  have HK2 := Lib.hid (HK2.out.set_other (i := 1) (u := .int .i64 (v1 : Int)) (b := w.heap.size + 1) (by omega))
  have HK3 : Hid (Blk (w2.setCell ⟨w.heap.size + 1, 1, none⟩ (.int .i64 (v1 : Int))) (w.heap.size + 1) 75 #[.int .i64 (v0 : Int), .int .i64 (v1 : Int), .int .i64 0, .slice none 0 0, .int .i64 0]) := Lib.hid (HK3.out.set_ 1 (.int .i64 (v1 : Int)))
  clear HRC x0 f0 x1 f1 x2 f2 x3 f3 x4 f4
  generalize w2.setCell ⟨w.heap.size + 1, 1, none⟩ (.int .i64 (v1 : Int)) = wx2 at HR2 HK2 HK3  ⊢
  go_upto_region 5 with (first
    | (go_at_call 15; refine (C2.out _ HR2.out.r).mono ?_; rintro en w3 ⟨rfl, hr, ho⟩
       have HRC := Lib.hid (HR2.out.call hr ho)
       have HK2 := Lib.hid (HK2.out.grown ho (by simpa using hne))
       have HK3 := Lib.hid (HK3.out.grown ho (by simpa using hne3))
       have x0 := HK3.out.cell 0
       have f0 := HK3.out.frozen 0
       have x1 := HK3.out.cell 1
       have f1 := HK3.out.frozen 1
       have x2 := HK3.out.cell 2
       have f2 := HK3.out.frozen 2
       have x3 := HK3.out.cell 3
       have f3 := HK3.out.frozen 3
       have x4 := HK3.out.cell 4
       have f4 := HK3.out.frozen 4
       clear hr ho C2)
    | fail)
  have HR3 : Hid (RgSt w (w3.setCell ⟨w.heap.size + 1, 2, none⟩ (.int .i64 (v2 : Int))) b s3) := Lib.hid (HRC.out.set HK3.out (by decide) (by decide) (by omega))
  have HK2 := Lib.hid (HK2.out.set_other (i := 2) (u := .int .i64 (v2 : Int)) (b := w.heap.size + 1) (by omega))
  have HK3 : Hid (Blk (w3.setCell ⟨w.heap.size + 1, 2, none⟩ (.int .i64 (v2 : Int))) (w.heap.size + 1) 75 #[.int .i64 (v0 : Int), .int .i64 (v1 : Int), .int .i64 (v2 : Int), .slice none 0 0, .int .i64 0]) := Lib.hid (HK3.out.set_ 2 (.int .i64 (v2 : Int)))
  clear HRC x0 f0 x1 f1 x2 f2 x3 f3 x4 f4
  generalize w3.setCell ⟨w.heap.size + 1, 2, none⟩ (.int .i64 (v2 : Int)) = wx3 at HR3 HK2 HK3  ⊢
  go_upto_region 6 with (first
    | (go_at_call 15; refine (C3.out _ HR3.out.r).mono ?_; rintro en w4 ⟨rfl, hr, ho⟩
       have HRC := Lib.hid (HR3.out.call hr ho)
       have HK2 := Lib.hid (HK2.out.grown ho (by simpa using hne))
       have HK3 := Lib.hid (HK3.out.grown ho (by simpa using hne3))
       have x0 := HK3.out.cell 0
       have f0 := HK3.out.frozen 0
       have x1 := HK3.out.cell 1
       have f1 := HK3.out.frozen 1
       have x2 := HK3.out.cell 2
       have f2 := HK3.out.frozen 2
       have x3 := HK3.out.cell 3
       have f3 := HK3.out.frozen 3
       have x4 := HK3.out.cell 4
       have f4 := HK3.out.frozen 4
       clear hr ho C3)
    | fail)
  have HR4 : Hid (RgSt w (w4.setCell ⟨w.heap.size + 1, 4, none⟩ (.int .i64 ((v3 : Int) - 1))) b s4) := Lib.hid (HRC.out.set HK3.out (by decide) (by decide) (by omega))
  have HK2 := Lib.hid (HK2.out.set_other (i := 4) (u := .int .i64 ((v3 : Int) - 1)) (b := w.heap.size + 1) (by omega))
  have HK3 : Hid (Blk (w4.setCell ⟨w.heap.size + 1, 4, none⟩ (.int .i64 ((v3 : Int) - 1))) (w.heap.size + 1) 75 #[.int .i64 (v0 : Int), .int .i64 (v1 : Int), .int .i64 (v2 : Int), .slice none 0 0, .int .i64 ((v3 : Int) - 1)]) := Lib.hid (HK3.out.set_ 4 (.int .i64 ((v3 : Int) - 1)))
  clear HRC x0 f0 x1 f1 x2 f2 x3 f3 x4 f4
  generalize w4.setCell ⟨w.heap.size + 1, 4, none⟩ (.int .i64 ((v3 : Int) - 1)) = wx4 at HR4 HK2 HK3  ⊢
  go_upto_region 7 with (first
    | (go_at_call 39; refine (C4.out _ HR4.out.r).mono ?_; rintro en w5 ⟨A4, c4, rfl, hv, hr, ho⟩
       have HRC := Lib.hid (HR4.out.call hr ho)
       have HK2 := Lib.hid (HK2.out.grown ho (by simpa using hne))
       have HK3 := Lib.hid (HK3.out.grown ho (by simpa using hne3))
       have HV4 := Lib.hid (own_of HR4.out.size hv)
       have x0 := HK3.out.cell 0
       have f0 := HK3.out.frozen 0
       have x1 := HK3.out.cell 1
       have f1 := HK3.out.frozen 1
       have x2 := HK3.out.cell 2
       have f2 := HK3.out.frozen 2
       have x3 := HK3.out.cell 3
       have f3 := HK3.out.frozen 3
       have x4 := HK3.out.cell 4
       have f4 := HK3.out.frozen 4
       clear hr ho C4 hv)
    | fail)
  have HR5 : Hid (RgSt w (w5.setCell ⟨w.heap.size + 1, 3, none⟩ (.slice A4 v4.length c4)) b s5) := Lib.hid (HRC.out.set HK3.out (by decide) (by decide) (by omega))
  have HK2 := Lib.hid (HK2.out.set_other (i := 3) (u := .slice A4 v4.length c4) (b := w.heap.size + 1) (by omega))
  have HV4 : Hid (OwnB w (w5.setCell ⟨w.heap.size + 1, 3, none⟩ (.slice A4 v4.length c4)) A4 v4.length c4 v4) := Lib.hid (own_set_t HV4.out HK3.out (by decide))
  have HK3 : Hid (Blk (w5.setCell ⟨w.heap.size + 1, 3, none⟩ (.slice A4 v4.length c4)) (w.heap.size + 1) 75 #[.int .i64 (v0 : Int), .int .i64 (v1 : Int), .int .i64 (v2 : Int), .slice A4 v4.length c4, .int .i64 ((v3 : Int) - 1)]) := Lib.hid (HK3.out.set_ 3 (.slice A4 v4.length c4))
  clear HRC x0 f0 x1 f1 x2 f2 x3 f3 x4 f4
  generalize w5.setCell ⟨w.heap.size + 1, 3, none⟩ (.slice A4 v4.length c4) = wx5 at HR5 HK2 HK3 HV4 ⊢
  have HRN := HR5
  have x0 := HK2.out.cell 0
  have f0 := HK2.out.frozen 0
  have y0 := HK3.out.cell 0
  have x1 := HK2.out.cell 1
  have f1 := HK2.out.frozen 1
  have y1 := HK3.out.cell 1
  have x2 := HK2.out.cell 2
  have f2 := HK2.out.frozen 2
  have y2 := HK3.out.cell 2
  have x3 := HK2.out.cell 3
  have f3 := HK2.out.frozen 3
  have y3 := HK3.out.cell 3
  have x4 := HK2.out.cell 4
  have f4 := HK2.out.frozen 4
  have y4 := HK3.out.cell 4
  go_wp2_with fail
  have q0 := HK2.out
  have q1 := q0.set_ 0 (.int .i64 (v0 : Int))
  have q2 := q1.set_ 1 (.int .i64 (v1 : Int))
  have q3 := q2.set_ 2 (.int .i64 (v2 : Int))
  have q4 := q3.set_ 3 (.slice A4 v4.length c4)
  have q5 := q4.set_ 4 (.int .i64 ((v3 : Int) - 1))
  refine bodyPost_ret (results_cell_row rfl _ _ _ _ _ _ _ rfl q5 Try.underlying75 rfl (by kernel_rfl)) rfl ?_
  have hrg := (((((HRN.out).set (i := 0) (u := .int .i64 (v0 : Int)) q0 (by decide) (by decide) (Nat.le_refl _)).set (i := 1) (u := .int .i64 (v1 : Int)) q1 (by decide) (by decide) (Nat.le_refl _)).set (i := 2) (u := .int .i64 (v2 : Int)) q2 (by decide) (by decide) (Nat.le_refl _)).set (i := 3) (u := .slice A4 v4.length c4) q3 (by decide) (by decide) (Nat.le_refl _)).set (i := 4) (u := .int .i64 ((v3 : Int) - 1)) q4 (by decide) (by decide) (Nat.le_refl _)
  rw [HRES.out]
  exact ⟨A4, c4, rfl, own_set_t (own_set_t (own_set_t (own_set_t (own_set_t (HV4.out) q0 (by decide)) q1 (by decide)) q2 (by decide)) q3 (by decide)) q4 (by decide), hrg.r, hrg.only⟩
set_option maxHeartbeats 4000000 in
set_option maxRecDepth 100000 in
theorem getEntry_any (w : World) (b : Nat) (s : Pk.St) (h : RdrAt w b s) :
    Calls Try.prog 51 #[.pointer (some ⟨b, 0, none⟩)] w fun en w' => ∃ ca, en = .returned (entV ca (En.read s)) ∧ OwnC w w' ca (En.read s).c ∧ RdrAt w' b (En.get s).2 ∧ Only b w w' := by
  have hbl := h.lt
  have HBL := Lib.hid hbl
  have h0 : RgSt w w b s := ⟨h, only_refl b w⟩
  obtain ⟨s0, es⟩ : ∃ x, s = x := ⟨_, rfl⟩
  obtain ⟨v0, d0⟩ : ∃ x, Pk.numV s0 1073741824 = x := ⟨_, rfl⟩
  obtain ⟨s1, e0⟩ : ∃ x, Pk.numS s0 1073741824 = x := ⟨_, rfl⟩
  obtain ⟨v1, d1⟩ : ∃ x, Pk.numV s1 1073741824 = x := ⟨_, rfl⟩
  obtain ⟨s2, e1⟩ : ∃ x, Pk.numS s1 1073741824 = x := ⟨_, rfl⟩
  obtain ⟨v2, d2⟩ : ∃ x, Pk.numV s2 1073741824 = x := ⟨_, rfl⟩
  obtain ⟨s3, e2⟩ : ∃ x, Pk.numS s2 1073741824 = x := ⟨_, rfl⟩
  obtain ⟨v3, d3⟩ : ∃ x, Pk.numV s3 1073741824 = x := ⟨_, rfl⟩
  obtain ⟨s4, e3⟩ : ∃ x, Pk.numS s3 1073741824 = x := ⟨_, rfl⟩
  obtain ⟨v4, d4⟩ : ∃ x, Pk.bytV s4 32 = x := ⟨_, rfl⟩
  obtain ⟨s5, e4⟩ : ∃ x, Pk.bytS s4 32 = x := ⟨_, rfl⟩
  obtain ⟨v5, d5⟩ : ∃ x, Pk.bytV s5 32 = x := ⟨_, rfl⟩
  obtain ⟨s6, e5⟩ : ∃ x, Pk.bytS s5 32 = x := ⟨_, rfl⟩
  obtain ⟨v6, d6⟩ : ∃ x, Pk.bytV s6 32 = x := ⟨_, rfl⟩
  obtain ⟨s7, e6⟩ : ∃ x, Pk.bytS s6 32 = x := ⟨_, rfl⟩
  have HRES : Hid (En.read s0 = (if s7 = none then En.zero else ⟨v0, v1, ⟨v2, v3, v4, v5, v6⟩⟩) ∧ (En.get s0).2 = s7) := Lib.hid (by unfold En.read En.get; simp only [e0, e1, e2, e3, e4, e5, e6, d0, d1, d2, d3, d4, d5, d6]; exact ⟨trivial, trivial⟩)
  subst es
  have C0 := Lib.hid (fun w h => rnum_is w b _ 1073741824 h _ _ d0 e0)
  have C1 := Lib.hid (fun w h => rnum_is w b _ 1073741824 h _ _ d1 e1)
  have C2 := Lib.hid (fun w h => rnum_is w b _ 1073741824 h _ _ d2 e2)
  have C3 := Lib.hid (fun w h => rnum_is w b _ 1073741824 h _ _ d3 e3)
  have C4 := Lib.hid (fun w h => rbytes_is w b _ 32 h _ _ d4 e4)
  have C5 := Lib.hid (fun w h => rbytes_is w b _ 32 h _ _ d5 e5)
  have C6 := Lib.hid (fun w h => rbytes_is w b _ 32 h _ _ d6 e6)
  clear d0 e0 d1 e1 d2 e2 d3 e3 d4 e4 d5 e5 d6 e6
  have bb : Below w.heap.size w ((w.alloc (.cells #[.int .i64 0, .int .i64 0, .int .i64 0, .int .i64 0, .slice none 0 0, .slice none 0 0, .slice none 0 0] 26)).alloc (.cells #[.int .i64 0, .int .i64 0, .int .i64 0, .int .i64 0, .slice none 0 0, .slice none 0 0, .slice none 0 0] 26)) := ((Below.refl _ _).alloc (Nat.le_refl _) _).alloc (by simp) _
  have HR0 := Lib.hid (h0.below bb)
  have HK2 := Lib.hid ((Blk.new w 26 #[.int .i64 0, .int .i64 0, .int .i64 0, .int .i64 0, .slice none 0 0, .slice none 0 0, .slice none 0 0]).alloc (.cells #[.int .i64 0, .int .i64 0, .int .i64 0, .int .i64 0, .slice none 0 0, .slice none 0 0, .slice none 0 0] 26))
  have HK3 := Lib.hid (Blk.new (w.alloc (.cells #[.int .i64 0, .int .i64 0, .int .i64 0, .int .i64 0, .slice none 0 0, .slice none 0 0, .slice none 0 0] 26)) 26 #[.int .i64 0, .int .i64 0, .int .i64 0, .int .i64 0, .slice none 0 0, .slice none 0 0, .slice none 0 0])
  rw [World.size_alloc] at HK3
  have hne : w.heap.size ≠ b := by omega
  have hne3 : w.heap.size + 1 ≠ b := by omega
  clear h h0 bb
  go_enter Try.func51, Try.ntmps51
  go_upto_region 2 with fail
  generalize (w.alloc (.cells #[.int .i64 0, .int .i64 0, .int .i64 0, .int .i64 0, .slice none 0 0, .slice none 0 0, .slice none 0 0] 26)).alloc (.cells #[.int .i64 0, .int .i64 0, .int .i64 0, .int .i64 0, .slice none 0 0, .slice none 0 0, .slice none 0 0] 26) = wx0 at HR0 HK2 HK3 ⊢
  go_upto_region 3 with (first
    | (go_at_call 15; refine (C0.out _ HR0.out.r).mono ?_; rintro en w1 ⟨rfl, hr, ho⟩
       have HRC := Lib.hid (HR0.out.call hr ho)
       have HK2 := Lib.hid (HK2.out.grown ho (by simpa using hne))
       have HK3 := Lib.hid (HK3.out.grown ho (by simpa using hne3))
       have x0 := HK3.out.cell 0
       have f0 := HK3.out.frozen 0
       have x1 := HK3.out.cell 1
       have f1 := HK3.out.frozen 1
       have x2 := HK3.out.cell 2
       have f2 := HK3.out.frozen 2
       have x3 := HK3.out.cell 3
       have f3 := HK3.out.frozen 3
       have x4 := HK3.out.cell 4
       have f4 := HK3.out.frozen 4
       have x5 := HK3.out.cell 5
       have f5 := HK3.out.frozen 5
       have x6 := HK3.out.cell 6
       have f6 := HK3.out.frozen 6
       clear hr ho C0)
    | fail)
  have HR1 : Hid (RgSt w (w1.setCell ⟨w.heap.size + 1, 0, none⟩ (.int .i64 (v0 : Int))) b s1) := Lib.hid (HRC.out.set HK3.out (by decide) (by decide) (by omega))
  have HK2 := Lib.hid (HK2.out.set_other (i := 0) (u := .int .i64 (v0 : Int)) (b := w.heap.size + 1) (by omega))
  have HK3 : Hid (Blk (w1.setCell ⟨w.heap.size + 1, 0, none⟩ (.int .i64 (v0 : Int))) (w.heap.size + 1) 26 #[.int .i64 (v0 : Int), .int .i64 0, .int .i64 0, .int .i64 0, .slice none 0 0, .slice none 0 0, .slice none 0 0]) := Lib.hid (HK3.out.set_ 0 (.int .i64 (v0 : Int)))
  clear HRC x0 f0 x1 f1 x2 f2 x3 f3 x4 f4 x5 f5 x6 f6
  generalize w1.setCell ⟨w.heap.size + 1, 0, none⟩ (.int .i64 (v0 : Int)) = wx1 at HR1 HK2 HK3  ⊢
  go_upto_region 4 with (first
    | (go_at_call 15; refine (C1.out _ HR1.out.r).mono ?_; rintro en w2 ⟨rfl, hr, ho⟩
       have HRC := Lib.hid (HR1.out.call hr ho)
       have HK2 := Lib.hid (HK2.out.grown ho (by simpa using hne))
       have HK3 := Lib.hid (HK3.out.grown ho (by simpa using hne3))
       have x0 := HK3.out.cell 0
       have f0 := HK3.out.frozen 0
       have x1 := HK3.out.cell 1
       have f1 := HK3.out.frozen 1
       have x2 := HK3.out.cell 2
       have f2 := HK3.out.frozen 2
       have x3 := HK3.out.cell 3
       have f3 := HK3.out.frozen 3
       have x4 := HK3.out.cell 4
       have f4 := HK3.out.frozen 4
       have x5 := HK3.out.cell 5
       have f5 := HK3.out.frozen 5
       have x6 := HK3.out.cell 6
       have f6 := HK3.out.frozen 6
       clear hr ho C1)
    | fail)
  have HR2 : Hid (RgSt w (w2.setCell ⟨w.heap.size + 1, 1, none⟩ (.int .i64 (v1 : Int))) b s2) := Lib.hid (HRC.out.set HK3.out (by decide) (by decide) (by omega))
  have HK2 := Lib.hid (HK2.out.set_other (i := 1) (u := .int .i64 (v1 : Int)) (b := w.heap.size + 1) (by omega))
  have HK3 : Hid (Blk (w2.setCell ⟨w.heap.size + 1, 1, none⟩ (.int .i64 (v1 : Int))) (w.heap.size + 1) 26 #[.int .i64 (v0 : Int), .int .i64 (v1 : Int), .int .i64 0, .int .i64 0, .slice none 0 0, .slice none 0 0, .slice none 0 0]) := Lib.hid (HK3.out.set_ 1 (.int .i64 (v1 : Int)))
  clear HRC x0 f0 x1 f1 x2 f2 x3 f3 x4 f4 x5 f5 x6 f6
  generalize w2.setCell ⟨w.heap.size + 1, 1, none⟩ (.int .i64 (v1 : Int)) = wx2 at HR2 HK2 HK3  ⊢
  go_upto_region 5 with (first
    | (go_at_call 15; refine (C2.out _ HR2.out.r).mono ?_; rintro en w3 ⟨rfl, hr, ho⟩
       have HRC := Lib.hid (HR2.out.call hr ho)
       have HK2 := Lib.hid (HK2.out.grown ho (by simpa using hne))
       have HK3 := Lib.hid (HK3.out.grown ho (by simpa using hne3))
       have x0 := HK3.out.cell 0
       have f0 := HK3.out.frozen 0
       have x1 := HK3.out.cell 1
       have f1 := HK3.out.frozen 1
       have x2 := HK3.out.cell 2
       have f2 := HK3.out.frozen 2
       have x3 := HK3.out.cell 3
       have f3 := HK3.out.frozen 3
       have x4 := HK3.out.cell 4
       have f4 := HK3.out.frozen 4
       have x5 := HK3.out.cell 5
       have f5 := HK3.out.frozen 5
       have x6 := HK3.out.cell 6
       have f6 := HK3.out.frozen 6
       clear hr ho C2)
    | fail)
  have HR3 : Hid (RgSt w (w3.setCell ⟨w.heap.size + 1, 2, none⟩ (.int .i64 (v2 : Int))) b s3) := Lib.hid (HRC.out.set HK3.out (by decide) (by decide) (by omega))
  have HK2 := Lib.hid (HK2.out.set_other (i := 2) (u := .int .i64 (v2 : Int)) (b := w.heap.size + 1) (by omega))
  have HK3 : Hid (Blk (w3.setCell ⟨w.heap.size + 1, 2, none⟩ (.int .i64 (v2 : Int))) (w.heap.size + 1) 26 #[.int .i64 (v0 : Int), .int .i64 (v1 : Int), .int .i64 (v2 : Int), .int .i64 0, .slice none 0 0, .slice none 0 0, .slice none 0 0]) := Lib.hid (HK3.out.set_ 2 (.int .i64 (v2 : Int)))
  clear HRC x0 f0 x1 f1 x2 f2 x3 f3 x4 f4 x5 f5 x6 f6
  generalize w3.setCell ⟨w.heap.size + 1, 2, none⟩ (.int .i64 (v2 : Int)) = wx3 at HR3 HK2 HK3  ⊢
  go_upto_region 6 with (first
    | (go_at_call 15; refine (C3.out _ HR3.out.r).mono ?_; rintro en w4 ⟨rfl, hr, ho⟩
       have HRC := Lib.hid (HR3.out.call hr ho)
       have HK2 := Lib.hid (HK2.out.grown ho (by simpa using hne))
       have HK3 := Lib.hid (HK3.out.grown ho (by simpa using hne3))
       have x0 := HK3.out.cell 0
       have f0 := HK3.out.frozen 0
       have x1 := HK3.out.cell 1
       have f1 := HK3.out.frozen 1
       have x2 := HK3.out.cell 2
       have f2 := HK3.out.frozen 2
       have x3 := HK3.out.cell 3
       have f3 := HK3.out.frozen 3
       have x4 := HK3.out.cell 4
       have f4 := HK3.out.frozen 4
       have x5 := HK3.out.cell 5
       have f5 := HK3.out.frozen 5
       have x6 := HK3.out.cell 6
       have f6 := HK3.out.frozen 6
       clear hr ho C3)
    | fail)
  have HR4 : Hid (RgSt w (w4.setCell ⟨w.heap.size + 1, 3, none⟩ (.int .i64 (v3 : Int))) b s4) := Lib.hid (HRC.out.set HK3.out (by decide) (by decide) (by omega))
  have HK2 := Lib.hid (HK2.out.set_other (i := 3) (u := .int .i64 (v3 : Int)) (b := w.heap.size + 1) (by omega))
  have HK3 : Hid (Blk (w4.setCell ⟨w.heap.size + 1, 3, none⟩ (.int .i64 (v3 : Int))) (w.heap.size + 1) 26 #[.int .i64 (v0 : Int), .int .i64 (v1 : Int), .int .i64 (v2 : Int), .int .i64 (v3 : Int), .slice none 0 0, .slice none 0 0, .slice none 0 0]) := Lib.hid (HK3.out.set_ 3 (.int .i64 (v3 : Int)))
  clear HRC x0 f0 x1 f1 x2 f2 x3 f3 x4 f4 x5 f5 x6 f6
  generalize w4.setCell ⟨w.heap.size + 1, 3, none⟩ (.int .i64 (v3 : Int)) = wx4 at HR4 HK2 HK3  ⊢
  go_upto_region 7 with (first
    | (go_at_call 17; refine (C4.out _ HR4.out.r).mono ?_; rintro en w5 ⟨A4, n4, c4, rfl, hv, hr, ho⟩; obtain rfl := own_len hv
       have HRC := Lib.hid (HR4.out.call hr ho)
       have HK2 := Lib.hid (HK2.out.grown ho (by simpa using hne))
       have HK3 := Lib.hid (HK3.out.grown ho (by simpa using hne3))
       have HV4 := Lib.hid (own_of HR4.out.size hv)
       have x0 := HK3.out.cell 0
       have f0 := HK3.out.frozen 0
       have x1 := HK3.out.cell 1
       have f1 := HK3.out.frozen 1
       have x2 := HK3.out.cell 2
       have f2 := HK3.out.frozen 2
       have x3 := HK3.out.cell 3
       have f3 := HK3.out.frozen 3
       have x4 := HK3.out.cell 4
       have f4 := HK3.out.frozen 4
       have x5 := HK3.out.cell 5
       have f5 := HK3.out.frozen 5
       have x6 := HK3.out.cell 6
       have f6 := HK3.out.frozen 6
       clear hr ho C4 hv)
    | fail)
  have HR5 : Hid (RgSt w (w5.setCell ⟨w.heap.size + 1, 4, none⟩ (.slice A4 v4.length c4)) b s5) := Lib.hid (HRC.out.set HK3.out (by decide) (by decide) (by omega))
  have HK2 := Lib.hid (HK2.out.set_other (i := 4) (u := .slice A4 v4.length c4) (b := w.heap.size + 1) (by omega))
  have HV4 : Hid (OwnB w (w5.setCell ⟨w.heap.size + 1, 4, none⟩ (.slice A4 v4.length c4)) A4 v4.length c4 v4) := Lib.hid (own_set_t HV4.out HK3.out (by decide))
  have HK3 : Hid (Blk (w5.setCell ⟨w.heap.size + 1, 4, none⟩ (.slice A4 v4.length c4)) (w.heap.size + 1) 26 #[.int .i64 (v0 : Int), .int .i64 (v1 : Int), .int .i64 (v2 : Int), .int .i64 (v3 : Int), .slice A4 v4.length c4, .slice none 0 0, .slice none 0 0]) := Lib.hid (HK3.out.set_ 4 (.slice A4 v4.length c4))
  clear HRC x0 f0 x1 f1 x2 f2 x3 f3 x4 f4 x5 f5 x6 f6
  generalize w5.setCell ⟨w.heap.size + 1, 4, none⟩ (.slice A4 v4.length c4) = wx5 at HR5 HK2 HK3 HV4 ⊢
  go_upto_region 8 with (first
    | (go_at_call 17; refine (C5.out _ HR5.out.r).mono ?_; rintro en w6 ⟨A5, n5, c5, rfl, hv, hr, ho⟩; obtain rfl := own_len hv
       have HRC := Lib.hid (HR5.out.call hr ho)
       have HK2 := Lib.hid (HK2.out.grown ho (by simpa using hne))
       have HK3 := Lib.hid (HK3.out.grown ho (by simpa using hne3))
       have HV4 := Lib.hid (own_read HV4.out ho HBL.out)
       have HV5 := Lib.hid (own_of HR5.out.size hv)
       have x0 := HK3.out.cell 0
       have f0 := HK3.out.frozen 0
       have x1 := HK3.out.cell 1
       have f1 := HK3.out.frozen 1
       have x2 := HK3.out.cell 2
       have f2 := HK3.out.frozen 2
       have x3 := HK3.out.cell 3
       have f3 := HK3.out.frozen 3
       have x4 := HK3.out.cell 4
       have f4 := HK3.out.frozen 4
       have x5 := HK3.out.cell 5
       have f5 := HK3.out.frozen 5
       have x6 := HK3.out.cell 6
       have f6 := HK3.out.frozen 6
       clear hr ho C5 hv)
    | fail)
  have HR6 : Hid (RgSt w (w6.setCell ⟨w.heap.size + 1, 5, none⟩ (.slice A5 v5.length c5)) b s6) := Lib.hid (HRC.out.set HK3.out (by decide) (by decide) (by omega))
  have HK2 := Lib.hid (HK2.out.set_other (i := 5) (u := .slice A5 v5.length c5) (b := w.heap.size + 1) (by omega))
  have HV4 : Hid (OwnB w (w6.setCell ⟨w.heap.size + 1, 5, none⟩ (.slice A5 v5.length c5)) A4 v4.length c4 v4) := Lib.hid (own_set_t HV4.out HK3.out (by decide))
  have HV5 : Hid (OwnB w (w6.setCell ⟨w.heap.size + 1, 5, none⟩ (.slice A5 v5.length c5)) A5 v5.length c5 v5) := Lib.hid (own_set_t HV5.out HK3.out (by decide))
  have HK3 : Hid (Blk (w6.setCell ⟨w.heap.size + 1, 5, none⟩ (.slice A5 v5.length c5)) (w.heap.size + 1) 26 #[.int .i64 (v0 : Int), .int .i64 (v1 : Int), .int .i64 (v2 : Int), .int .i64 (v3 : Int), .slice A4 v4.length c4, .slice A5 v5.length c5, .slice none 0 0]) := Lib.hid (HK3.out.set_ 5 (.slice A5 v5.length c5))
  clear HRC x0 f0 x1 f1 x2 f2 x3 f3 x4 f4 x5 f5 x6 f6
  generalize w6.setCell ⟨w.heap.size + 1, 5, none⟩ (.slice A5 v5.length c5) = wx6 at HR6 HK2 HK3 HV4 HV5 ⊢
  go_upto_region 9 with (first
    | (go_at_call 17; refine (C6.out _ HR6.out.r).mono ?_; rintro en w7 ⟨A6, n6, c6, rfl, hv, hr, ho⟩; obtain rfl := own_len hv
       have HRC := Lib.hid (HR6.out.call hr ho)
       have HK2 := Lib.hid (HK2.out.grown ho (by simpa using hne))
       have HK3 := Lib.hid (HK3.out.grown ho (by simpa using hne3))
       have HV4 := Lib.hid (own_read HV4.out ho HBL.out)
       have HV5 := Lib.hid (own_read HV5.out ho HBL.out)
       have HV6 := Lib.hid (own_of HR6.out.size hv)
       have x0 := HK3.out.cell 0
       have f0 := HK3.out.frozen 0
       have x1 := HK3.out.cell 1
       have f1 := HK3.out.frozen 1
       have x2 := HK3.out.cell 2
       have f2 := HK3.out.frozen 2
       have x3 := HK3.out.cell 3
       have f3 := HK3.out.frozen 3
       have x4 := HK3.out.cell 4
       have f4 := HK3.out.frozen 4
       have x5 := HK3.out.cell 5
       have f5 := HK3.out.frozen 5
       have x6 := HK3.out.cell 6
       have f6 := HK3.out.frozen 6
       clear hr ho C6 hv)
    | fail)
  have HR7 : Hid (RgSt w (w7.setCell ⟨w.heap.size + 1, 6, none⟩ (.slice A6 v6.length c6)) b s7) := Lib.hid (HRC.out.set HK3.out (by decide) (by decide) (by omega))
  have HK2 := Lib.hid (HK2.out.set_other (i := 6) (u := .slice A6 v6.length c6) (b := w.heap.size + 1) (by omega))
  have HV4 : Hid (OwnB w (w7.setCell ⟨w.heap.size + 1, 6, none⟩ (.slice A6 v6.length c6)) A4 v4.length c4 v4) := Lib.hid (own_set_t HV4.out HK3.out (by decide))
  have HV5 : Hid (OwnB w (w7.setCell ⟨w.heap.size + 1, 6, none⟩ (.slice A6 v6.length c6)) A5 v5.length c5 v5) := Lib.hid (own_set_t HV5.out HK3.out (by decide))
  have HV6 : Hid (OwnB w (w7.setCell ⟨w.heap.size + 1, 6, none⟩ (.slice A6 v6.length c6)) A6 v6.length c6 v6) := Lib.hid (own_set_t HV6.out HK3.out (by decide))
  have HK3 : Hid (Blk (w7.setCell ⟨w.heap.size + 1, 6, none⟩ (.slice A6 v6.length c6)) (w.heap.size + 1) 26 #[.int .i64 (v0 : Int), .int .i64 (v1 : Int), .int .i64 (v2 : Int), .int .i64 (v3 : Int), .slice A4 v4.length c4, .slice A5 v5.length c5, .slice A6 v6.length c6]) := Lib.hid (HK3.out.set_ 6 (.slice A6 v6.length c6))
  clear HRC x0 f0 x1 f1 x2 f2 x3 f3 x4 f4 x5 f5 x6 f6
  generalize w7.setCell ⟨w.heap.size + 1, 6, none⟩ (.slice A6 v6.length c6) = wx7 at HR7 HK2 HK3 HV4 HV5 HV6 ⊢
  have HRN := HR7
  have x0 := HK2.out.cell 0
  have f0 := HK2.out.frozen 0
  have y0 := HK3.out.cell 0
  have x1 := HK2.out.cell 1
  have f1 := HK2.out.frozen 1
  have y1 := HK3.out.cell 1
  have x2 := HK2.out.cell 2
  have f2 := HK2.out.frozen 2
  have y2 := HK3.out.cell 2
  have x3 := HK2.out.cell 3
  have f3 := HK2.out.frozen 3
  have y3 := HK3.out.cell 3
  have x4 := HK2.out.cell 4
  have f4 := HK2.out.frozen 4
  have y4 := HK3.out.cell 4
  have x5 := HK2.out.cell 5
  have f5 := HK2.out.frozen 5
  have y5 := HK3.out.cell 5
  have x6 := HK2.out.cell 6
  have f6 := HK2.out.frozen 6
  have y6 := HK3.out.cell 6
  have HOK := Lib.hid (ok_any _ _ _ HRN.out.r)
  cases s7 with
  | none =>
    simp only [Option.isSome_none] at HOK
    go_wp2_with (first
      | (go_at_call 52; refine HOK.out.mono ?_; rintro en wq ⟨rfl, rfl⟩)
      | fail)
    have q0 := HK2.out
    have q1 := q0.set_ 0 (.int .i64 0)
    have q2 := q1.set_ 1 (.int .i64 0)
    have q3 := q2.set_ 2 (.int .i64 0)
    have q4 := q3.set_ 3 (.int .i64 0)
    have q5 := q4.set_ 4 (.slice none 0 0)
    have q6 := q5.set_ 5 (.slice none 0 0)
    have q7 := q6.set_ 6 (.slice none 0 0)
    refine bodyPost_ret (results_cell_row rfl _ _ _ _ _ _ _ rfl q7 Try.underlying26 rfl (by kernel_rfl)) rfl ?_
    have hrg := (((((((HRN.out).set (i := 0) (u := .int .i64 0) q0 (by decide) (by decide) (Nat.le_refl _)).set (i := 1) (u := .int .i64 0) q1 (by decide) (by decide) (Nat.le_refl _)).set (i := 2) (u := .int .i64 0) q2 (by decide) (by decide) (Nat.le_refl _)).set (i := 3) (u := .int .i64 0) q3 (by decide) (by decide) (Nat.le_refl _)).set (i := 4) (u := .slice none 0 0) q4 (by decide) (by decide) (Nat.le_refl _)).set (i := 5) (u := .slice none 0 0) q5 (by decide) (by decide) (Nat.le_refl _)).set (i := 6) (u := .slice none 0 0) q6 (by decide) (by decide) (Nat.le_refl _)
    obtain ⟨hR, hS⟩ := HRES.out
    rw [hR, hS, if_pos (by trivial)]
    exact ⟨⟨none, 0, none, 0, none, 0⟩, rfl, ⟨own_nil _ _, own_nil _ _, own_nil _ _⟩, hrg.r, hrg.only⟩
  | some l7 =>
    simp only [Option.isSome_some] at HOK
    go_wp2_with (first
      | (go_at_call 52; refine HOK.out.mono ?_; rintro en wq ⟨rfl, rfl⟩)
      | fail)
    have q0 := HK2.out
    have q1 := q0.set_ 0 (.int .i64 (v0 : Int))
    have q2 := q1.set_ 1 (.int .i64 (v1 : Int))
    have q3 := q2.set_ 2 (.int .i64 (v2 : Int))
    have q4 := q3.set_ 3 (.int .i64 (v3 : Int))
    have q5 := q4.set_ 4 (.slice A4 v4.length c4)
    have q6 := q5.set_ 5 (.slice A5 v5.length c5)
    have q7 := q6.set_ 6 (.slice A6 v6.length c6)
    refine bodyPost_ret (results_cell_row rfl _ _ _ _ _ _ _ rfl q7 Try.underlying26 rfl (by kernel_rfl)) rfl ?_
    have hrg := (((((((HRN.out).set (i := 0) (u := .int .i64 (v0 : Int)) q0 (by decide) (by decide) (Nat.le_refl _)).set (i := 1) (u := .int .i64 (v1 : Int)) q1 (by decide) (by decide) (Nat.le_refl _)).set (i := 2) (u := .int .i64 (v2 : Int)) q2 (by decide) (by decide) (Nat.le_refl _)).set (i := 3) (u := .int .i64 (v3 : Int)) q3 (by decide) (by decide) (Nat.le_refl _)).set (i := 4) (u := .slice A4 v4.length c4) q4 (by decide) (by decide) (Nat.le_refl _)).set (i := 5) (u := .slice A5 v5.length c5) q5 (by decide) (by decide) (Nat.le_refl _)).set (i := 6) (u := .slice A6 v6.length c6) q6 (by decide) (by decide) (Nat.le_refl _)
    obtain ⟨hR, hS⟩ := HRES.out
    rw [hR, hS, if_neg (by simp)]
    exact ⟨⟨A4, c4, A5, c5, A6, c6⟩, rfl, ⟨own_set_t (own_set_t (own_set_t (own_set_t (own_set_t (own_set_t (own_set_t (HV4.out) q0 (by decide)) q1 (by decide)) q2 (by decide)) q3 (by decide)) q4 (by decide)) q5 (by decide)) q6 (by decide), own_set_t (own_set_t (own_set_t (own_set_t (own_set_t (own_set_t (own_set_t (HV5.out) q0 (by decide)) q1 (by decide)) q2 (by decide)) q3 (by decide)) q4 (by decide)) q5 (by decide)) q6 (by decide), own_set_t (own_set_t (own_set_t (own_set_t (own_set_t (own_set_t (own_set_t (HV6.out) q0 (by decide)) q1 (by decide)) q2 (by decide)) q3 (by decide)) q4 (by decide)) q5 (by decide)) q6 (by decide)⟩, hrg.r, hrg.only⟩
end Go.Proofs.Ytmekamgohonffaa

