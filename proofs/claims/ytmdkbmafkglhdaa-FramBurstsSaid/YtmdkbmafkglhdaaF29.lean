/- MachGet MesgR -/
import Derived.Test.YtmdkbmafkglhdaaF13
import Derived.Test.YtmdkbmafkglhdaaF14
import Derived.Test.YtmdkbmafkglhdaaF17
import Derived.Test.YtmdkbmafkglhdaaF18
import Derived.Test.YtmdkbmafkglhdaaF19
import Derived.Test.YtmdkbmafkglhdaaF28
namespace Go.Proofs.Ytmdkbmafkglhdaa
open Go.RowKit
set_option linter.unusedVariables false
/-- the state of a walk that reads: reader, what is turned -/
structure RgSt (w wx : World) (b : Nat) (s : Pk.St) : Prop where
  r : RdrAt wx b s
  only : Only b w wx
section
variable {w wx wy : World} {b g i : Nat} {s s' : Pk.St} {t e : TypeId} {cs : Array Value} {u : Value}
theorem RgSt.size (h : RgSt w wx b s) : w.heap.size ≤ wx.heap.size := h.only.size
theorem RgSt.call (h : RgSt w wx b s) (hr : RdrAt wy b s') (ho : Only b wx wy) : RgSt w wy b s' := ⟨hr, only_trans h.only ho⟩
theorem RgSt.below (h : RgSt w wx b s) (hb : Below wx.heap.size wx wy) : RgSt w wy b s := ⟨h.r.below hb, only_below h.only hb h.size⟩
theorem RgSt.set (h : RgSt w wx b s) (hk : Blk wx g t cs) (h1 : 5 ≠ t) (h2 : 82 ≠ t) (hg : w.heap.size ≤ g) : RgSt w (wx.setCell ⟨g, i, none⟩ u) b s := by
  obtain ⟨A, n, c, hb, q1, q2, q3, q4, q5⟩ := h.r
  exact ⟨⟨A, n, c, hb.set_other (hb.apart hk h2), q1, q2, q3, q4.grown (only_set (only_refl g wx) i u) hk h1, q5⟩, only_below h.only ((Below.refl w.heap.size wx).setCell (p := ⟨g, i, none⟩) hg u) (Nat.le_refl _)⟩
theorem RgSt.row {A : Option Addr} {n c size : Nat} {xs : List Value} (h : RgSt w wx b s) (ho : wx.ownsRow w.heap.size e size (.slice A n c) n xs) (h1 : 5 ≠ e) (h2 : 82 ≠ e) (hg : wx.grownBy wy (Value.slice A n c).ownBlock) : RgSt w wy b s := by
  obtain ⟨A', n', c', hb, q1, q2, q3, q4, q5⟩ := h.r
  exact ⟨⟨A', n', c', hb.apart_own ho h2 hg, q1, q2, q3, q4.kept ho h1 hg, q5⟩, only_below h.only ((Below.refl w.heap.size wx).grown hg h.size (fun k hk => (ho.lt k hk).1)) (Nat.le_refl _)⟩
end
set_option maxHeartbeats 4000000 in
set_option maxRecDepth 100000 in
theorem getEntry_any (w : World) (b : Nat) (s : Pk.St) (h : RdrAt w b s) :
    Calls Try.prog 77 #[.pointer (some ⟨b, 0, none⟩)] w fun en w' => ∃ ca, en = .returned (entV ca (En.read s)) ∧ OwnC w w' ca (En.read s).c ∧ RdrAt w' b (En.get s).2 ∧ Only b w w' := by
  have hbl := h.lt
  have HBL := Lib.hid hbl
  have h0 : RgSt w w b s := ⟨h, only_refl b w⟩
  obtain ⟨s0, es⟩ : ∃ x, s = x := ⟨_, rfl⟩
  obtain ⟨v0, d0⟩ : ∃ x, Pk.numV s0 1073741824 = x := ⟨_, rfl⟩
  obtain ⟨s1, e0⟩ : ∃ x, Pk.numS s0 1073741824 = x := ⟨_, rfl⟩
  obtain ⟨v1, d1⟩ : ∃ x, Pk.numV s1 1073741824 = x := ⟨_, rfl⟩
  obtain ⟨s2, e1⟩ : ∃ x, Pk.numS s1 1073741824 = x := ⟨_, rfl⟩
  obtain ⟨v2, d2⟩ : ∃ x, Pk.numV s2 1073741824 = x := ⟨_, rfl⟩
  obtain ⟨s3, e2⟩ : ∃ x, Pk.numS s2 1073741824 = x := ⟨_, rfl⟩
  obtain ⟨v3, d3⟩ : ∃ x, Pk.numV s3 1073741824 = x := ⟨_, rfl⟩
  obtain ⟨s4, e3⟩ : ∃ x, Pk.numS s3 1073741824 = x := ⟨_, rfl⟩
  obtain ⟨v4, d4⟩ : ∃ x, Pk.bytV s4 32 = x := ⟨_, rfl⟩
  obtain ⟨s5, e4⟩ : ∃ x, Pk.bytS s4 32 = x := ⟨_, rfl⟩
  obtain ⟨v5, d5⟩ : ∃ x, Pk.bytV s5 32 = x := ⟨_, rfl⟩
  obtain ⟨s6, e5⟩ : ∃ x, Pk.bytS s5 32 = x := ⟨_, rfl⟩
  obtain ⟨v6, d6⟩ : ∃ x, Pk.bytV s6 32 = x := ⟨_, rfl⟩
  obtain ⟨s7, e6⟩ : ∃ x, Pk.bytS s6 32 = x := ⟨_, rfl⟩
  have HRES : Hid (En.read s0 = (if s7 = none then En.zero else ⟨v0, v1, ⟨v2, v3, v4, v5, v6⟩⟩) ∧ (En.get s0).2 = s7) := Lib.hid (by unfold En.read En.get; simp only [e0, e1, e2, e3, e4, e5, e6, d0, d1, d2, d3, d4, d5, d6]; exact ⟨trivial, trivial⟩)
  subst es
  have C0 := Lib.hid (fun w h => rnum_is w b _ 1073741824 h _ _ d0 e0)
  have C1 := Lib.hid (fun w h => rnum_is w b _ 1073741824 h _ _ d1 e1)
  have C2 := Lib.hid (fun w h => rnum_is w b _ 1073741824 h _ _ d2 e2)
  have C3 := Lib.hid (fun w h => rnum_is w b _ 1073741824 h _ _ d3 e3)
  have C4 := Lib.hid (fun w h => rbytes_is w b _ 32 h _ _ d4 e4)
  have C5 := Lib.hid (fun w h => rbytes_is w b _ 32 h _ _ d5 e5)
  have C6 := Lib.hid (fun w h => rbytes_is w b _ 32 h _ _ d6 e6)
  clear d0 e0 d1 e1 d2 e2 d3 e3 d4 e4 d5 e5 d6 e6
  have bb : Below w.heap.size w ((w.alloc (.cells #[.int .i64 0, .int .i64 0, .int .i64 0, .int .i64 0, .slice none 0 0, .slice none 0 0, .slice none 0 0] 27)).alloc (.cells #[.int .i64 0, .int .i64 0, .int .i64 0, .int .i64 0, .slice none 0 0, .slice none 0 0, .slice none 0 0] 27)) := ((Below.refl _ _).alloc (Nat.le_refl _) _).alloc (by simp) _
  have HR0 := Lib.hid (h0.below bb)
  have HK2 := Lib.hid ((Blk.new w 27 #[.int .i64 0, .int .i64 0, .int .i64 0, .int .i64 0, .slice none 0 0, .slice none 0 0, .slice none 0 0]).alloc (.cells #[.int .i64 0, .int .i64 0, .int .i64 0, .int .i64 0, .slice none 0 0, .slice none 0 0, .slice none 0 0] 27))
  have HK3 := Lib.hid (Blk.new (w.alloc (.cells #[.int .i64 0, .int .i64 0, .int .i64 0, .int .i64 0, .slice none 0 0, .slice none 0 0, .slice none 0 0] 27)) 27 #[.int .i64 0, .int .i64 0, .int .i64 0, .int .i64 0, .slice none 0 0, .slice none 0 0, .slice none 0 0])
  rw [World.size_alloc] at HK3
  have hne : w.heap.size ≠ b := by omega
  have hne3 : w.heap.size + 1 ≠ b := by omega
  clear h h0 bb
  go_enter Try.func77, Try.ntmps77
  go_upto_region 2 with fail
  generalize (w.alloc (.cells #[.int .i64 0, .int .i64 0, .int .i64 0, .int .i64 0, .slice none 0 0, .slice none 0 0, .slice none 0 0] 27)).alloc (.cells #[.int .i64 0, .int .i64 0, .int .i64 0, .int .i64 0, .slice none 0 0, .slice none 0 0, .slice none 0 0] 27) = wx0 at HR0 HK2 HK3 ⊢
  go_upto_region 3 with (first
    | (go_at_call 81; refine (C0.out _ HR0.out.r).mono ?_; rintro en w1 ⟨rfl, hr, ho⟩
       have HRC := Lib.hid (HR0.out.call hr ho)
       have HK2 := Lib.hid (HK2.out.grown ho (by simpa using hne))
       have HK3 := Lib.hid (HK3.out.grown ho (by simpa using hne3))
       have x0 := HK3.out.cell 0
       have f0 := HK3.out.frozen 0
       have x1 := HK3.out.cell 1
       have f1 := HK3.out.frozen 1
       have x2 := HK3.out.cell 2
       have f2 := HK3.out.frozen 2
       have x3 := HK3.out.cell 3
       have f3 := HK3.out.frozen 3
       have x4 := HK3.out.cell 4
       have f4 := HK3.out.frozen 4
       have x5 := HK3.out.cell 5
       have f5 := HK3.out.frozen 5
       have x6 := HK3.out.cell 6
       have f6 := HK3.out.frozen 6
       clear hr ho C0)
    | fail)
  have HR1 : Hid (RgSt w (w1.setCell ⟨w.heap.size + 1, 0, none⟩ (.int .i64 (v0 : Int))) b s1) := Lib.hid (HRC.out.set HK3.out (by decide) (by decide) (by omega))
  have HK2 := Lib.hid (HK2.out.set_other (i := 0) (u := .int .i64 (v0 : Int)) (b := w.heap.size + 1) (by omega))
  have HK3 : Hid (Blk (w1.setCell ⟨w.heap.size + 1, 0, none⟩ (.int .i64 (v0 : Int))) (w.heap.size + 1) 27 #[.int .i64 (v0 : Int), .int .i64 0, .int .i64 0, .int .i64 0, .slice none 0 0, .slice none 0 0, .slice none 0 0]) := Lib.hid (HK3.out.set_ 0 (.int .i64 (v0 : Int)))
  clear HRC x0 f0 x1 f1 x2 f2 x3 f3 x4 f4 x5 f5 x6 f6
  generalize w1.setCell ⟨w.heap.size + 1, 0, none⟩ (.int .i64 (v0 : Int)) = wx1 at HR1 HK2 HK3  ⊢
  go_upto_region 4 with (first
    | (go_at_call 81; refine (C1.out _ HR1.out.r).mono ?_; rintro en w2 ⟨rfl, hr, ho⟩
       have HRC := Lib.hid (HR1.out.call hr ho)
       have HK2 := Lib.hid (HK2.out.grown ho (by simpa using hne))
       have HK3 := Lib.hid (HK3.out.grown ho (by simpa using hne3))
       have x0 := HK3.out.cell 0
       have f0 := HK3.out.frozen 0
       have x1 := HK3.out.cell 1
       have f1 := HK3.out.frozen 1
       have x2 := HK3.out.cell 2
       have f2 := HK3.out.frozen 2
       have x3 := HK3.out.cell 3
       have f3 := HK3.out.frozen 3
       have x4 := HK3.out.cell 4
       have f4 := HK3.out.frozen 4
       have x5 := HK3.out.cell 5
       have f5 := HK3.out.frozen 5
       have x6 := HK3.out.cell 6
       have f6 := HK3.out.frozen 6
       clear hr ho C1)
    | fail)
  have HR2 : Hid (RgSt w (w2.setCell ⟨w.heap.size + 1, 1, none⟩ (.int .i64 (v1 : Int))) b s2) := Lib.hid (HRC.out.set HK3.out (by decide) (by decide) (by omega))
  have HK2 := Lib.hid (HK2.out.set_other (i := 1) (u := .int .i64 (v1 : Int)) (b := w.heap.size + 1) (by omega))
  have HK3 : Hid (Blk (w2.setCell ⟨w.heap.size + 1, 1, none⟩ (.int .i64 (v1 : Int))) (w.heap.size + 1) 27 #[.int .i64 (v0 : Int), .int .i64 (v1 : Int), .int .i64 0, .int .i64 0, .slice none 0 0, .slice none 0 0, .slice none 0 0]) := Lib.hid (HK3.out.set_ 1 (.int .i64 (v1 : Int)))
  clear HRC x0 f0 x1 f1 x2 f2 x3 f3 x4 f4 x5 f5 x6 f6
  generalize w2.setCell ⟨w.heap.size + 1, 1, none⟩ (.int .i64 (v1 : Int)) = wx2 at HR2 HK2 HK3  ⊢
  go_upto_region 5 with (first
    | (go_at_call 81; refine (C2.out _ HR2.out.r).mono ?_; rintro en w3 ⟨rfl, hr, ho⟩
       have HRC := Lib.hid (HR2.out.call hr ho)
       have HK2 := Lib.hid (HK2.out.grown ho (by simpa using hne))
       have HK3 := Lib.hid (HK3.out.grown ho (by simpa using hne3))
       have x0 := HK3.out.cell 0
       have f0 := HK3.out.frozen 0
       have x1 := HK3.out.cell 1
       have f1 := HK3.out.frozen 1
       have x2 := HK3.out.cell 2
       have f2 := HK3.out.frozen 2
       have x3 := HK3.out.cell 3
       have f3 := HK3.out.frozen 3
       have x4 := HK3.out.cell 4
       have f4 := HK3.out.frozen 4
       have x5 := HK3.out.cell 5
       have f5 := HK3.out.frozen 5
       have x6 := HK3.out.cell 6
       have f6 := HK3.out.frozen 6
       clear hr ho C2)
    | fail)
  have HR3 : Hid (RgSt w (w3.setCell ⟨w.heap.size + 1, 2, none⟩ (.int .i64 (v2 : Int))) b s3) := Lib.hid (HRC.out.set HK3.out (by decide) (by decide) (by omega))
  have HK2 := Lib.hid (HK2.out.set_other (i := 2) (u := .int .i64 (v2 : Int)) (b := w.heap.size + 1) (by omega))
  have HK3 : Hid (Blk (w3.setCell ⟨w.heap.size + 1, 2, none⟩ (.int .i64 (v2 : Int))) (w.heap.size + 1) 27 #[.int .i64 (v0 : Int), .int .i64 (v1 : Int), .int .i64 (v2 : Int), .int .i64 0, .slice none 0 0, .slice none 0 0, .slice none 0 0]) := Lib.hid (HK3.out.set_ 2 (.int .i64 (v2 : Int)))
  clear HRC x0 f0 x1 f1 x2 f2 x3 f3 x4 f4 x5 f5 x6 f6
  generalize w3.setCell ⟨w.heap.size + 1, 2, none⟩ (.int .i64 (v2 : Int)) = wx3 at HR3 HK2 HK3  ⊢
  go_upto_region 6 with (first
    | (go_at_call 81; refine (C3.out _ HR3.out.r).mono ?_; rintro en w4 ⟨rfl, hr, ho⟩
       have HRC := Lib.hid (HR3.out.call hr ho)
       have HK2 := Lib.hid (HK2.out.grown ho (by simpa using hne))
       have HK3 := Lib.hid (HK3.out.grown ho (by simpa using hne3))
       have x0 := HK3.out.cell 0
       have f0 := HK3.out.frozen 0
       have x1 := HK3.out.cell 1
       have f1 := HK3.out.frozen 1
       have x2 := HK3.out.cell 2
       have f2 := HK3.out.frozen 2
       have x3 := HK3.out.cell 3
       have f3 := HK3.out.frozen 3
       have x4 := HK3.out.cell 4
       have f4 := HK3.out.frozen 4
       have x5 := HK3.out.cell 5
       have f5 := HK3.out.frozen 5
       have x6 := HK3.out.cell 6
       have f6 := HK3.out.frozen 6
       clear hr ho C3)
    | fail)
  have HR4 : Hid (RgSt w (w4.setCell ⟨w.heap.size + 1, 3, none⟩ (.int .i64 (v3 : Int))) b s4) := Lib.hid (HRC.out.set HK3.out (by decide) (by decide) (by omega))
  have HK2 := Lib.hid (HK2.out.set_other (i := 3) (u := .int .i64 (v3 : Int)) (b := w.heap.size + 1) (by omega))
  have HK3 : Hid (Blk (w4.setCell ⟨w.heap.size + 1, 3, none⟩ (.int .i64 (v3 : Int))) (w.heap.size + 1) 27 #[.int .i64 (v0 : Int), .int .i64 (v1 : Int), .int .i64 (v2 : Int), .int .i64 (v3 : Int), .slice none 0 0, .slice none 0 0, .slice none 0 0]) := Lib.hid (HK3.out.set_ 3 (.int .i64 (v3 : Int)))
  clear HRC x0 f0 x1 f1 x2 f2 x3 f3 x4 f4 x5 f5 x6 f6
  generalize w4.setCell ⟨w.heap.size + 1, 3, none⟩ (.int .i64 (v3 : Int)) = wx4 at HR4 HK2 HK3  ⊢
  go_upto_region 7 with (first
    | (go_at_call 82; refine (C4.out _ HR4.out.r).mono ?_; rintro en w5 ⟨A4, n4, c4, rfl, hv, hr, ho⟩; obtain rfl := own_len hv
       have HRC := Lib.hid (HR4.out.call hr ho)
       have HK2 := Lib.hid (HK2.out.grown ho (by simpa using hne))
       have HK3 := Lib.hid (HK3.out.grown ho (by simpa using hne3))
       have HV4 := Lib.hid (own_of HR4.out.size hv)
       have x0 := HK3.out.cell 0
       have f0 := HK3.out.frozen 0
       have x1 := HK3.out.cell 1
       have f1 := HK3.out.frozen 1
       have x2 := HK3.out.cell 2
       have f2 := HK3.out.frozen 2
       have x3 := HK3.out.cell 3
       have f3 := HK3.out.frozen 3
       have x4 := HK3.out.cell 4
       have f4 := HK3.out.frozen 4
       have x5 := HK3.out.cell 5
       have f5 := HK3.out.frozen 5
       have x6 := HK3.out.cell 6
       have f6 := HK3.out.frozen 6
       clear hr ho C4 hv)
    | fail)
  have HR5 : Hid (RgSt w (w5.setCell ⟨w.heap.size + 1, 4, none⟩ (.slice A4 v4.length c4)) b s5) := Lib.hid (HRC.out.set HK3.out (by decide) (by decide) (by omega))
  have HK2 := Lib.hid (HK2.out.set_other (i := 4) (u := .slice A4 v4.length c4) (b := w.heap.size + 1) (by omega))
  have HV4 : Hid (OwnB w (w5.setCell ⟨w.heap.size + 1, 4, none⟩ (.slice A4 v4.length c4)) A4 v4.length c4 v4) := Lib.hid (own_set_t HV4.out HK3.out (by decide))
  have HK3 : Hid (Blk (w5.setCell ⟨w.heap.size + 1, 4, none⟩ (.slice A4 v4.length c4)) (w.heap.size + 1) 27 #[.int .i64 (v0 : Int), .int .i64 (v1 : Int), .int .i64 (v2 : Int), .int .i64 (v3 : Int), .slice A4 v4.length c4, .slice none 0 0, .slice none 0 0]) := Lib.hid (HK3.out.set_ 4 (.slice A4 v4.length c4))
  clear HRC x0 f0 x1 f1 x2 f2 x3 f3 x4 f4 x5 f5 x6 f6
  generalize w5.setCell ⟨w.heap.size + 1, 4, none⟩ (.slice A4 v4.length c4) = wx5 at HR5 HK2 HK3 HV4 ⊢
  go_upto_region 8 with (first
    | (go_at_call 82; refine (C5.out _ HR5.out.r).mono ?_; rintro en w6 ⟨A5, n5, c5, rfl, hv, hr, ho⟩; obtain rfl := own_len hv
       have HRC := Lib.hid (HR5.out.call hr ho)
       have HK2 := Lib.hid (HK2.out.grown ho (by simpa using hne))
       have HK3 := Lib.hid (HK3.out.grown ho (by simpa using hne3))
       have HV4 := Lib.hid (own_read HV4.out ho HBL.out)
       have HV5 := Lib.hid (own_of HR5.out.size hv)
       have x0 := HK3.out.cell 0
       have f0 := HK3.out.frozen 0
       have x1 := HK3.out.cell 1
       have f1 := HK3.out.frozen 1
       have x2 := HK3.out.cell 2
       have f2 := HK3.out.frozen 2
       have x3 := HK3.out.cell 3
       have f3 := HK3.out.frozen 3
       have x4 := HK3.out.cell 4
       have f4 := HK3.out.frozen 4
       have x5 := HK3.out.cell 5
       have f5 := HK3.out.frozen 5
       have x6 := HK3.out.cell 6
       have f6 := HK3.out.frozen 6
       clear hr ho C5 hv)
    | fail)
  have HR6 : Hid (RgSt w (w6.setCell ⟨w.heap.size + 1, 5, none⟩ (.slice A5 v5.length c5)) b s6) := Lib.hid (HRC.out.set HK3.out (by decide) (by decide) (by omega))
  have HK2 := Lib.hid (HK2.out.set_other (i := 5) (u := .slice A5 v5.length c5) (b := w.heap.size + 1) (by omega))
  have HV4 : Hid (OwnB w (w6.setCell ⟨w.heap.size + 1, 5, none⟩ (.slice A5 v5.length c5)) A4 v4.length c4 v4) := Lib.hid (own_set_t HV4.out HK3.out (by decide))
  have HV5 : Hid (OwnB w (w6.setCell ⟨w.heap.size + 1, 5, none⟩ (.slice A5 v5.length c5)) A5 v5.length c5 v5) := Lib.hid (own_set_t HV5.out HK3.out (by decide))
  have HK3 : Hid (Blk (w6.setCell ⟨w.heap.size + 1, 5, none⟩ (.slice A5 v5.length c5)) (w.heap.size + 1) 27 #[.int .i64 (v0 : Int), .int .i64 (v1 : Int), .int .i64 (v2 : Int), .int .i64 (v3 : Int), .slice A4 v4.length c4, .slice A5 v5.length c5, .slice none 0 0]) := Lib.hid (HK3.out.set_ 5 (.slice A5 v5.length c5))
  clear HRC x0 f0 x1 f1 x2 f2 x3 f3 x4 f4 x5 f5 x6 f6
  generalize w6.setCell ⟨w.heap.size + 1, 5, none⟩ (.slice A5 v5.length c5) = wx6 at HR6 HK2 HK3 HV4 HV5 ⊢
  go_upto_region 9 with (first
    | (go_at_call 82; refine (C6.out _ HR6.out.r).mono ?_; rintro en w7 ⟨A6, n6, c6, rfl, hv, hr, ho⟩; obtain rfl := own_len hv
       have HRC := Lib.hid (HR6.out.call hr ho)
       have HK2 := Lib.hid (HK2.out.grown ho (by simpa using hne))
       have HK3 := Lib.hid (HK3.out.grown ho (by simpa using hne3))
       have HV4 := Lib.hid (own_read HV4.out ho HBL.out)
       have HV5 := Lib.hid (own_read HV5.out ho HBL.out)
       have HV6 := Lib.hid (own_of HR6.out.size hv)
       have x0 := HK3.out.cell 0
       have f0 := HK3.out.frozen 0
       have x1 := HK3.out.cell 1
       have f1 := HK3.out.frozen 1
       have x2 := HK3.out.cell 2
       have f2 := HK3.out.frozen 2
       have x3 := HK3.out.cell 3
       have f3 := HK3.out.frozen 3
       have x4 := HK3.out.cell 4
       have f4 := HK3.out.frozen 4
       have x5 := HK3.out.cell 5
       have f5 := HK3.out.frozen 5
       have x6 := HK3.out.cell 6
       have f6 := HK3.out.frozen 6
       clear hr ho C6 hv)
    | fail)
  have HR7 : Hid (RgSt w (w7.setCell ⟨w.heap.size + 1, 6, none⟩ (.slice A6 v6.length c6)) b s7) := Lib.hid (HRC.out.set HK3.out (by decide) (by decide) (by omega))
  have HK2 := Lib.hid (HK2.out.set_other (i := 6) (u := .slice A6 v6.length c6) (b := w.heap.size + 1) (by omega))
  have HV4 : Hid (OwnB w (w7.setCell ⟨w.heap.size + 1, 6, none⟩ (.slice A6 v6.length c6)) A4 v4.length c4 v4) := Lib.hid (own_set_t HV4.out HK3.out (by decide))
  have HV5 : Hid (OwnB w (w7.setCell ⟨w.heap.size + 1, 6, none⟩ (.slice A6 v6.length c6)) A5 v5.length c5 v5) := Lib.hid (own_set_t HV5.out HK3.out (by decide))
  have HV6 : Hid (OwnB w (w7.setCell ⟨w.heap.size + 1, 6, none⟩ (.slice A6 v6.length c6)) A6 v6.length c6 v6) := Lib.hid (own_set_t HV6.out HK3.out (by decide))
  have HK3 : Hid (Blk (w7.setCell ⟨w.heap.size + 1, 6, none⟩ (.slice A6 v6.length c6)) (w.heap.size + 1) 27 #[.int .i64 (v0 : Int), .int .i64 (v1 : Int), .int .i64 (v2 : Int), .int .i64 (v3 : Int), .slice A4 v4.length c4, .slice A5 v5.length c5, .slice A6 v6.length c6]) := Lib.hid (HK3.out.set_ 6 (.slice A6 v6.length c6))
  clear HRC x0 f0 x1 f1 x2 f2 x3 f3 x4 f4 x5 f5 x6 f6
  generalize w7.setCell ⟨w.heap.size + 1, 6, none⟩ (.slice A6 v6.length c6) = wx7 at HR7 HK2 HK3 HV4 HV5 HV6 ⊢
  have HRN := HR7
  have x0 := HK2.out.cell 0
  have f0 := HK2.out.frozen 0
  have y0 := HK3.out.cell 0
  have x1 := HK2.out.cell 1
  have f1 := HK2.out.frozen 1
  have y1 := HK3.out.cell 1
  have x2 := HK2.out.cell 2
  have f2 := HK2.out.frozen 2
  have y2 := HK3.out.cell 2
  have x3 := HK2.out.cell 3
  have f3 := HK2.out.frozen 3
  have y3 := HK3.out.cell 3
  have x4 := HK2.out.cell 4
  have f4 := HK2.out.frozen 4
  have y4 := HK3.out.cell 4
  have x5 := HK2.out.cell 5
  have f5 := HK2.out.frozen 5
  have y5 := HK3.out.cell 5
  have x6 := HK2.out.cell 6
  have f6 := HK2.out.frozen 6
  have y6 := HK3.out.cell 6
  have HOK := Lib.hid (ok_any _ _ _ HRN.out.r)
  cases s7 with
  | none =>
    simp only [Option.isSome_none] at HOK
    go_wp2_with (first
      | (go_at_call 50; refine HOK.out.mono ?_; rintro en wq ⟨rfl, rfl⟩)
      | fail)
    have q0 := HK2.out
    have q1 := q0.set_ 0 (.int .i64 0)
    have q2 := q1.set_ 1 (.int .i64 0)
    have q3 := q2.set_ 2 (.int .i64 0)
    have q4 := q3.set_ 3 (.int .i64 0)
    have q5 := q4.set_ 4 (.slice none 0 0)
    have q6 := q5.set_ 5 (.slice none 0 0)
    have q7 := q6.set_ 6 (.slice none 0 0)
    refine bodyPost_ret (results_cell_row rfl _ _ _ _ _ _ _ rfl q7 Try.underlying27 rfl (by kernel_rfl)) rfl ?_
    have hrg := (((((((HRN.out).set (i := 0) (u := .int .i64 0) q0 (by decide) (by decide) (Nat.le_refl _)).set (i := 1) (u := .int .i64 0) q1 (by decide) (by decide) (Nat.le_refl _)).set (i := 2) (u := .int .i64 0) q2 (by decide) (by decide) (Nat.le_refl _)).set (i := 3) (u := .int .i64 0) q3 (by decide) (by decide) (Nat.le_refl _)).set (i := 4) (u := .slice none 0 0) q4 (by decide) (by decide) (Nat.le_refl _)).set (i := 5) (u := .slice none 0 0) q5 (by decide) (by decide) (Nat.le_refl _)).set (i := 6) (u := .slice none 0 0) q6 (by decide) (by decide) (Nat.le_refl _)
    obtain ⟨hR, hS⟩ := HRES.out
    rw [hR, hS, if_pos (by trivial)]
    exact ⟨⟨none, 0, none, 0, none, 0⟩, rfl, ⟨own_nil _ _, own_nil _ _, own_nil _ _⟩, hrg.r, hrg.only⟩
  | some l7 =>
    simp only [Option.isSome_some] at HOK
    go_wp2_with (first
      | (go_at_call 50; refine HOK.out.mono ?_; rintro en wq ⟨rfl, rfl⟩)
      | fail)
    have q0 := HK2.out
    have q1 := q0.set_ 0 (.int .i64 (v0 : Int))
    have q2 := q1.set_ 1 (.int .i64 (v1 : Int))
    have q3 := q2.set_ 2 (.int .i64 (v2 : Int))
    have q4 := q3.set_ 3 (.int .i64 (v3 : Int))
    have q5 := q4.set_ 4 (.slice A4 v4.length c4)
    have q6 := q5.set_ 5 (.slice A5 v5.length c5)
    have q7 := q6.set_ 6 (.slice A6 v6.length c6)
    refine bodyPost_ret (results_cell_row rfl _ _ _ _ _ _ _ rfl q7 Try.underlying27 rfl (by kernel_rfl)) rfl ?_
    have hrg := (((((((HRN.out).set (i := 0) (u := .int .i64 (v0 : Int)) q0 (by decide) (by decide) (Nat.le_refl _)).set (i := 1) (u := .int .i64 (v1 : Int)) q1 (by decide) (by decide) (Nat.le_refl _)).set (i := 2) (u := .int .i64 (v2 : Int)) q2 (by decide) (by decide) (Nat.le_refl _)).set (i := 3) (u := .int .i64 (v3 : Int)) q3 (by decide) (by decide) (Nat.le_refl _)).set (i := 4) (u := .slice A4 v4.length c4) q4 (by decide) (by decide) (Nat.le_refl _)).set (i := 5) (u := .slice A5 v5.length c5) q5 (by decide) (by decide) (Nat.le_refl _)).set (i := 6) (u := .slice A6 v6.length c6) q6 (by decide) (by decide) (Nat.le_refl _)
    obtain ⟨hR, hS⟩ := HRES.out
    rw [hR, hS, if_neg (by simp)]
    exact ⟨⟨A4, c4, A5, c5, A6, c6⟩, rfl, ⟨own_set_t (own_set_t (own_set_t (own_set_t (own_set_t (own_set_t (own_set_t (HV4.out) q0 (by decide)) q1 (by decide)) q2 (by decide)) q3 (by decide)) q4 (by decide)) q5 (by decide)) q6 (by decide), own_set_t (own_set_t (own_set_t (own_set_t (own_set_t (own_set_t (own_set_t (HV5.out) q0 (by decide)) q1 (by decide)) q2 (by decide)) q3 (by decide)) q4 (by decide)) q5 (by decide)) q6 (by decide), own_set_t (own_set_t (own_set_t (own_set_t (own_set_t (own_set_t (own_set_t (HV6.out) q0 (by decide)) q1 (by decide)) q2 (by decide)) q3 (by decide)) q4 (by decide)) q5 (by decide)) q6 (by decide)⟩, hrg.r, hrg.only⟩
end Go.Proofs.Ytmdkbmafkglhdaa

namespace Go.Proofs.Ytmdkbmafkglhdaa
open Go.RowKit
set_option linter.unusedVariables false
theorem iv_snocR (l : List Int) (z : Int) : iv (l ++ [z]) = iv l ++ [.int .i64 z] := by simp [iv]
set_option maxRecDepth 100000 in
theorem rnum11_any (w : World) (b : Nat) (s : Pk.St) (z most : Int) (h : RdrAt w b s) {v : Nat} {s' : Pk.St} (hv : Pk.numV s most = v) (hs : Pk.numS s most = s') :
    Calls Try.prog 91 #[.agg #[.pointer (some ⟨b, 0, none⟩)], .int .i64 z, .int .i64 most] w (NumP w b v s') := by
  have bb : Below w.heap.size w (w.alloc (.cells #[.pointer (some ⟨b, 0, none⟩)] 59)) := (Below.refl _ _).alloc (Nat.le_refl _) _
  have HC := Lib.hid (rnum_is _ b s most (h.below bb) v s' hv hs)
  have HB := Lib.hid bb
  clear h hv hs bb
  go_enter Try.func91, Try.ntmps91
  go_wp2_with (first
    | (go_at_call 81; refine HC.out.mono ?_; rintro e w1 ⟨rfl, hr1, hb1⟩)
    | fail)
  go_ret
  exact ⟨rfl, hr1, only_trans (only_below (only_refl b w) HB.out (Nat.le_refl _)) hb1⟩
set_option maxRecDepth 100000 in
theorem rdata11_any (w : World) (b : Nat) (s : Pk.St) (A0 : Option Addr) (n0 c0 : Nat) (most : Int) (h : RdrAt w b s) {v : List Nat} {s' : Pk.St} (hv : Pk.bytV s most = v) (hs : Pk.bytS s most = s') :
    Calls Try.prog 89 #[.agg #[.pointer (some ⟨b, 0, none⟩)], .slice A0 n0 c0, .int .i64 most] w fun e w' => ∃ A c, e = .returned (.slice A v.length c) ∧ OwnB w w' A v.length c v ∧ RdrAt w' b s' ∧ Only b w w' := by
  have bb : Below w.heap.size w (w.alloc (.cells #[.pointer (some ⟨b, 0, none⟩)] 59)) := (Below.refl _ _).alloc (Nat.le_refl _) _
  have HC := Lib.hid (rbytes_is _ b s most (h.below bb) v s' hv hs)
  have HB := Lib.hid bb
  clear h hv hs bb
  go_enter Try.func89, Try.ntmps89
  go_wp2_with (first
    | (go_at_call 82; refine HC.out.mono ?_; rintro e w1 ⟨A1, n1, c1, rfl, ho1, hr1, hb1⟩; obtain rfl := own_len ho1)
    | fail)
  go_ret
  exact ⟨A1, c1, rfl, own_of HB.out.size ho1, hr1, only_trans (only_below (only_refl b w) HB.out (Nat.le_refl _)) hb1⟩
set_option maxRecDepth 100000 in
theorem rentry11_any (w : World) (b : Nat) (s : Pk.St) (ca : CA) (e0 : En) (h : RdrAt w b s) {e : En} {s' : Pk.St} (hv : En.read s = e) (hs : (En.get s).2 = s') :
    Calls Try.prog 90 #[.agg #[.pointer (some ⟨b, 0, none⟩)], entV ca e0] w fun en w' => ∃ ca, en = .returned (entV ca e) ∧ OwnC w w' ca e.c ∧ RdrAt w' b s' ∧ Only b w w' := by
  obtain ⟨wz, hwz⟩ : ∃ wz, ((w.alloc (.cells #[.pointer (some ⟨b, 0, none⟩)] 59)).alloc (.cells (entC ca e0) 27)).alloc (.cells #[.int .i64 0, .int .i64 0, .int .i64 0, .int .i64 0, .slice none 0 0, .slice none 0 0, .slice none 0 0] 27) = wz := ⟨_, rfl⟩
  have bb : Below w.heap.size w wz := by rw [← hwz]; exact (((Below.refl _ _).alloc (Nat.le_refl _) _).alloc (by rw [World.size_alloc]; omega) _).alloc (by rw [World.size_alloc, World.size_alloc]; omega) _
  obtain ⟨g, hg⟩ : ∃ g, w.heap.size = g := ⟨_, rfl⟩
  have k0 : Blk wz g 59 #[.pointer (some ⟨b, 0, none⟩)] := by rw [← hwz, ← hg]; exact ((Blk.new _ _ _).alloc _).alloc _
  have k2 : Blk wz (g + 1 + 1) 27 #[.int .i64 0, .int .i64 0, .int .i64 0, .int .i64 0, .slice none 0 0, .slice none 0 0, .slice none 0 0] := by
    rw [← hwz, ← hg]
    have := Blk.new ((w.alloc (.cells #[.pointer (some ⟨b, 0, none⟩)] 59)).alloc (.cells (entC ca e0) 27)) 27 #[.int .i64 0, .int .i64 0, .int .i64 0, .int .i64 0, .slice none 0 0, .slice none 0 0, .slice none 0 0]
    rwa [World.size_alloc, World.size_alloc] at this
  have hbl := h.lt
  have HC : Hid (Calls Try.prog 77 #[.pointer (some ⟨b, 0, none⟩)] wz fun en w' => ∃ ca, en = .returned (entV ca e) ∧ OwnC wz w' ca e.c ∧ RdrAt w' b s' ∧ Only b wz w') := Lib.hid (by
    have q := getEntry_any wz b s (h.below bb)
    rw [hv, hs] at q
    exact q)
  have HB := Lib.hid bb
  have HK := Lib.hid k2
  have HWZ := Lib.hid hwz
  have HG := Lib.hid hg
  have x0 : wz.cell? ⟨g, 0, none⟩ = some (.pointer (some ⟨b, 0, none⟩)) := k0.cell 0
  have hne : g + 1 + 1 ≠ b := by omega
  clear h hv hs bb k0 k2 hwz hg
  unfold entV entC
  unfold entV entC at HC
  unfold entC at HWZ
  go_enter Try.func90, Try.ntmps90
  go_upto_region 1 with fail
  rw [HG.out, HWZ.out]
  go_wp2_with (first
    | (go_at_call 77; refine HC.out.mono ?_; rintro en w1 ⟨ca1, rfl, hq, hr1, hb1⟩
       have HK1 := Lib.hid (HK.out.grown hb1 (by simpa using hne))
       have HQ := Lib.hid hq
       have HO := Lib.hid hb1
       have HR := Lib.hid hr1
       obtain ⟨y0, y1, y2, y3, y4, y5, y6⟩ := seven HK1.out
       have z0 := HK1.out.frozen 0
       have z1 := HK1.out.frozen 1
       have z2 := HK1.out.frozen 2
       have z3 := HK1.out.frozen 3
       have z4 := HK1.out.frozen 4
       have z5 := HK1.out.frozen 5
       have z6 := HK1.out.frozen 6
       clear hq hr1 hb1 x0)
    | fail)
  have q0 := HK1.out
  have q1 := q0.set_ 0 (.int .i64 e.s)
  have q2 := q1.set_ 1 (.int .i64 e.q)
  have q3 := q2.set_ 2 (.int .i64 e.c.kind)
  have q4 := q3.set_ 3 (.int .i64 e.c.who)
  have q5 := q4.set_ 4 (.slice ca1.Ak e.c.key.length ca1.ck)
  have q6 := q5.set_ 5 (.slice ca1.Av e.c.val.length ca1.cv)
  have q7 := q6.set_ 6 (.slice ca1.Ao e.c.old.length ca1.co)
  refine bodyPost_ret (results_cell_row rfl _ _ _ _ _ _ _ rfl q7 Try.underlying27 rfl (by kernel_rfl)) rfl ?_
  have hg := HG.out
  have hr0 : RgSt w w1 b s' := ⟨HR.out, only_trans (only_below (only_refl b w) HB.out (Nat.le_refl _)) HO.out⟩
  have hrg := (((((((hr0).set (i := 0) (u := .int .i64 e.s) q0 (by decide) (by decide) (by omega)).set (i := 1) (u := .int .i64 e.q) q1 (by decide) (by decide) (by omega)).set (i := 2) (u := .int .i64 e.c.kind) q2 (by decide) (by decide) (by omega)).set (i := 3) (u := .int .i64 e.c.who) q3 (by decide) (by decide) (by omega)).set (i := 4) (u := .slice ca1.Ak e.c.key.length ca1.ck) q4 (by decide) (by decide) (by omega)).set (i := 5) (u := .slice ca1.Av e.c.val.length ca1.cv) q5 (by decide) (by decide) (by omega)).set (i := 6) (u := .slice ca1.Ao e.c.old.length ca1.co) q6 (by decide) (by decide) (by omega)
  have own : ∀ {A : Option Addr} {n c : Nat} {l : List Nat}, OwnB wz w1 A n c l → OwnB w (((((((w1.setCell ⟨g + 1 + 1, 0, none⟩ (.int .i64 e.s)).setCell ⟨g + 1 + 1, 1, none⟩ (.int .i64 e.q)).setCell ⟨g + 1 + 1, 2, none⟩ (.int .i64 e.c.kind)).setCell ⟨g + 1 + 1, 3, none⟩ (.int .i64 e.c.who)).setCell ⟨g + 1 + 1, 4, none⟩ (.slice ca1.Ak e.c.key.length ca1.ck)).setCell ⟨g + 1 + 1, 5, none⟩ (.slice ca1.Av e.c.val.length ca1.cv)).setCell ⟨g + 1 + 1, 6, none⟩ (.slice ca1.Ao e.c.old.length ca1.co)) A n c l :=
    fun h => own_of HB.out.size (own_set_t (own_set_t (own_set_t (own_set_t (own_set_t (own_set_t (own_set_t h q0 (by decide)) q1 (by decide)) q2 (by decide)) q3 (by decide)) q4 (by decide)) q5 (by decide)) q6 (by decide))
  exact ⟨ca1, rfl, ⟨own HQ.out.k, own HQ.out.v, own HQ.out.o⟩, hrg.r, hrg.only⟩
set_option maxHeartbeats 2000000 in
set_option maxRecDepth 100000 in
theorem rnums11_any (w : World) (b : Nat) (s : Pk.St) (A0 : Option Addr) (n0 c0 : Nat) {most : Int} (hm0 : 0 ≤ most) (hm : most ≤ 100) (h : RdrAt w b s) {R : List Int} {s' : Pk.St} (hR : (stF most s).1 = R) (hs' : (stF most s).2 = s') :
    Calls Try.prog 92 #[.agg #[.pointer (some ⟨b, 0, none⟩)], .slice A0 n0 c0, .int .i64 most] w fun en w' => ∃ A c, en = .returned (.slice A R.length c) ∧ OwnI w w' A R.length c R ∧ RdrAt w' b s' ∧ Only b w w' := by
  unfold stF at hR hs'
  have hbl := h.lt
  have HBL := Lib.hid hbl
  obtain ⟨wz, hwz⟩ : ∃ wz, w.alloc (.cells #[.pointer (some ⟨b, 0, none⟩)] 59) = wz := ⟨_, rfl⟩
  have bb : Below w.heap.size w wz := by rw [← hwz]; exact (Below.refl _ _).alloc (Nat.le_refl _) _
  obtain ⟨g, hg⟩ : ∃ g, w.heap.size = g := ⟨_, rfl⟩
  have k0 : Blk wz g 59 #[.pointer (some ⟨b, 0, none⟩)] := by rw [← hwz, ← hg]; exact Blk.new _ _ _
  have HWZ := Lib.hid hwz
  have HG := Lib.hid hg
  have hgb : g ≠ b := by omega
  obtain ⟨n, hn⟩ : ∃ x, Pk.numV s most = x := ⟨_, rfl⟩
  obtain ⟨s1, hs1⟩ : ∃ x, Pk.numS s most = x := ⟨_, rfl⟩
  have hn100 : n ≤ 100 := by have := numV_le s hm0; omega
  have HC := Lib.hid (rnum_is wz b s most (h.below bb) n s1 hn hs1)
  rw [hn, hs1] at hR hs'
  have HQ0 : Hid (getF n s1 = (R, s')) := Lib.hid (by rw [← hR, ← hs'])
  have H0 : Hid (RgSt w wz b s) := Lib.hid ((⟨h, only_refl b w⟩ : RgSt w w b s).below bb)
  have HK0 := Lib.hid k0
  have x0 : wz.cell? ⟨g, 0, none⟩ = some (.pointer (some ⟨b, 0, none⟩)) := k0.cell 0
  clear hR hs' hn hs1 h bb k0 hwz hg
  go_enter Try.func92, Try.ntmps92
  go_upto_region 1 with fail
  rw [HG.out, HWZ.out]
  go_wp2_with (first
    | (go_at_call 81; refine HC.out.mono ?_; rintro en w1 ⟨rfl, hr1, hb1⟩; have HS1 := Lib.hid (H0.out.call hr1 hb1); have HK1 := Lib.hid (HK0.out.grown hb1 (by simpa using hgb)); clear hr1 hb1 HC x0)
    | fail)
  go_loopw [7, 12] (fun s7 s12 wr => ∃ (k : Nat) (A1 : Option Addr) (c1 : Nat) (acc : List Int) (sk : Pk.St), k ≤ n ∧ s12 = .int .i64 (k : Int) ∧ s7 = .slice A1 k c1 ∧ Hid (RgSt w wr b sk) ∧ Hid (Blk wr g 59 #[.pointer (some ⟨b, 0, none⟩)]) ∧ Hid (OwnI w wr A1 k c1 acc) ∧ Hid (getF n s1 = (acc ++ (getF (n - k) sk).1, (getF (n - k) sk).2))) (fun _ s12 _ => n - (intOf s12).toNat)
  case atStart => exact ⟨0, none, 0, [], s1, Nat.zero_le _, rfl, rfl, HS1, HK1, Lib.hid (ownI_nil _ _), Lib.hid (by simp)⟩
  case round =>
    clear HS1 H0 HK1 HK0
    obtain ⟨k, A1, c1, acc, sk, hk, rfl, rfl, HS, HK, HO, HQ⟩ := hrel
    by_cases hlt : k < n
    · obtain ⟨m, hm1⟩ : ∃ m, n - k = m + 1 := ⟨n - k - 1, by omega⟩
      have hstep : getF (m + 1) sk = ((Pk.numV sk 1099511627776 : Int) :: (getF m (Pk.numS sk 1099511627776)).1, (getF m (Pk.numS sk 1099511627776)).2) := rfl
      have hq := HQ.out
      rw [hm1, hstep] at hq
      obtain ⟨x, ex⟩ : ∃ x, Pk.numV sk 1099511627776 = x := ⟨_, rfl⟩
      obtain ⟨t, et⟩ : ∃ x, Pk.numS sk 1099511627776 = x := ⟨_, rfl⟩
      rw [ex, et] at hq
      have HC := Lib.hid (rnum_is wr b sk 1099511627776 HS.out.r x t ex et)
      have hmk : n - (k + 1) = m := by omega
      have HQN : Hid (getF n s1 = ((acc ++ [(x : Int)]) ++ (getF (n - (k + 1)) t).1, (getF (n - (k + 1)) t).2)) := Lib.hid (by rw [hmk, hq]; simp)
      clear hq hstep ex et hm1 hmk HQ
      have x0 : wr.cell? ⟨g, 0, none⟩ = some (.pointer (some ⟨b, 0, none⟩)) := HK.out.cell 0
      go_wp2_with (first
        | (go_at_call 81; refine HC.out.mono ?_; rintro en w1 ⟨rfl, hr2, hb2⟩
           have b1 : Below w1.heap.size w1 (w1.alloc (.cells #[.int .i64 (x : Int)] 3)) := (Below.refl _ _).alloc (Nat.le_refl _) _
           have HS2 := Lib.hid ((HS.out.call hr2 hb2).below b1)
           have HK2 := Lib.hid ((HK.out.grown hb2 (by simpa using hgb)).below b1)
           have hv1 := ownsRow_below (own_old HO.out hb2 (Old.some HBL.out)) b1
           have hsz : w.heap.size ≤ (w1.alloc (.cells #[.int .i64 (x : Int)] 3)).heap.size := HS2.out.size)
        | (at_builtin
           refine wpList_append_at w.heap.size hsz cellI (.tmp 14) (.tmp 18) rfl (by rfl) rfl hv1 rfl (Rd.oneV _ _ _) (by intro u hu; simp at hu; subst hu; rfl) (by omega) (by omega) ?_
           intro A3 c3 w3 hown3 hg3)
        | fail)
      go_roundw
      case rel =>
        refine ⟨k + 1, A3, c3, acc ++ [(x : Int)], t, by omega, by go_num, rfl, Lib.hid (HS2.out.row hv1 (by decide) (by decide) hg3), Lib.hid (HK2.out.apart_own hv1 (by decide) hg3), Lib.hid ?_, HQN⟩
        unfold OwnI
        rw [iv_snocR]
        exact hown3
      case measure => simp only [intOf]; omega
    · have hq := HQ.out
      have hnk : n - k = 0 := by omega
      rw [hnk, show getF 0 sk = ([], sk) from rfl, List.append_nil, HQ0.out] at hq
      injection hq with h1 h2
      subst h1 h2
      have hlen : R.length = k := ownI_len HO.out
      subst hlen
      go_wp2_with fail
      go_ret
      exact ⟨A1, c1, rfl, HO.out, HS.out.r, HS.out.only⟩
end Go.Proofs.Ytmdkbmafkglhdaa

