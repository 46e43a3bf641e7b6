/- awake: what the document fixes of all objects, over any contracts of the code's. -/
import Derived.Test.YtclbhcbeocapgaaObjsC0
import Derived.Test.YtclbhcbeocapgaaConstKit
namespace Go.Proofs.Ytclbhcbeocapgaa
open Go.RowKit
set_option linter.unusedVariables false
theorem cm_fits {k who : Int} {v : List Nat} (h : v = [] ∨ v = [97]) : Cm.Fits ⟨k, who, [], v, []⟩ := by
  refine ⟨⟨by simp, by simp⟩, ?_, ⟨by simp, by simp⟩⟩
  rcases h with rfl | rfl
  · exact ⟨by simp, by simp⟩
  · exact ⟨by simp, by simp⟩
theorem rdC_nil (w : World) (k who : Int) : RdC w 0 ⟨none, 0, none, 0, none, 0⟩ ⟨k, who, [], [], []⟩ := ⟨Rd.none_ _ _ _, Rd.none_ _ _ _, Rd.none_ _ _ _⟩
/-- s and the first result, in blocks g and g + 1 -/
structure AwSt (w wx : World) (g : Nat) (cs : Array Value) (A : Option Addr) (c : Nat) : Prop where
  b1 : Blk wx g 32 cs
  b2 : Blk wx (g + 1) 34 #[.int .i64 0, .slice A 0 c, .int .i64 0]
  bel : Below w.heap.size w wx
theorem AwSt.below {w wx wy : World} {g c : Nat} {cs : Array Value} {A : Option Addr} (h : AwSt w wx g cs A c) (hb : Below wx.heap.size wx wy) : AwSt w wy g cs A c :=
  ⟨h.b1.below hb, h.b2.below hb, h.bel.trans (hb.mono h.bel.size)⟩
theorem aw_put {w wq : World} {g k c : Nat} {A : Option Addr} {u0 u1 u2 u3 : Value} (H : AwSt w wq g #[u0, u1, u2, u3] A c) (hg : w.heap.size ≤ g) (hk : Blk wq k 34 zeroR) (hgk : g + 1 < k) {a : OA} {s : Ob} (ho : OwnO w wq a s) (x0 x1 x2 x3 y0 y1 y2 : Value) :
    let wy := (((((((wq.setCell ⟨g, 0, none⟩ x0).setCell ⟨g, 1, none⟩ x1).setCell ⟨g, 2, none⟩ x2).setCell ⟨g, 3, none⟩ x3).setCell ⟨k, 0, none⟩ y0).setCell ⟨k, 1, none⟩ y1).setCell ⟨k, 2, none⟩ y2)
    AwSt w wy g #[x0, x1, x2, x3] A c ∧ Blk wy k 34 #[y0, y1, y2] ∧ OwnO w wy a s := by
  intro wy
  have k0 := H.b1
  have k1 := k0.set_ 0 x0
  have k2 := k1.set_ 1 x1
  have k3 := k2.set_ 2 x2
  have k4 := k3.set_ 3 x3
  have l0 := (((hk.set_other (i := 0) (u := x0) (b := g) (by omega)).set_other (i := 1) (u := x1) (b := g) (by omega)).set_other (i := 2) (u := x2) (b := g) (by omega)).set_other (i := 3) (u := x3) (b := g) (by omega)
  have l1 := l0.set_ 0 y0
  have l2 := l1.set_ 1 y1
  have l3 := l2.set_ 2 y2
  have q1 : 5 ≠ 32 := by decide
  have q2 : 22 ≠ 32 := by decide
  have q3 : 3 ≠ 32 := by decide
  have q4 : 42 ≠ 32 := by decide
  have r1 : 5 ≠ 34 := by decide
  have r2 : 22 ≠ 34 := by decide
  have r3 : 3 ≠ 34 := by decide
  have r4 : 42 ≠ 34 := by decide
  have hwk : w.heap.size ≤ k := by omega
  refine ⟨⟨((k4.set_other (i := 0) (u := y0) (b := k) (by omega)).set_other (i := 1) (u := y1) (b := k) (by omega)).set_other (i := 2) (u := y2) (b := k) (by omega), ?_,
    ((((((H.bel.setCell (p := ⟨g, 0, none⟩) hg _).setCell (p := ⟨g, 1, none⟩) hg _).setCell (p := ⟨g, 2, none⟩) hg _).setCell (p := ⟨g, 3, none⟩) hg _).setCell (p := ⟨k, 0, none⟩) hwk _).setCell (p := ⟨k, 1, none⟩) hwk _).setCell (p := ⟨k, 2, none⟩) hwk _⟩, l3,
    ((((((ho.set_t k0 q1 q2 q3 q4).set_t k1 q1 q2 q3 q4).set_t k2 q1 q2 q3 q4).set_t k3 q1 q2 q3 q4).set_t l0 r1 r2 r3 r4).set_t l1 r1 r2 r3 r4).set_t l2 r1 r2 r3 r4⟩
  exact ((((((H.b2.set_other (by omega)).set_other (by omega)).set_other (by omega)).set_other (by omega)).set_other (by omega)).set_other (by omega)).set_other (by omega)
set_option maxHeartbeats 4000000 in
set_option maxRecDepth 100000 in
theorem objsAwake (hA : ApplyC8) (hO : OkC8) (hS : SameC8) (hR : SameResC8) : AwakeC8 := by
  intro w
  have kc := const1
  obtain ⟨g, hg⟩ : ∃ g, w.heap.size = g := ⟨_, rfl⟩
  have hB0 : Below w.heap.size w (w.alloc (.cells #[.int .u8 97] 5 (1, 2))) := (Below.refl _ _).alloc (Nat.le_refl _) _
  have hr97 : Rd (w.alloc (.cells #[.int .u8 97] 5 (1, 2))) (w.heap.size + 1) (some ⟨w.heap.size, 0, none⟩) 1 (bv [97]) := Rd.made w #[.int .u8 97] 5 (1, 2) 1 rfl
  have h1 := hA (W := w) (w := w.alloc (.cells #[.int .u8 97] 5 (1, 2))) (a := ⟨none, 0, none, 0, none, 0, none, 0⟩) (ca := ⟨none, 0, some ⟨w.heap.size, 0, none⟩, 1, none, 0⟩) (s := ⟨[], [], [], []⟩) (c := ⟨2, 0, [], [97], []⟩) Ob.Inv.nil (cm_fits (.inr rfl)) (RdO.nil _ 0) ⟨Rd.none_ _ _ _, hr97, Rd.none_ _ _ _⟩ hB0
  rw [show Ob.apply ⟨[], [], [], []⟩ ⟨2, 0, [], [97], []⟩ = ⟨⟨[97], [], [], []⟩, 0, [], 0⟩ from rfl] at h1
  have H1 := Lib.hid h1
  have i1 : Ob.Inv ⟨[97], [], [], []⟩ := ⟨by simp, by simp, by simp, by simp, by intro l h; simp at h, by simp, by simp, Mp.Inv.nil⟩
  have I1 := Lib.hid i1
  clear h1 hB0 hr97 hg i1
  go_enter Try.func9, Try.ntmps9
  go_upto_region 2 with (first
    | (go_at_call 7; refine H1.out.mono ?_; rintro e w1 ⟨a1, A1, c1, he1, ho1, hv1, hB1, hb1⟩
       have he2 : e = .returned (.tuple #[.agg #[.slice a1.A0 1 a1.c0, .slice a1.A1 0 a1.c1, .slice a1.A2 0 a1.c2, .slice a1.A3 0 a1.c3], .agg #[.int .i64 0, .slice A1 0 c1, .int .i64 0]]) := he1
       clear he1 hb1 hv1; subst he2)
    | fail)
  obtain ⟨g, hg⟩ : ∃ g, w1.heap.size = g := ⟨_, rfl⟩
  have b2 : Below w1.heap.size w1 ((w1.alloc (.cells #[.slice a1.A0 1 a1.c0, .slice a1.A1 0 a1.c1, .slice a1.A2 0 a1.c2, .slice a1.A3 0 a1.c3] 32)).alloc (.cells #[.int .i64 0, .slice A1 0 c1, .int .i64 0] 34)) := ((Below.refl _ _).alloc (Nat.le_refl _) _).alloc (by simp) _
  have HM1 : Hid (∃ (_ : w.heap.size ≤ g) (_ : OwnO w ((w1.alloc (.cells #[.slice a1.A0 1 a1.c0, .slice a1.A1 0 a1.c1, .slice a1.A2 0 a1.c2, .slice a1.A3 0 a1.c3] 32)).alloc (.cells #[.int .i64 0, .slice A1 0 c1, .int .i64 0] 34)) a1 ⟨[97], [], [], []⟩), AwSt w ((w1.alloc (.cells #[.slice a1.A0 1 a1.c0, .slice a1.A1 0 a1.c1, .slice a1.A2 0 a1.c2, .slice a1.A3 0 a1.c3] 32)).alloc (.cells #[.int .i64 0, .slice A1 0 c1, .int .i64 0] 34)) g #[.slice a1.A0 1 a1.c0, .slice a1.A1 0 a1.c1, .slice a1.A2 0 a1.c2, .slice a1.A3 0 a1.c3] A1 c1) := Lib.hid ⟨by have := hB1.size; omega, ho1.below b2, by
      subst hg
      refine ⟨(Blk.new _ _ _).alloc _, ?_, hB1.trans (b2.mono hB1.size)⟩
      have := Blk.new (w1.alloc (.cells #[.slice a1.A0 1 a1.c0, .slice a1.A1 0 a1.c1, .slice a1.A2 0 a1.c2, .slice a1.A3 0 a1.c3] 32)) 34 #[.int .i64 0, .slice A1 0 c1, .int .i64 0]
      rwa [World.size_alloc] at this⟩
  rw [hg]
  obtain ⟨wz, hwz⟩ : ∃ x, (w1.alloc (.cells #[.slice a1.A0 1 a1.c0, .slice a1.A1 0 a1.c1, .slice a1.A2 0 a1.c2, .slice a1.A3 0 a1.c3] 32)).alloc (.cells #[.int .i64 0, .slice A1 0 c1, .int .i64 0] 34) = x := ⟨_, rfl⟩
  rw [hwz] at HM1 ⊢
  clear hwz b2 ho1 hB1 hg kc
  obtain ⟨hgw, ho, hst⟩ := HM1.out
  have h2 := hA (W := w) (w := wz) (a := a1) (ca := ⟨none, 0, none, 0, none, 0⟩) (s := ⟨[97], [], [], []⟩) (c := ⟨6, 7, [], [], []⟩) I1.out (cm_fits (.inl rfl)) ho.rd (rdC_nil _ _ _) hst.bel
  rw [show Ob.apply ⟨[97], [], [], []⟩ ⟨6, 7, [], [], []⟩ = ⟨⟨[97], [], [7], []⟩, 0, [], 0⟩ from rfl] at h2
  have H2 := Lib.hid h2
  obtain ⟨x0, x1, x2, x3, f0, f1, f2, f3⟩ := four hst.b1
  clear h2 ho hst
  go_upto_region 3 with (first
    | (go_at_call 7; refine H2.out.mono ?_; rintro e w2 ⟨a2, A2, c2, he1, ho2, hv2, hB2, hb2⟩
       have he2 : e = .returned (.tuple #[.agg #[.slice a2.A0 1 a2.c0, .slice a2.A1 0 a2.c1, .slice a2.A2 1 a2.c2, .slice a2.A3 0 a2.c3], .agg #[.int .i64 0, .slice A2 0 c2, .int .i64 0]]) := he1
       have hst2 := (HM1.out.2.2.below hb2).below ((Below.refl w2.heap.size w2).alloc (Nat.le_refl _) (.cells zeroR 34))
       obtain ⟨x0, x1, x2, x3, f0, f1, f2, f3⟩ := four hst2.b1
       have hgl := (HM1.out.2.2.below hb2).b2.lt
       obtain ⟨k, hk⟩ : ∃ k, w2.heap.size = k := ⟨_, rfl⟩
       have n1 : g ≠ k := by omega
       have n2 : k ≠ g := by omega
       have HK : Hid (Blk (w2.alloc (.cells zeroR 34)) k 34 zeroR) := Lib.hid (by subst hk; exact Blk.new _ _ _)
       obtain ⟨z0, z1, z2, d0, d1, d2⟩ := three HK.out
       have HK' := Lib.hid hk
       have HGL := Lib.hid hgl
       have HST2 := Lib.hid hst2
       have HO2 := Lib.hid (ho2.below ((Below.refl w2.heap.size w2).alloc (Nat.le_refl _) (.cells zeroR 34)))
       clear he1 hv2 hgl hst2 ho2 hB2 hb2; subst he2)
    | fail)
  have hp := aw_put HST2.out HM1.out.1 HK.out (by have h1 := HGL.out; have h2 := HK'.out; omega) HO2.out (.slice a2.A0 1 a2.c0) (.slice a2.A1 0 a2.c1) (.slice a2.A2 1 a2.c2) (.slice a2.A3 0 a2.c3) (.int .i64 0) (.slice A2 0 c2) (.int .i64 0)
  simp only at hp
  obtain ⟨wz2, hwz2⟩ : ∃ x, (((((((w2.alloc (.cells zeroR 34)).setCell ⟨g, 0, none⟩ (.slice a2.A0 1 a2.c0)).setCell ⟨g, 1, none⟩ (.slice a2.A1 0 a2.c1)).setCell ⟨g, 2, none⟩ (.slice a2.A2 1 a2.c2)).setCell ⟨g, 3, none⟩ (.slice a2.A3 0 a2.c3)).setCell ⟨k, 0, none⟩ (.int .i64 0)).setCell ⟨k, 1, none⟩ (.slice A2 0 c2)).setCell ⟨k, 2, none⟩ (.int .i64 0) = x := ⟨_, rfl⟩
  rw [hwz2] at hp ⊢
  have HM2 := Lib.hid hp
  have HW1 := Lib.hid HM1.out.1
  clear hwz2 HM1 HST2 HK HK' HO2 HGL x0 x1 x2 x3 f0 f1 f2 f3 z0 z1 z2 d0 d1 d2 hp n1 n2
  have i2 : Ob.Inv ⟨[97], [], [7], []⟩ := ⟨by simp, by simp, by simp, by simp, by intro l h; simp at h, by simp, by simp, Mp.Inv.nil⟩
  have I2 := Lib.hid i2
  clear i2
  have h3 := hA (W := w) (w := wz2) (a := a2) (ca := ⟨none, 0, none, 0, none, 0⟩) (s := ⟨[97], [], [7], []⟩) (c := ⟨0, 0, [], [], []⟩) I2.out (cm_fits (.inl rfl)) HM2.out.2.2.rd (rdC_nil _ _ _) HM2.out.1.bel
  rw [show Ob.apply ⟨[97], [], [7], []⟩ ⟨0, 0, [], [], []⟩ = ⟨⟨[97], [], [7], []⟩, 7, [], 0⟩ from rfl] at h3
  have H3 := Lib.hid h3
  obtain ⟨x0, x1, x2, x3, f0, f1, f2, f3⟩ := four HM2.out.1.b1
  clear h3
  go_upto_region 4 with (first
    | (go_at_call 7; refine H3.out.mono ?_; rintro e w3 ⟨a3, A3, c3, he1, ho3, hv3, hB3, hb3⟩
       have he2 : e = .returned (.tuple #[.agg #[.slice a3.A0 1 a3.c0, .slice a3.A1 0 a3.c1, .slice a3.A2 1 a3.c2, .slice a3.A3 0 a3.c3], .agg #[.int .i64 7, .slice A3 0 c3, .int .i64 0]]) := he1
       clear he1 hv3 hB3 ho3; subst he2)
    | fail)
  have b3 : Below w3.heap.size w3 ((w3.alloc (.cells #[.slice a3.A0 1 a3.c0, .slice a3.A1 0 a3.c1, .slice a3.A2 1 a3.c2, .slice a3.A3 0 a3.c3] 32)).alloc (.cells #[.int .i64 7, .slice A3 0 c3, .int .i64 0] 34)) := ((Below.refl _ _).alloc (Nat.le_refl _) _).alloc (by simp) _
  have hbb := hb3.trans (b3.mono hb3.size)
  have hp := And.intro (HM2.out.1.below hbb) (And.intro (HM2.out.2.1.below hbb) (HM2.out.2.2.below hbb))
  have hr3 : Blk ((w3.alloc (.cells #[.slice a3.A0 1 a3.c0, .slice a3.A1 0 a3.c1, .slice a3.A2 1 a3.c2, .slice a3.A3 0 a3.c3] 32)).alloc (.cells #[.int .i64 7, .slice A3 0 c3, .int .i64 0] 34)) (w3.heap.size + 1) 34 #[.int .i64 7, .slice A3 0 c3, .int .i64 0] := by
    have := Blk.new (w3.alloc (.cells #[.slice a3.A0 1 a3.c0, .slice a3.A1 0 a3.c1, .slice a3.A2 1 a3.c2, .slice a3.A3 0 a3.c3] 32)) 34 #[.int .i64 7, .slice A3 0 c3, .int .i64 0]
    rwa [World.size_alloc] at this
  obtain ⟨wz3, hwz3⟩ : ∃ x, (w3.alloc (.cells #[.slice a3.A0 1 a3.c0, .slice a3.A1 0 a3.c1, .slice a3.A2 1 a3.c2, .slice a3.A3 0 a3.c3] 32)).alloc (.cells #[.int .i64 7, .slice A3 0 c3, .int .i64 0] 34) = x := ⟨_, rfl⟩
  obtain ⟨g3, hg3⟩ : ∃ x, w3.heap.size = x := ⟨_, rfl⟩
  rw [hwz3] at hp hr3 ⊢
  rw [hg3] at hr3 ⊢
  have HM3 := Lib.hid hp
  have HR3 := Lib.hid hr3
  clear hwz3 hg3 hp hr3 HM2 H3 b3 hbb hb3 x0 x1 x2 x3 f0 f1 f2 f3
  have h4 := hA (W := w) (w := wz3) (a := a2) (ca := ⟨none, 0, none, 0, none, 0⟩) (s := ⟨[97], [], [7], []⟩) (c := ⟨6, 1000, [], [], []⟩) I2.out (cm_fits (.inl rfl)) HM3.out.2.2.rd (rdC_nil _ _ _) HM3.out.1.bel
  rw [show Ob.apply ⟨[97], [], [7], []⟩ ⟨6, 1000, [], [], []⟩ = ⟨⟨[97], [], [7], []⟩, 7, [], 0⟩ from rfl] at h4
  have H4 := Lib.hid h4
  obtain ⟨x0, x1, x2, x3, f0, f1, f2, f3⟩ := four HM3.out.1.b1
  clear h4
  go_upto_region 5 with (first
    | (go_at_call 7; refine H4.out.mono ?_; rintro e w4 ⟨a4, A4, c4, he1, ho4, hv4, hB4, hb4⟩
       have he2 : e = .returned (.tuple #[.agg #[.slice a4.A0 1 a4.c0, .slice a4.A1 0 a4.c1, .slice a4.A2 1 a4.c2, .slice a4.A3 0 a4.c3], .agg #[.int .i64 7, .slice A4 0 c4, .int .i64 0]]) := he1
       clear he1 hv4 hB4 ho4; subst he2)
    | fail)
  have b4 : Below w4.heap.size w4 ((w4.alloc (.cells #[.slice a4.A0 1 a4.c0, .slice a4.A1 0 a4.c1, .slice a4.A2 1 a4.c2, .slice a4.A3 0 a4.c3] 32)).alloc (.cells #[.int .i64 7, .slice A4 0 c4, .int .i64 0] 34)) := ((Below.refl _ _).alloc (Nat.le_refl _) _).alloc (by simp) _
  have hbb := hb4.trans (b4.mono hb4.size)
  have hp := And.intro (HM3.out.1.below hbb) (And.intro (HM3.out.2.1.below hbb) (HM3.out.2.2.below hbb))
  have hr3 := HR3.out.below hbb
  have hr4 : Blk ((w4.alloc (.cells #[.slice a4.A0 1 a4.c0, .slice a4.A1 0 a4.c1, .slice a4.A2 1 a4.c2, .slice a4.A3 0 a4.c3] 32)).alloc (.cells #[.int .i64 7, .slice A4 0 c4, .int .i64 0] 34)) (w4.heap.size + 1) 34 #[.int .i64 7, .slice A4 0 c4, .int .i64 0] := by
    have := Blk.new (w4.alloc (.cells #[.slice a4.A0 1 a4.c0, .slice a4.A1 0 a4.c1, .slice a4.A2 1 a4.c2, .slice a4.A3 0 a4.c3] 32)) 34 #[.int .i64 7, .slice A4 0 c4, .int .i64 0]
    rwa [World.size_alloc] at this
  obtain ⟨wz4, hwz4⟩ : ∃ x, (w4.alloc (.cells #[.slice a4.A0 1 a4.c0, .slice a4.A1 0 a4.c1, .slice a4.A2 1 a4.c2, .slice a4.A3 0 a4.c3] 32)).alloc (.cells #[.int .i64 7, .slice A4 0 c4, .int .i64 0] 34) = x := ⟨_, rfl⟩
  obtain ⟨g4, hg4⟩ : ∃ x, w4.heap.size = x := ⟨_, rfl⟩
  rw [hwz4] at hp hr3 hr4 ⊢
  rw [hg4] at hr4 ⊢
  have HM4 := Lib.hid hp
  have HR4 := Lib.hid (And.intro hr3 hr4)
  clear hwz4 hg4 hp hr3 hr4 HM3 HR3 H4 b4 hbb hb4 x0 x1 x2 x3 f0 f1 f2 f3
  have p1 : (strB [97] == ⟨#[97]⟩) = true := by decide
  have p2 : ((strB [97]).toList == [97]) = true := by rw [ByteArray.toList_eq]; decide
  have k1 := fun w (h : OwnO w wz4 a2 ⟨[97], [], [7], []⟩) => str_of (n := 1) (c := a2.c0) h.rd.r0
  have k1 := k1 w HM4.out.2.2
  obtain ⟨x0, x1, x2, x3, _, _, _, _⟩ := four HM4.out.1.b1
  obtain ⟨y0, y1, y2, _, _, _⟩ := three HM4.out.1.b2
  obtain ⟨z0, z1, z2, _, _, _⟩ := three HM4.out.2.1
  obtain ⟨v0, v1, v2, _, _, _⟩ := three HR4.out.1
  obtain ⟨t0, t1, t2, _, _, _⟩ := three HR4.out.2
  have O1 : ∀ w, Calls Try.prog 8 #[.agg #[.int .i64 5, .int .i64 0, .slice none 0 0, .slice none 0 0, .slice none 0 0]] w fun e w' => e = .returned (.bool true) ∧ Below w.heap.size w w' := fun w => hO w ⟨none, 0, none, 0, none, 0⟩ ⟨5, 0, [], [], []⟩
  have O2 : ∀ w, Calls Try.prog 8 #[.agg #[.int .i64 12, .int .i64 0, .slice none 0 0, .slice none 0 0, .slice none 0 0]] w fun e w' => e = .returned (.bool false) ∧ Below w.heap.size w w' := fun w => hO w ⟨none, 0, none, 0, none, 0⟩ ⟨12, 0, [], [], []⟩
  have S1 : ∀ wx, OwnO w wx a2 ⟨[97], [], [7], []⟩ → Calls Try.prog 14 #[.agg #[.slice a2.A0 1 a2.c0, .slice a2.A1 0 a2.c1, .slice a2.A2 1 a2.c2, .slice a2.A3 0 a2.c3], .agg #[.slice a2.A0 1 a2.c0, .slice a2.A1 0 a2.c1, .slice a2.A2 1 a2.c2, .slice a2.A3 0 a2.c3]] wx fun e w' => e = .returned (.bool true) ∧ Below wx.heap.size wx w' := fun wx h => hS wx I2.out I2.out h.rd h.rd
  have S2 : ∀ wx, OwnO w wx a2 ⟨[97], [], [7], []⟩ → Calls Try.prog 14 #[.agg #[.slice a2.A0 1 a2.c0, .slice a2.A1 0 a2.c1, .slice a2.A2 1 a2.c2, .slice a2.A3 0 a2.c3], .agg #[.slice none 0 0, .slice none 0 0, .slice none 0 0, .slice none 0 0]] wx fun e w' => e = .returned (.bool false) ∧ Below wx.heap.size wx w' := fun wx h => hS wx (a' := ⟨none, 0, none, 0, none, 0, none, 0⟩) I2.out Ob.Inv.nil h.rd (RdO.nil _ 0)
  have R1 : ∀ wx, Calls Try.prog 16 #[.agg #[.int .i64 0, .slice A1 0 c1, .int .i64 0], .agg #[.int .i64 7, .slice A3 0 c3, .int .i64 0]] wx fun e w' => e = .returned (.bool false) ∧ Below wx.heap.size wx w' := fun wx => hR wx (l := []) (l' := []) 0 7 0 0 (by simp) (by simp) (Rd.none_ wx 0 _) (Rd.none_ wx 0 _)
  have P1 := Lib.hid O1
  have P2 := Lib.hid O2
  have P3 := Lib.hid S1
  have P4 := Lib.hid S2
  have P5 := Lib.hid R1
  clear O1 O2 S1 S2 R1
  go_wp2_with fail
  refine (P1.out _).mono ?_
  rintro e w5 ⟨rfl, hb5⟩
  go_wp2_with fail
  refine (P2.out _).mono ?_
  rintro e w6 ⟨rfl, hb6⟩
  have hb6' := hb5.trans (hb6.mono hb5.size)
  have HM6 := Lib.hid (HM4.out.1.below hb6')
  have HO6 := Lib.hid (HM4.out.2.2.below hb6')
  have HR6 := Lib.hid (HR4.out.1.below hb6')
  clear x0 x1 x2 x3 hb5 hb6 hb6' y0 y1 y2 z0 z1 z2 v0 v1 v2 t0 t1 t2 k1
  obtain ⟨x0, x1, x2, x3, _, _, _, _⟩ := four HM6.out.b1
  go_wp2_with fail
  refine (P3.out _ HO6.out).mono ?_
  rintro e w7 ⟨rfl, hb7⟩
  have HM7 := Lib.hid (HM6.out.below hb7)
  have HO7 := Lib.hid (HO6.out.below hb7)
  have HR7 := Lib.hid (HR6.out.below hb7)
  clear x0 x1 x2 x3 hb7
  obtain ⟨x0, x1, x2, x3, _, _, _, _⟩ := four HM7.out.b1
  go_wp2_with fail
  refine (P4.out _ HO7.out).mono ?_
  rintro e w8 ⟨rfl, hb8⟩
  have HM8 := Lib.hid (HM7.out.below hb8)
  have HR8 := Lib.hid (HR7.out.below hb8)
  clear x0 x1 x2 x3 hb8
  obtain ⟨y0, y1, y2, _, _, _⟩ := three HM8.out.b2
  obtain ⟨v0, v1, v2, _, _, _⟩ := three HR8.out
  go_wp2_with fail
  refine (P5.out _).mono ?_
  rintro e w9 ⟨rfl, hb9⟩
  go_wp2_with fail
  go_ret
  exact ⟨rfl, HM8.out.bel.trans (hb9.mono HM8.out.bel.size)⟩
end Go.Proofs.Ytclbhcbeocapgaa
