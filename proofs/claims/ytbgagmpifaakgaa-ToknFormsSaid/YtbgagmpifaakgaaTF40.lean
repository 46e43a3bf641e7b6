/- TknAwake -/
import Derived.Test.YtbgagmpifaakgaaTF15
import Derived.Test.YtbgagmpifaakgaaTF39
namespace Go.Proofs.Ytbgagmpifaakgaa
open Go.RowKit
set_option linter.unusedVariables false
theorem wp_region_app17 {P : Program} {id : Nat} {l m n : List Oper} {Q : Exit → Act → World → Prop} {a : Act} {w : World} (hn : l.append m = n) (h : wpList P n.toArray Q n a w) : (Code.region id (l.append m).toArray false).wp P Q a w := by
  rw [hn]; exact wp_region_lit h
def tF : Mg := { Mg.zero with kind := 7, view := 16, hop := 1, seq := 5, hav := [5, 5, 5] }
def tT : Mg := { Mg.zero with kind := 7, view := 16, hop := 4, seq := 9, hav := [7, 9, 8], nee := [8, 9] }
def tU : Mg := { Mg.zero with kind := 7, frm := 2, dst := 1, view := 16, hop := 5, seq := 11, hav := [8, 9, 8], nee := [9, 10] }
theorem tF_is : Tk.first 16 3 5 = tF := rfl
theorem tU_is : Tk.pass tT 2 0 1 8 2 [9] [9, 10] = tU := by decide
theorem tI_is : Tk.inn tT.nee [9] = [9] := by decide
theorem rd_new (w : World) (l : List Int) (cs : Array Value) (h : cs.toList = iv l) : Rd (w.alloc (.cells cs 3)) (w.alloc (.cells cs 3)).heap.size (some ⟨w.heap.size, 0, none⟩) l.length (iv l) := by
  have hl : cs.size = l.length := by rw [← Array.length_toList, h, iv_length]
  have := Rd.made w cs 3 (0, 0) l.length hl
  rw [h] at this
  exact this.fit
theorem rd_alloc {w : World} {A : Option Addr} {n : Nat} {vs : List Value} (h : Rd w w.heap.size A n vs) (o : Obj) : Rd (w.alloc o) (w.alloc o).heap.size A n vs := (h.below ((Below.refl _ _).alloc (Nat.le_refl _) o)).fit
structure AwT (w wx : World) (g1 g2 : Nat) (a1 a2 : GA) (A9 : Option Addr) : Prop where
  k1 : Blk wx g1 29 (msgC a1 tF)
  k2 : Blk wx g2 29 (msgC a2 tU)
  h1 : Rd wx wx.heap.size a1.Ah 3 (iv [5, 5, 5])
  h2 : Rd wx wx.heap.size a2.Ah 3 (iv [8, 9, 8])
  n2 : Rd wx wx.heap.size a2.An 2 (iv [9, 10])
  i : Rd wx wx.heap.size A9 1 (iv [9])
  b : Below w.heap.size w wx
theorem AwT.below {w wx wy : World} {g1 g2 : Nat} {a1 a2 : GA} {A9 : Option Addr} (h : AwT w wx g1 g2 a1 a2 A9) (hb : Below wx.heap.size wx wy) : AwT w wy g1 g2 a1 a2 A9 :=
  ⟨h.k1.below hb, h.k2.below hb, (h.h1.below hb).fit, (h.h2.below hb).fit, (h.n2.below hb).fit, (h.i.below hb).fit, h.b.trans (hb.mono h.b.size)⟩
theorem AwT.alloc {w wx : World} {g1 g2 : Nat} {a1 a2 : GA} {A9 : Option Addr} (h : AwT w wx g1 g2 a1 a2 A9) (o : Obj) : AwT w (wx.alloc o) g1 g2 a1 a2 A9 := h.below ((Below.refl _ _).alloc (Nat.le_refl _) o)
theorem AwT.drewN {w wx : World} {g1 g2 : Nat} {a1 a2 : GA} {A9 : Option Addr} (h : AwT w wx g1 g2 a1 a2 A9) (k : Nat) : AwT w (wx.drewN k) g1 g2 a1 a2 A9 := h.below (belowN9 (Below.refl _ _) k)
set_option maxHeartbeats 4000000 in
set_option maxRecDepth 100000 in
theorem awake17 (w : World) : Calls Try.prog 11 #[] w fun e w' => e = .returned (.bool true) ∧ Below w.heap.size w w' := by
  go_enter Try.func11, Try.ntmps11
  go_upto_region 1 with fail
  go_wp2_with fail
  have CF := Lib.hid (first17 w 16 3 5)
  rw [tF_is] at CF
  refine CF.out.mono ?_
  rintro e w1 ⟨a1, rfl, ho1, hB1, hb1⟩
  have HO1 := Lib.hid ho1
  have HB1 := Lib.hid hb1
  clear ho1 hB1 hb1 CF
  have e1 : msgV a1 tF = .agg #[.int .i64 7, .int .i64 0, .int .i64 0, .int .i64 16, .int .i64 0, .int .i64 0, .bool false, .int .i64 0, .int .i64 0, .int .i64 0, .int .i64 0, .slice a1.Ad 0 a1.cd, .int .i64 1, .int .i64 5, .slice a1.Ah 3 a1.ch, .slice a1.An 0 a1.cn, .int .i64 0, .int .i64 0, .int .i64 0, .int .i64 0, .int .i64 0, .slice a1.c.Ak 0 a1.c.ck, .slice a1.c.Av 0 a1.c.cv, .slice a1.c.Ao 0 a1.c.co] := rfl
  rw [e1]
  clear e1
  go_upto_region 2 with (first
    | (refine wpList_store_row rfl 29 (.tmp 1) (.tmp 4) rfl w1.heap.size #[.int .i64 7, .int .i64 0, .int .i64 0, .int .i64 16, .int .i64 0, .int .i64 0, .bool false, .int .i64 0, .int .i64 0, .int .i64 0, .int .i64 0, .slice a1.Ad 0 a1.cd, .int .i64 1, .int .i64 5, .slice a1.Ah 3 a1.ch, .slice a1.An 0 a1.cn, .int .i64 0, .int .i64 0, .int .i64 0, .int .i64 0, .int .i64 0, .slice a1.c.Ak 0 a1.c.ck, .slice a1.c.Av 0 a1.c.cv, .slice a1.c.Ao 0 a1.c.co] rfl rfl 29 #[.int .i64 0, .int .i64 0, .int .i64 0, .int .i64 0, .int .i64 0, .int .i64 0, .bool false, .int .i64 0, .int .i64 0, .int .i64 0, .int .i64 0, .slice none 0 0, .int .i64 0, .int .i64 0, .slice none 0 0, .slice none 0 0, .int .i64 0, .int .i64 0, .int .i64 0, .int .i64 0, .int .i64 0, .slice none 0 0, .slice none 0 0, .slice none 0 0] (Blk.new w1 29 #[.int .i64 0, .int .i64 0, .int .i64 0, .int .i64 0, .int .i64 0, .int .i64 0, .bool false, .int .i64 0, .int .i64 0, .int .i64 0, .int .i64 0, .slice none 0 0, .int .i64 0, .int .i64 0, .slice none 0 0, .slice none 0 0, .int .i64 0, .int .i64 0, .int .i64 0, .int .i64 0, .int .i64 0, .slice none 0 0, .slice none 0 0, .slice none 0 0]) (by kernel_rfl) rfl (by kernel_rfl) ?_)
    | fail)
  obtain ⟨g1, w2, hgE, hwE, hbE, hkE⟩ := boxed w1 #[.int .i64 0, .int .i64 0, .int .i64 0, .int .i64 0, .int .i64 0, .int .i64 0, .bool false, .int .i64 0, .int .i64 0, .int .i64 0, .int .i64 0, .slice none 0 0, .int .i64 0, .int .i64 0, .slice none 0 0, .slice none 0 0, .int .i64 0, .int .i64 0, .int .i64 0, .int .i64 0, .int .i64 0, .slice none 0 0, .slice none 0 0, .slice none 0 0] #[.int .i64 7, .int .i64 0, .int .i64 0, .int .i64 16, .int .i64 0, .int .i64 0, .bool false, .int .i64 0, .int .i64 0, .int .i64 0, .int .i64 0, .slice a1.Ad 0 a1.cd, .int .i64 1, .int .i64 5, .slice a1.Ah 3 a1.ch, .slice a1.An 0 a1.cn, .int .i64 0, .int .i64 0, .int .i64 0, .int .i64 0, .int .i64 0, .slice a1.c.Ak 0 a1.c.ck, .slice a1.c.Av 0 a1.c.cv, .slice a1.c.Ao 0 a1.c.co] 29
  rw [hgE, hwE]
  have HK1 : Hid (Blk w2 g1 29 (msgC a1 tF)) := Lib.hid hkE
  have HR1 : Hid (Rd w2 w2.heap.size a1.Ah 3 (iv [5, 5, 5])) := Lib.hid (((Rd.own_ HO1.out.h).below hbE).fit)
  have HB2 : Hid (Below w.heap.size w w2) := Lib.hid (HB1.out.trans (hbE.mono HB1.out.size))
  clear hgE hwE hbE hkE HO1 HB1
  obtain ⟨B, hB⟩ : ∃ B, w2.heap.size = B := ⟨_, rfl⟩
  obtain ⟨w3, hw3⟩ : ∃ y, (((w2.alloc (.cells #[.int .i64 7, .int .i64 9, .int .i64 8] 3)).alloc (.cells #[.int .i64 8, .int .i64 9] 3)).alloc (.cells #[.int .i64 9] 3)).alloc (.cells #[.int .i64 9, .int .i64 10] 3) = y := ⟨_, rfl⟩
  have HR3 : Hid (Below w2.heap.size w2 w3 ∧ Rd w3 w3.heap.size (some ⟨B, 0, none⟩) 3 (iv [7, 9, 8]) ∧ Rd w3 w3.heap.size (some ⟨B + 1, 0, none⟩) 2 (iv [8, 9]) ∧ Rd w3 w3.heap.size (some ⟨B + 2, 0, none⟩) 1 (iv [9]) ∧ Rd w3 w3.heap.size (some ⟨B + 3, 0, none⟩) 2 (iv [9, 10])) := Lib.hid (by
    subst hB
    rw [← hw3]
    have q1 := rd_new w2 [7, 9, 8] #[.int .i64 7, .int .i64 9, .int .i64 8] rfl
    have q2 := rd_new (w2.alloc (.cells #[.int .i64 7, .int .i64 9, .int .i64 8] 3)) [8, 9] #[.int .i64 8, .int .i64 9] rfl
    have q3 := rd_new ((w2.alloc (.cells #[.int .i64 7, .int .i64 9, .int .i64 8] 3)).alloc (.cells #[.int .i64 8, .int .i64 9] 3)) [9] #[.int .i64 9] rfl
    have q4 := rd_new (((w2.alloc (.cells #[.int .i64 7, .int .i64 9, .int .i64 8] 3)).alloc (.cells #[.int .i64 8, .int .i64 9] 3)).alloc (.cells #[.int .i64 9] 3)) [9, 10] #[.int .i64 9, .int .i64 10] rfl
    simp only [World.size_alloc] at q2 q3 q4
    refine ⟨(((((Below.refl _ _).alloc (Nat.le_refl _) _).alloc (by simp) _).alloc (by simp; omega) _).alloc (by simp; omega) _), rd_alloc (rd_alloc (rd_alloc q1 _) _) _, ?_, ?_, ?_⟩
    · have := rd_alloc (rd_alloc (w := ((w2.alloc (.cells #[.int .i64 7, .int .i64 9, .int .i64 8] 3)).alloc (.cells #[.int .i64 8, .int .i64 9] 3))) (by simp only [World.size_alloc]; exact q2) (.cells #[.int .i64 9] 3)) (.cells #[.int .i64 9, .int .i64 10] 3); exact this
    · have := rd_alloc (w := (((w2.alloc (.cells #[.int .i64 7, .int .i64 9, .int .i64 8] 3)).alloc (.cells #[.int .i64 8, .int .i64 9] 3)).alloc (.cells #[.int .i64 9] 3))) (by simp only [World.size_alloc]; exact q3) (.cells #[.int .i64 9, .int .i64 10] 3); exact this
    · simp only [World.size_alloc]; exact q4)
  go_wp2_with fail
  try simp only [Nat.add_assoc, Nat.reduceAdd]
  have CP : Hid (Calls Try.prog 7 #[.agg #[.int .i64 7, .int .i64 0, .int .i64 0, .int .i64 16, .int .i64 0, .int .i64 0, .bool false, .int .i64 0, .int .i64 0, .int .i64 0, .int .i64 0, .slice none 0 0, .int .i64 4, .int .i64 9, .slice (some ⟨B, 0, none⟩) 3 3, .slice (some ⟨B + 1, 0, none⟩) 2 2, .int .i64 0, .int .i64 0, .int .i64 0, .int .i64 0, .int .i64 0, .slice none 0 0, .slice none 0 0, .slice none 0 0], .int .i64 2, .int .i64 0, .int .i64 1, .int .i64 8, .int .i64 2, .slice (some ⟨B + 2, 0, none⟩) 1 1, .slice (some ⟨B + 3, 0, none⟩) 2 2] w3 (GotP w3 w3 tU [9])) := Lib.hid (pass17 w3 (a := ⟨none, 0, some ⟨B, 0, none⟩, 3, some ⟨B + 1, 0, none⟩, 2, CA.zero⟩) (m := tT) 2 0 1 8 2 (has := [9]) (mis := [9, 10]) Cm.Fits.zero (by decide) (by decide) (by decide) ⟨Rd.none_ _ _ _, HR3.out.2.1, HR3.out.2.2.1, RdC.zero _ _, ⟨(by show 3 ≤ 3; omega), (by show 3 ≤ maxLen; decide)⟩, ⟨(by show 2 ≤ 2; omega), (by show 2 ≤ maxLen; decide)⟩⟩ HR3.out.2.2.2.1 HR3.out.2.2.2.2 (by decide) (by decide) (by decide) (by decide) (by decide) (by decide) tU_is tI_is)
  clear hB hw3
  refine CP.out.mono ?_
  rintro e w4 ⟨a2, A9, c9, rfl, ho4, hi4, hB4, hb4⟩
  have e2 : msgV a2 tU = .agg #[.int .i64 7, .int .i64 2, .int .i64 1, .int .i64 16, .int .i64 0, .int .i64 0, .bool false, .int .i64 0, .int .i64 0, .int .i64 0, .int .i64 0, .slice a2.Ad 0 a2.cd, .int .i64 5, .int .i64 11, .slice a2.Ah 3 a2.ch, .slice a2.An 2 a2.cn, .int .i64 0, .int .i64 0, .int .i64 0, .int .i64 0, .int .i64 0, .slice a2.c.Ak 0 a2.c.ck, .slice a2.c.Av 0 a2.c.cv, .slice a2.c.Ao 0 a2.c.co] := rfl
  have HB4 := Lib.hid ((HB2.out.trans (HR3.out.1.mono HB2.out.size)).trans (hb4.mono ((HB2.out.trans (HR3.out.1.mono HB2.out.size)).size)))
  have HK1 := Lib.hid ((HK1.out.below HR3.out.1).below hb4)
  have HR1 := Lib.hid (((HR1.out.below HR3.out.1).fit.below hb4).fit)
  have HO4 := Lib.hid ho4
  have HI4 := Lib.hid hi4
  rw [e2]
  clear ho4 hi4 hB4 hb4 e2 CP HR3
  go_upto_region 3 with (first
    | (refine wpList_store_row rfl 29 (.tmp 2) (.tmp 12) rfl w4.heap.size #[.int .i64 7, .int .i64 2, .int .i64 1, .int .i64 16, .int .i64 0, .int .i64 0, .bool false, .int .i64 0, .int .i64 0, .int .i64 0, .int .i64 0, .slice a2.Ad 0 a2.cd, .int .i64 5, .int .i64 11, .slice a2.Ah 3 a2.ch, .slice a2.An 2 a2.cn, .int .i64 0, .int .i64 0, .int .i64 0, .int .i64 0, .int .i64 0, .slice a2.c.Ak 0 a2.c.ck, .slice a2.c.Av 0 a2.c.cv, .slice a2.c.Ao 0 a2.c.co] rfl rfl 29 #[.int .i64 0, .int .i64 0, .int .i64 0, .int .i64 0, .int .i64 0, .int .i64 0, .bool false, .int .i64 0, .int .i64 0, .int .i64 0, .int .i64 0, .slice none 0 0, .int .i64 0, .int .i64 0, .slice none 0 0, .slice none 0 0, .int .i64 0, .int .i64 0, .int .i64 0, .int .i64 0, .int .i64 0, .slice none 0 0, .slice none 0 0, .slice none 0 0] (Blk.new w4 29 #[.int .i64 0, .int .i64 0, .int .i64 0, .int .i64 0, .int .i64 0, .int .i64 0, .bool false, .int .i64 0, .int .i64 0, .int .i64 0, .int .i64 0, .slice none 0 0, .int .i64 0, .int .i64 0, .slice none 0 0, .slice none 0 0, .int .i64 0, .int .i64 0, .int .i64 0, .int .i64 0, .int .i64 0, .slice none 0 0, .slice none 0 0, .slice none 0 0]) (by kernel_rfl) rfl (by kernel_rfl) ?_)
    | fail)
  obtain ⟨g2, w5, hgE, hwE, hbE, hkE⟩ := boxed w4 #[.int .i64 0, .int .i64 0, .int .i64 0, .int .i64 0, .int .i64 0, .int .i64 0, .bool false, .int .i64 0, .int .i64 0, .int .i64 0, .int .i64 0, .slice none 0 0, .int .i64 0, .int .i64 0, .slice none 0 0, .slice none 0 0, .int .i64 0, .int .i64 0, .int .i64 0, .int .i64 0, .int .i64 0, .slice none 0 0, .slice none 0 0, .slice none 0 0] #[.int .i64 7, .int .i64 2, .int .i64 1, .int .i64 16, .int .i64 0, .int .i64 0, .bool false, .int .i64 0, .int .i64 0, .int .i64 0, .int .i64 0, .slice a2.Ad 0 a2.cd, .int .i64 5, .int .i64 11, .slice a2.Ah 3 a2.ch, .slice a2.An 2 a2.cn, .int .i64 0, .int .i64 0, .int .i64 0, .int .i64 0, .int .i64 0, .slice a2.c.Ak 0 a2.c.ck, .slice a2.c.Av 0 a2.c.cv, .slice a2.c.Ao 0 a2.c.co] 29
  try simp only [hgE, hwE]
  have HA : Hid (AwT w w5 g1 g2 a1 a2 A9) := Lib.hid ⟨HK1.out.below hbE, hkE, (HR1.out.below hbE).fit, ((Rd.own_ HO4.out.h).below hbE).fit, ((Rd.own_ HO4.out.n).below hbE).fit, ((Rd.own_ HI4.out).below hbE).fit, HB4.out.trans (hbE.mono HB4.out.size)⟩
  clear hgE hwE hbE hkE HB4 HK1 HR1 HO4 HI4 HB2
  refine wp_region_app17 (by simp only [List.append_eq, List.cons_append, List.nil_append]; exact rfl) ?_
  have c14 := HA.out.k1.cell 14
  simp [msgC, tF] at c14
  go_wp2_with fail
  refine (same_any (w5.alloc (.cells #[.int .i64 5, .int .i64 5, .int .i64 5] 3)) a1.Ah (some ⟨w5.heap.size, 0, none⟩) 3 a1.ch 3 3 _ _ [5, 5, 5] [5, 5, 5] (HA.out.alloc _).h1 (rd_new w5 [5, 5, 5] #[.int .i64 5, .int .i64 5, .int .i64 5] rfl) (by decide) (by decide)).mono ?_
  rintro e w6 ⟨rfl, k6, hk6⟩
  have HA : Hid (AwT w w6 g1 g2 a1 a2 A9) := Lib.hid (by rw [hk6]; exact (HA.out.alloc _).drewN _)
  clear hk6
  simp only [decide_true]
  clear c14
  have c12 := HA.out.k1.cell 12
  simp [msgC, tF] at c12
  have c13 := HA.out.k1.cell 13
  simp [msgC, tF] at c13
  have c3 := HA.out.k1.cell 3
  simp [msgC, tF] at c3
  go_wp2_with (first
    | (refine wpList_load_rowV (by rfl) 29 (.tmp 1) rfl g1 rfl 29 #[.int .i64 7, .int .i64 0, .int .i64 0, .int .i64 16, .int .i64 0, .int .i64 0, .bool false, .int .i64 0, .int .i64 0, .int .i64 0, .int .i64 0, .slice a1.Ad 0 a1.cd, .int .i64 1, .int .i64 5, .slice a1.Ah 3 a1.ch, .slice a1.An 0 a1.cn, .int .i64 0, .int .i64 0, .int .i64 0, .int .i64 0, .int .i64 0, .slice a1.c.Ak 0 a1.c.ck, .slice a1.c.Av 0 a1.c.cv, .slice a1.c.Ao 0 a1.c.co] (0, 0) _ HA.out.k1 Try.underlying29 rfl (by kernel_rfl) ?_)
    | fail)
  have CS : Hid (Calls Try.prog 8 #[.agg #[.int .i64 7, .int .i64 0, .int .i64 0, .int .i64 16, .int .i64 0, .int .i64 0, .bool false, .int .i64 0, .int .i64 0, .int .i64 0, .int .i64 0, .slice a1.Ad 0 a1.cd, .int .i64 1, .int .i64 5, .slice a1.Ah 3 a1.ch, .slice a1.An 0 a1.cn, .int .i64 0, .int .i64 0, .int .i64 0, .int .i64 0, .int .i64 0, .slice a1.c.Ak 0 a1.c.ck, .slice a1.c.Av 0 a1.c.cv, .slice a1.c.Ao 0 a1.c.co]] w6 fun e w' => e = .returned (.int .i64 5) ∧ Below w6.heap.size w6 w') := Lib.hid (safe17 (a := a1) (m := tF) w6 (by decide) HA.out.h1 (by show 3 ≤ 100000; omega))
  refine CS.out.mono ?_
  rintro e w7 ⟨rfl, hb7⟩
  have HA := Lib.hid (HA.out.below hb7)
  clear hb7 CS
  clear c12 c13 c3
  go_wp2_with (first
    | (refine wpList_load_rowV (by rfl) 29 (.tmp 1) rfl g1 rfl 29 #[.int .i64 7, .int .i64 0, .int .i64 0, .int .i64 16, .int .i64 0, .int .i64 0, .bool false, .int .i64 0, .int .i64 0, .int .i64 0, .int .i64 0, .slice a1.Ad 0 a1.cd, .int .i64 1, .int .i64 5, .slice a1.Ah 3 a1.ch, .slice a1.An 0 a1.cn, .int .i64 0, .int .i64 0, .int .i64 0, .int .i64 0, .int .i64 0, .slice a1.c.Ak 0 a1.c.ck, .slice a1.c.Av 0 a1.c.cv, .slice a1.c.Ao 0 a1.c.co] (0, 0) _ HA.out.k1 Try.underlying29 rfl (by kernel_rfl) ?_)
    | fail)
  have CS : Hid (Calls Try.prog 9 #[.agg #[.int .i64 7, .int .i64 0, .int .i64 0, .int .i64 16, .int .i64 0, .int .i64 0, .bool false, .int .i64 0, .int .i64 0, .int .i64 0, .int .i64 0, .slice a1.Ad 0 a1.cd, .int .i64 1, .int .i64 5, .slice a1.Ah 3 a1.ch, .slice a1.An 0 a1.cn, .int .i64 0, .int .i64 0, .int .i64 0, .int .i64 0, .int .i64 0, .slice a1.c.Ak 0 a1.c.ck, .slice a1.c.Av 0 a1.c.cv, .slice a1.c.Ao 0 a1.c.co]] w7 fun e w' => e = .returned (.int .i64 4) ∧ Below w7.heap.size w7 w') := Lib.hid (room17 (a := a1) (m := tF) w7 (by decide) HA.out.h1 (by show 3 ≤ 100000; omega) (by decide) (by decide))
  refine CS.out.mono ?_
  rintro e w8 ⟨rfl, hb8⟩
  have HA := Lib.hid (HA.out.below hb8)
  clear hb8 CS
  go_wp2_with fail
  refine (same_any (w8.alloc (.cells #[.int .i64 9] 3)) A9 (some ⟨w8.heap.size, 0, none⟩) 1 c9 1 1 _ _ [9] [9] (HA.out.alloc _).i (rd_new w8 [9] #[.int .i64 9] rfl) (by decide) (by decide)).mono ?_
  rintro e w9 ⟨rfl, k9, hk9⟩
  have HA : Hid (AwT w w9 g1 g2 a1 a2 A9) := Lib.hid (by rw [hk9]; exact (HA.out.alloc _).drewN _)
  clear hk9
  simp only [decide_true]
  have c1 := HA.out.k2.cell 1
  simp [msgC, tU] at c1
  have c2 := HA.out.k2.cell 2
  simp [msgC, tU] at c2
  have c12 := HA.out.k2.cell 12
  simp [msgC, tU] at c12
  have c13 := HA.out.k2.cell 13
  simp [msgC, tU] at c13
  have c14 := HA.out.k2.cell 14
  simp [msgC, tU] at c14
  go_wp2_with fail
  refine (same_any (w9.alloc (.cells #[.int .i64 8, .int .i64 9, .int .i64 8] 3)) a2.Ah (some ⟨w9.heap.size, 0, none⟩) 3 a2.ch 3 3 _ _ [8, 9, 8] [8, 9, 8] (HA.out.alloc _).h2 (rd_new w9 [8, 9, 8] #[.int .i64 8, .int .i64 9, .int .i64 8] rfl) (by decide) (by decide)).mono ?_
  rintro e w10 ⟨rfl, k10, hk10⟩
  have HA : Hid (AwT w w10 g1 g2 a1 a2 A9) := Lib.hid (by rw [hk10]; exact (HA.out.alloc _).drewN _)
  clear hk10
  simp only [decide_true]
  clear c1 c2 c12 c13 c14
  have c15 := HA.out.k2.cell 15
  simp [msgC, tU] at c15
  go_wp2_with fail
  refine (same_any (w10.alloc (.cells #[.int .i64 9, .int .i64 10] 3)) a2.An (some ⟨w10.heap.size, 0, none⟩) 2 a2.cn 2 2 _ _ [9, 10] [9, 10] (HA.out.alloc _).n2 (rd_new w10 [9, 10] #[.int .i64 9, .int .i64 10] rfl) (by decide) (by decide)).mono ?_
  rintro e w11 ⟨rfl, k11, hk11⟩
  have HA : Hid (AwT w w11 g1 g2 a1 a2 A9) := Lib.hid (by rw [hk11]; exact (HA.out.alloc _).drewN _)
  clear hk11
  simp only [decide_true]
  clear c15
  go_wp2_with fail
  go_ret
  exact ⟨rfl, HA.out.b⟩
end Go.Proofs.Ytbgagmpifaakgaa

