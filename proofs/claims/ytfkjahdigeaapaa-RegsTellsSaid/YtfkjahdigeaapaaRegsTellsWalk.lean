/- RegsTells: the walk. -/
import Derived.Test.YtfkjahdigeaapaaRegsAwake
import Derived.Test.YtfkjahdigeaapaaRegsRef
import Derived.Deep.DeepCutAuto
namespace Go.Proofs.Ytfkjahdigeaapaa
open Go.RowKit
set_option linter.unusedVariables false
set_option maxHeartbeats 4000000 in
set_option maxRecDepth 100000 in
theorem regsTells_walk (a0 : Option Addr) (len0 cap0 : Nat) (z0 : List Int) (a1 : Option Addr) (len1 cap1 : Nat) (z1 : List Int) (a2 : Option Addr) (len2 cap2 : Nat) (z2 : List Int) (a3 : Bool) (w : World) (w0 : IsRow .u8 w a0 len0 cap0 z0) (w1 : IsRow .u8 w a1 len1 cap1 z1) (w2 : IsRow .u8 w a2 len2 cap2 z2) :
    Calls Try.prog 4 #[.slice a0 len0 cap0, .slice a1 len1 cap1, .slice a2 len2 cap2, .bool a3] w fun e w' => e = .returned (.bool true) ∧ Below w.heap.size w w' := by
  obtain ⟨l0, hl0, hr0, hle0, hcap0⟩ := w0.rd
  obtain ⟨l1, hl1, hr1, hle1, hcap1⟩ := w1.rd
  obtain ⟨l2, hl2, hr2, hle2, hcap2⟩ := w2.rd
  have hm0 : len0 ≤ 9223372036854775807 := Nat.le_trans hle0 hcap0
  have hm1 : len1 ≤ 9223372036854775807 := Nat.le_trans hle1 hcap1
  have hm2 : len2 ≤ 9223372036854775807 := Nat.le_trans hle2 hcap2
  have hB0 := Below.refl w.heap.size w
  clear w0 w1 w2 hcap0 hcap1 hcap2 hle0 hle1 hle2
  have H0 := Lib.hid hr0
  have H1 := Lib.hid hr1
  have H2 := Lib.hid hr2
  have L0 := Lib.hid hl0
  have L1 := Lib.hid hl1
  have L2 := Lib.hid hl2
  clear hr0 hr1 hr2 hl0 hl1 hl2
  by_cases hbig : 60 < len0 ∨ 60 < len1 ∨ 60 < len2
  · by_cases b0 : 60 < len0
    · go_enter Try.func4, Try.ntmps4
      go_wp2_with (go_at_call 8; refine (awake_any _).mono ?_; rintro e w1 ⟨rfl, hb⟩)
      go_ret
      exact ⟨rfl, hb⟩
    · by_cases b1 : 60 < len1
      · go_enter Try.func4, Try.ntmps4
        go_wp2_with (go_at_call 8; refine (awake_any _).mono ?_; rintro e w1 ⟨rfl, hb⟩)
        go_ret
        exact ⟨rfl, hb⟩
      · have b2 : 60 < len2 := by omega
        go_enter Try.func4, Try.ntmps4
        go_wp2_with (go_at_call 8; refine (awake_any _).mono ?_; rintro e w1 ⟨rfl, hb⟩)
        go_ret
        exact ⟨rfl, hb⟩
  · have b0 : ¬ 60 < len0 := by omega
    have b1 : ¬ 60 < len1 := by omega
    have b2 : ¬ 60 < len2 := by omega
    clear hbig
    have m0 : Lim 0 len0 := by unfold Lim; omega
    have m2 : Lim 0 len2 := by unfold Lim; omega
    go_enter Try.func4, Try.ntmps4
    go_upto_if 31 with fail
    go_cut [1] (fun s1 wx => ∃ (A : Option Addr) (n c : Nat) (l : List Nat), s1 = .slice A n c ∧ Rd wx wx.heap.size A n (bv l) ∧ (∀ x ∈ l, x < 256) ∧ Below w.heap.size w wx)
    case first =>
      cases a3
      · go_wp2
        go_meet
        exact ⟨_, _, _, _, rfl, H1.out, L1.out, hB0⟩
      · go_wp2_with (first
          | (at_builtin
             refine wpList_append_bytes (W := w) byteT (.tmp 32) (.tmp 33) rfl (by rfl) rfl (own_empty hB0 5) rfl ((H0.out).alloc (Nat.le_refl _) _) (by omega) (hB0.alloc (Nat.le_refl _) _) ?_
             intro A1 c1 w1 hown1 hr1 hB1
             simp only [Nat.zero_add, List.nil_append] at hown1 hr1)
          | fail)
        go_meet
        exact ⟨_, _, _, _, rfl, hr1, L0.out, hB1⟩
    case rest =>
      obtain ⟨A, n, c, l, rfl, hrl, hl, hB⟩ := hcut
      rename World => u
      have A0 := (H0.out.below hB).fit
      have A2 := (H2.out.below hB).fit
      have HHB := Lib.hid hB
      obtain ⟨aw, ew, haw, hW⟩ : ∃ (a : List Nat) (e : Int), (∀ x ∈ a, x < 256) ∧ ∀ w', Below u.heap.size u w' → Calls Try.prog 7 #[.slice a0 len0 cap0, .slice a2 len2 cap2] w' (GotSR u w' a e [] 0) ∧ Calls Try.prog 9 #[.slice a0 len0 cap0, .slice a2 len2 cap2] w' (GotSR u w' a e [] 0) :=
        ⟨_, _, by split <;> first | exact L0.out | exact L2.out, fun w' h => ⟨write_any m0 m2 (A0.below h) (A2.below h) h, refWrite_any m0 m2 (A0.below h) (A2.below h) h⟩⟩
      obtain ⟨ac, ec, vc, hac, hvc, hC⟩ : ∃ (a : List Nat) (e : Int) (v : List Nat), (∀ x ∈ a, x < 256) ∧ (∀ x ∈ v, x < 256) ∧ ∀ w', Below u.heap.size u w' → Calls Try.prog 6 #[.slice a0 len0 cap0, .slice A n c, .slice a2 len2 cap2] w' (GotSR u w' a e v 0) ∧ Calls Try.prog 10 #[.slice a0 len0 cap0, .slice A n c, .slice a2 len2 cap2] w' (GotSR u w' a e v 0) :=
        ⟨_, _, _, casS_lt l L0.out L2.out, casV_lt l2 l L0.out, fun w' h => ⟨cas_any m0 m2 L0.out hl (A0.below h) (A2.below h) (hrl.below h) h, refCas_any m0 m2 L0.out hl (A0.below h) (A2.below h) (hrl.below h) h⟩⟩
      have HR0 := Lib.hid (fun (w' : World) (h : Below u.heap.size u w') => A0.below h)
      have HW := Lib.hid hW
      have HC := Lib.hid hC
      have GW := Lib.hid haw
      have GC := Lib.hid hac
      have GV := Lib.hid hvc
      clear hW hC haw hac hvc A0 A2 hrl hl hB
      go_wp2_with fail
      refine ((HW.out _ (Below.refl _ _)).1).mono ?_
      rintro e w1 ⟨A1, c1, A2, c2, rfl, ho1, ho2, hB1, _⟩
      unfold resV
      go_wp2_with fail
      refine ((HW.out _ (hB1.alloc hB1.size _)).2).mono ?_
      rintro e w2 ⟨A3, c3, A4, c4, rfl, ho3, ho4, hB2, hb2⟩
      unfold resV
      go_wp2_with fail
      refine ((HC.out _ (hB2.alloc hB2.size _)).1).mono ?_
      rintro e w3 ⟨A5, c5, A6, c6, rfl, ho5, ho6, hB3, hb3⟩
      unfold resV
      go_wp2_with fail
      refine ((HC.out _ (hB3.alloc hB3.size _)).2).mono ?_
      rintro e w4 ⟨A7, c7, A8, c8, rfl, ho7, ho8, hB4, hb4⟩
      unfold resV
      have f4 : Below w4.heap.size w4 (w4.alloc (.cells #[.int .i64 ec, .slice A8 vc.length c8, .int .i64 0] 27)) := (Below.refl _ _).alloc (Nat.le_refl _) _
      have g3 := hb4.trans (f4.mono hb4.size)
      have f3 := ((Below.refl w3.heap.size w3).alloc (Nat.le_refl _) (.cells #[.int .i64 ec, .slice A6 vc.length c6, .int .i64 0] 27)).trans (g3.mono (by simp))
      have g2 := hb3.trans (f3.mono hb3.size)
      have f2 := ((Below.refl w2.heap.size w2).alloc (Nat.le_refl _) (.cells #[.int .i64 ew, .slice A4 0 c4, .int .i64 0] 27)).trans (g2.mono (by simp))
      have g1 := hb2.trans (f2.mono hb2.size)
      have f1 := ((Below.refl w1.heap.size w1).alloc (Nat.le_refl _) (.cells #[.int .i64 ew, .slice A2 0 c2, .int .i64 0] 27)).trans (g1.mono (by simp))
      have hBx := hB4.trans (f4.mono hB4.size)
      have K1 := (Blk.new w1 27 #[.int .i64 ew, .slice A2 0 c2, .int .i64 0]).below g1
      have K2 := (Blk.new w2 27 #[.int .i64 ew, .slice A4 0 c4, .int .i64 0]).below g2
      have K3 := (Blk.new w3 27 #[.int .i64 ec, .slice A6 vc.length c6, .int .i64 0]).below g3
      have K4 := Blk.new w4 27 #[.int .i64 ec, .slice A8 vc.length c8, .int .i64 0]
      have R1 := (Rd.own_ ho1).below f1
      have R2 := (Rd.own_ ho2).below f1
      have R3 := (Rd.own_ ho3).below f2
      have R4 := (Rd.own_ ho4).below f2
      have R5 := (Rd.own_ ho5).below f3
      have R6 := (Rd.own_ ho6).below f3
      have R7 := (Rd.own_ ho7).below f4
      have R8 := (Rd.own_ ho8).below f4
      clear f1 f2 f3 f4 g1 g2 g3 hb2 hb3 hb4 ho1 ho2 ho3 ho4 ho5 ho6 ho7 ho8 hB1 hB2 hB3 hB4 HW HC
      have s1 := str_of (c := c1) R1
      have s3 := str_of (c := c3) R3
      obtain ⟨x0, x1, x2, _, _, _⟩ := three K1
      obtain ⟨y0, y1, y2, _, _, _⟩ := three K2
      have HX := Lib.hid (And.intro hBx (And.intro R2 (And.intro R4 (And.intro R5.fit (And.intro R6.fit (And.intro R7.fit (And.intro R8.fit (And.intro K3 K4))))))))
      have q1 : ((strB aw).toList == (strB aw).toList) = true := by simp
      have q2 : ((strB ac).toList == (strB ac).toList) = true := by simp
      have q3 : (strB aw == strB aw) = true := strB_self _
      have q4 : (strB ac == strB ac) = true := strB_self _
      clear hBx K1 K2 K3 K4 R1 R2 R3 R4 R5 R6 R7 R8
      go_wp2_with fail
      refine (same_is _ ew 0 (l := []) (by intro x hx; cases hx) HX.out.2.1 HX.out.2.2.1).mono ?_
      rintro e v1 ⟨rfl, j1⟩
      have s5 := str_of (c := c5) (HX.out.2.2.2.1.below j1)
      have s7 := str_of (c := c7) (HX.out.2.2.2.2.2.1.below j1)
      obtain ⟨x5, x6, x7, _, _, _⟩ := three (HX.out.2.2.2.2.2.2.2.1.below j1)
      obtain ⟨y5, y6, y7, _, _, _⟩ := three (HX.out.2.2.2.2.2.2.2.2.below j1)
      clear s1 s3 q1 q3 x0 x1 x2 y0 y1 y2
      go_wp2_with fail
      refine (same_is _ ec 0 GV.out (HX.out.2.2.2.2.1.below j1) (HX.out.2.2.2.2.2.2.1.below j1)).mono ?_
      rintro e v2 ⟨rfl, j2⟩
      have b2 := HX.out.1.trans ((j1.trans (j2.mono j1.size)).mono HX.out.1.size)
      clear s5 s7 q2 q4 x5 x6 x7 y5 y6 y7 HX j1 j2
      go_wp2_with fail
      refine (read_any (W := v2) m0 (HR0.out _ b2) (Below.refl _ _)).mono ?_
      rintro e v3 ⟨A9, c9, rfl, ho9, b3, _⟩
      unfold resV
      go_wp2_with fail
      refine (refRead_any (W := v3) m0 (HR0.out _ (b2.trans (b3.mono b2.size))) (Below.refl _ _)).mono ?_
      rintro e v4 ⟨A10, c10, rfl, ho10, b4, _⟩
      unfold resV
      go_wp2_with fail
      refine (same_is _ 0 0 L0.out ((Rd.own_ ho9).below b4) (Rd.own_ ho10)).mono ?_
      rintro e v5 ⟨rfl, b5⟩
      go_wp2_with fail
      refine (awake_any _).mono ?_
      rintro e v6 ⟨rfl, b6⟩
      go_wp2
      go_ret
      refine ⟨rfl, ?_⟩
      have b23 := b2.trans (b3.mono b2.size)
      have b24 := b23.trans (b4.mono b23.size)
      have b25 := b24.trans (b5.mono b24.size)
      have b26 := b25.trans (b6.mono b25.size)
      exact HHB.out.trans (b26.mono HHB.out.size)
end Go.Proofs.Ytfkjahdigeaapaa
