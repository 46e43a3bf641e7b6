/- MesgAwake2 -/
import Derived.Test.YtlfkgpllleogoaaMT26
namespace Go.Proofs.Ytlfkgpllleogoaa
open Go.RowKit
set_option linter.unusedVariables false
set_option maxHeartbeats 4000000 in
set_option maxRecDepth 100000 in
theorem mesgAwake (hE : EncodeC11) (hD : DecodeC11) (hS : SameC11) : AwakeC11 := by
  intro w
  have hz0 : Blk ((((w.alloc (.cells #[.int .i64 5, .int .i64 4] 3)).alloc (.cells #[.int .i64 5] 3)).alloc (.cells #[.int .i64 0, .int .i64 0, .int .i64 0, .int .i64 0, .int .i64 0, .int .i64 0, .bool false, .int .i64 0, .int .i64 0, .int .i64 0, .int .i64 0, .slice none 0 0, .int .i64 0, .int .i64 0, .slice none 0 0, .slice none 0 0, .int .i64 0, .int .i64 0, .int .i64 0, .int .i64 0, .int .i64 0, .slice none 0 0, .slice none 0 0, .slice none 0 0] 29))) (w.heap.size + 1 + 1) 29 #[.int .i64 0, .int .i64 0, .int .i64 0, .int .i64 0, .int .i64 0, .int .i64 0, .bool false, .int .i64 0, .int .i64 0, .int .i64 0, .int .i64 0, .slice none 0 0, .int .i64 0, .int .i64 0, .slice none 0 0, .slice none 0 0, .int .i64 0, .int .i64 0, .int .i64 0, .int .i64 0, .int .i64 0, .slice none 0 0, .slice none 0 0, .slice none 0 0] := by
    have := Blk.new ((w.alloc (.cells #[.int .i64 5, .int .i64 4] 3)).alloc (.cells #[.int .i64 5] 3)) 29 #[.int .i64 0, .int .i64 0, .int .i64 0, .int .i64 0, .int .i64 0, .int .i64 0, .bool false, .int .i64 0, .int .i64 0, .int .i64 0, .int .i64 0, .slice none 0 0, .int .i64 0, .int .i64 0, .slice none 0 0, .slice none 0 0, .int .i64 0, .int .i64 0, .int .i64 0, .int .i64 0, .int .i64 0, .slice none 0 0, .slice none 0 0, .slice none 0 0]
    rwa [World.size_alloc, World.size_alloc] at this
  have b1 : Blk ((((w.alloc (.cells #[.int .i64 5, .int .i64 4] 3)).alloc (.cells #[.int .i64 5] 3)).alloc (.cells #[.int .i64 0, .int .i64 0, .int .i64 0, .int .i64 0, .int .i64 0, .int .i64 0, .bool false, .int .i64 0, .int .i64 0, .int .i64 0, .int .i64 0, .slice none 0 0, .int .i64 0, .int .i64 0, .slice none 0 0, .slice none 0 0, .int .i64 0, .int .i64 0, .int .i64 0, .int .i64 0, .int .i64 0, .slice none 0 0, .slice none 0 0, .slice none 0 0] 29))) w.heap.size 3 #[.int .i64 5, .int .i64 4] := ((Blk.new _ _ _).alloc _).alloc _
  have b2 : Blk ((((w.alloc (.cells #[.int .i64 5, .int .i64 4] 3)).alloc (.cells #[.int .i64 5] 3)).alloc (.cells #[.int .i64 0, .int .i64 0, .int .i64 0, .int .i64 0, .int .i64 0, .int .i64 0, .bool false, .int .i64 0, .int .i64 0, .int .i64 0, .int .i64 0, .slice none 0 0, .int .i64 0, .int .i64 0, .slice none 0 0, .slice none 0 0, .int .i64 0, .int .i64 0, .int .i64 0, .int .i64 0, .int .i64 0, .slice none 0 0, .slice none 0 0, .slice none 0 0] 29))) (w.heap.size + 1) 3 #[.int .i64 5] := by
    have := (Blk.new (w.alloc (.cells #[.int .i64 5, .int .i64 4] 3)) 3 #[.int .i64 5]).alloc (.cells #[.int .i64 0, .int .i64 0, .int .i64 0, .int .i64 0, .int .i64 0, .int .i64 0, .bool false, .int .i64 0, .int .i64 0, .int .i64 0, .int .i64 0, .slice none 0 0, .int .i64 0, .int .i64 0, .slice none 0 0, .slice none 0 0, .int .i64 0, .int .i64 0, .int .i64 0, .int .i64 0, .int .i64 0, .slice none 0 0, .slice none 0 0, .slice none 0 0] 29)
    rwa [World.size_alloc] at this
  have hb0 : Below w.heap.size w ((((w.alloc (.cells #[.int .i64 5, .int .i64 4] 3)).alloc (.cells #[.int .i64 5] 3)).alloc (.cells #[.int .i64 0, .int .i64 0, .int .i64 0, .int .i64 0, .int .i64 0, .int .i64 0, .bool false, .int .i64 0, .int .i64 0, .int .i64 0, .int .i64 0, .slice none 0 0, .int .i64 0, .int .i64 0, .slice none 0 0, .slice none 0 0, .int .i64 0, .int .i64 0, .int .i64 0, .int .i64 0, .int .i64 0, .slice none 0 0, .slice none 0 0, .slice none 0 0] 29))) := (((Below.refl _ _).alloc (Nat.le_refl _) _).alloc (by rw [World.size_alloc]; omega) _).alloc (by rw [World.size_alloc, World.size_alloc]; omega) _
  have hbz : Below w.heap.size w (((((w.alloc (.cells #[.int .i64 5, .int .i64 4] 3)).alloc (.cells #[.int .i64 5] 3)).alloc (.cells #[.int .i64 0, .int .i64 0, .int .i64 0, .int .i64 0, .int .i64 0, .int .i64 0, .bool false, .int .i64 0, .int .i64 0, .int .i64 0, .int .i64 0, .slice none 0 0, .int .i64 0, .int .i64 0, .slice none 0 0, .slice none 0 0, .int .i64 0, .int .i64 0, .int .i64 0, .int .i64 0, .int .i64 0, .slice none 0 0, .slice none 0 0, .slice none 0 0] 29))).setRow (w.heap.size + 1 + 1) #[.int .i64 7, .int .i64 1, .int .i64 2, .int .i64 300, .int .i64 0, .int .i64 0, .bool false, .int .i64 0, .int .i64 0, .int .i64 0, .int .i64 0, .slice none 0 0, .int .i64 4, .int .i64 5, .slice (some ⟨w.heap.size, 0, none⟩) 2 2, .slice (some ⟨w.heap.size + 1, 0, none⟩) 1 1, .int .i64 0, .int .i64 0, .int .i64 0, .int .i64 0, .int .i64 0, .slice none 0 0, .slice none 0 0, .slice none 0 0]) := below_setRow hb0 (by omega) _
  have c1 := b1.row_other (g := w.heap.size + 1 + 1) (by omega) #[.int .i64 7, .int .i64 1, .int .i64 2, .int .i64 300, .int .i64 0, .int .i64 0, .bool false, .int .i64 0, .int .i64 0, .int .i64 0, .int .i64 0, .slice none 0 0, .int .i64 4, .int .i64 5, .slice (some ⟨w.heap.size, 0, none⟩) 2 2, .slice (some ⟨w.heap.size + 1, 0, none⟩) 1 1, .int .i64 0, .int .i64 0, .int .i64 0, .int .i64 0, .int .i64 0, .slice none 0 0, .slice none 0 0, .slice none 0 0]
  have c2 := b2.row_other (g := w.heap.size + 1 + 1) (by omega) #[.int .i64 7, .int .i64 1, .int .i64 2, .int .i64 300, .int .i64 0, .int .i64 0, .bool false, .int .i64 0, .int .i64 0, .int .i64 0, .int .i64 0, .slice none 0 0, .int .i64 4, .int .i64 5, .slice (some ⟨w.heap.size, 0, none⟩) 2 2, .slice (some ⟨w.heap.size + 1, 0, none⟩) 1 1, .int .i64 0, .int .i64 0, .int .i64 0, .int .i64 0, .int .i64 0, .slice none 0 0, .slice none 0 0, .slice none 0 0]
  have c3 := hz0.row #[.int .i64 7, .int .i64 1, .int .i64 2, .int .i64 300, .int .i64 0, .int .i64 0, .bool false, .int .i64 0, .int .i64 0, .int .i64 0, .int .i64 0, .slice none 0 0, .int .i64 4, .int .i64 5, .slice (some ⟨w.heap.size, 0, none⟩) 2 2, .slice (some ⟨w.heap.size + 1, 0, none⟩) 1 1, .int .i64 0, .int .i64 0, .int .i64 0, .int .i64 0, .int .i64 0, .slice none 0 0, .slice none 0 0, .slice none 0 0]
  have HZ := Lib.hid hz0
  clear b1 b2 hb0 hz0
  go_enter Try.func13, Try.ntmps13
  go_upto_region 2 with (first
    | (refine wpList_store_row rfl 29 (.tmp 1) (.tmp 9) rfl (w.heap.size + 1 + 1) #[.int .i64 7, .int .i64 1, .int .i64 2, .int .i64 300, .int .i64 0, .int .i64 0, .bool false, .int .i64 0, .int .i64 0, .int .i64 0, .int .i64 0, .slice none 0 0, .int .i64 4, .int .i64 5, .slice (some ⟨w.heap.size, 0, none⟩) 2 2, .slice (some ⟨w.heap.size + 1, 0, none⟩) 1 1, .int .i64 0, .int .i64 0, .int .i64 0, .int .i64 0, .int .i64 0, .slice none 0 0, .slice none 0 0, .slice none 0 0] rfl rfl 29 #[.int .i64 0, .int .i64 0, .int .i64 0, .int .i64 0, .int .i64 0, .int .i64 0, .bool false, .int .i64 0, .int .i64 0, .int .i64 0, .int .i64 0, .slice none 0 0, .int .i64 0, .int .i64 0, .slice none 0 0, .slice none 0 0, .int .i64 0, .int .i64 0, .int .i64 0, .int .i64 0, .int .i64 0, .slice none 0 0, .slice none 0 0, .slice none 0 0] HZ.out (by kernel_rfl) rfl (by kernel_rfl) ?_)
    | fail)
  clear HZ
  obtain ⟨h, hh⟩ : ∃ h, w.heap.size = h := ⟨_, rfl⟩
  generalize ((((w.alloc (.cells #[.int .i64 5, .int .i64 4] 3)).alloc (.cells #[.int .i64 5] 3)).alloc (.cells #[.int .i64 0, .int .i64 0, .int .i64 0, .int .i64 0, .int .i64 0, .int .i64 0, .bool false, .int .i64 0, .int .i64 0, .int .i64 0, .int .i64 0, .slice none 0 0, .int .i64 0, .int .i64 0, .slice none 0 0, .slice none 0 0, .int .i64 0, .int .i64 0, .int .i64 0, .int .i64 0, .int .i64 0, .slice none 0 0, .slice none 0 0, .slice none 0 0] 29))).setRow (w.heap.size + 1 + 1) #[.int .i64 7, .int .i64 1, .int .i64 2, .int .i64 300, .int .i64 0, .int .i64 0, .bool false, .int .i64 0, .int .i64 0, .int .i64 0, .int .i64 0, .slice none 0 0, .int .i64 4, .int .i64 5, .slice (some ⟨w.heap.size, 0, none⟩) 2 2, .slice (some ⟨w.heap.size + 1, 0, none⟩) 1 1, .int .i64 0, .int .i64 0, .int .i64 0, .int .i64 0, .int .i64 0, .slice none 0 0, .slice none 0 0, .slice none 0 0] = w1 at hbz c1 c2 c3 ⊢
  rw [hh] at c1 c2 c3 ⊢
  have HB := Lib.hid hbz
  have HK1 := Lib.hid c3
  obtain ⟨a1, ha1⟩ : ∃ a : GA, a = ⟨none, 0, some ⟨h, 0, none⟩, 2, some ⟨h + 1, 0, none⟩, 1, CA.zero⟩ := ⟨_, rfl⟩
  have r1 : RdT w1 3 (some ⟨h, 0, none⟩) 2 (iv [5, 4]) := ⟨rfl, fun _ => ⟨_, 0, _, rfl, c1, fun i hi => by match i, hi with | 0, _ => rfl | 1, _ => rfl⟩⟩
  have r2 : RdT w1 3 (some ⟨h + 1, 0, none⟩) 1 (iv [5]) := ⟨rfl, fun _ => ⟨_, 0, _, rfl, c2, fun i hi => by match i, hi with | 0, _ => rfl⟩⟩
  have hr1 : RdG w1 w1.heap.size a1 mesgA.M1 := by rw [ha1]; exact ⟨Rd.none_ _ _ _, r1.rd, r2.rd, RdC.zero _ _, ⟨Nat.le_refl _, by show (2 : Nat) ≤ maxLen; unfold maxLen; omega⟩, ⟨Nat.le_refl _, by show (1 : Nat) ≤ maxLen; unfold maxLen; omega⟩⟩
  have hv1 : msgV a1 mesgA.M1 = .agg #[.int .i64 7, .int .i64 1, .int .i64 2, .int .i64 300, .int .i64 0, .int .i64 0, .bool false, .int .i64 0, .int .i64 0, .int .i64 0, .int .i64 0, .slice none 0 0, .int .i64 4, .int .i64 5, .slice (some ⟨h, 0, none⟩) 2 2, .slice (some ⟨h + 1, 0, none⟩) 1 1, .int .i64 0, .int .i64 0, .int .i64 0, .int .i64 0, .int .i64 0, .slice none 0 0, .slice none 0 0, .slice none 0 0] := by rw [ha1]; rfl
  have hsz : h + 1 + 1 < w1.heap.size := c3.lt
  have HR1 := Lib.hid hr1
  have HV1 := Lib.hid hv1
  have C1 : Hid (Calls Try.prog 16 #[.agg #[.int .i64 7, .int .i64 1, .int .i64 2, .int .i64 300, .int .i64 0, .int .i64 0, .bool false, .int .i64 0, .int .i64 0, .int .i64 0, .int .i64 0, .slice none 0 0, .int .i64 4, .int .i64 5, .slice (some ⟨h, 0, none⟩) 2 2, .slice (some ⟨h + 1, 0, none⟩) 1 1, .int .i64 0, .int .i64 0, .int .i64 0, .int .i64 0, .int .i64 0, .slice none 0 0, .slice none 0 0, .slice none 0 0]] w1 (GotIn w1 w1 [7, 1, 2, 172, 2, 4, 5, 2, 5, 4, 1, 5])) := Lib.hid (by rw [← hv1]; exact hE.is mesgA.e1 mesgA.w1 hr1 (Below.refl _ _))
  have HSZ := Lib.hid hsz
  clear hbz c1 c2 c3 r1 r2 hr1 ha1 hv1 hh hsz
  go_upto_region 3 with (first
    | (refine wpList_load_row rfl 29 (.tmp 1) rfl (h + 1 + 1) rfl 29 #[.int .i64 7, .int .i64 1, .int .i64 2, .int .i64 300, .int .i64 0, .int .i64 0, .bool false, .int .i64 0, .int .i64 0, .int .i64 0, .int .i64 0, .slice none 0 0, .int .i64 4, .int .i64 5, .slice (some ⟨h, 0, none⟩) 2 2, .slice (some ⟨h + 1, 0, none⟩) 1 1, .int .i64 0, .int .i64 0, .int .i64 0, .int .i64 0, .int .i64 0, .slice none 0 0, .slice none 0 0, .slice none 0 0] (0, 0) _ HK1.out Try.underlying29 rfl (by kernel_rfl) ?_)
    | (go_at_call 16; refine C1.out.mono ?_; rintro e w2 ⟨A2, c2, he, ho2, hB2, hb2⟩
       have he2 : e = .returned (.slice A2 12 c2) := he
       clear he
       subst he2
       have ho2' : OwnB w1 w2 A2 12 c2 [7, 1, 2, 172, 2, 4, 5, 2, 5, 4, 1, 5] := ho2
       have HO2 := Lib.hid ho2'
       have HB2 := Lib.hid hB2
       clear ho2 ho2' hB2 hb2 C1)
    | fail)
  have C2 : Hid (Calls Try.prog 19 #[.slice A2 12 c2] w2 (GotG w2 w2 (some mesgA.M1))) := Lib.hid (hD.is mesgA.d1 (by decide) (by decide) (Rd.own_ HO2.out) (Below.refl _ _))
  go_upto_region 4 with (first
    | (go_at_call 19; refine C2.out.mono ?_; rintro e w3 ⟨a3, he, ho3, hB3, hb3⟩
       have he2 : e = .returned (.tuple #[.agg #[.int .i64 7, .int .i64 1, .int .i64 2, .int .i64 300, .int .i64 0, .int .i64 0, .bool false, .int .i64 0, .int .i64 0, .int .i64 0, .int .i64 0, .slice a3.Ad 0 a3.cd, .int .i64 4, .int .i64 5, .slice a3.Ah 2 a3.ch, .slice a3.An 1 a3.cn, .int .i64 0, .int .i64 0, .int .i64 0, .int .i64 0, .int .i64 0, .slice a3.c.Ak 0 a3.c.ck, .slice a3.c.Av 0 a3.c.cv, .slice a3.c.Ao 0 a3.c.co], .bool true]) := he
       clear he
       subst he2
       have ho3' : OwnG w2 w3 a3 mesgA.M1 := ho3
       have HO3 := Lib.hid ho3'
       have HB3 := Lib.hid hB3
       have HZ3 := Lib.hid (Blk.new w3 29 #[.int .i64 0, .int .i64 0, .int .i64 0, .int .i64 0, .int .i64 0, .int .i64 0, .bool false, .int .i64 0, .int .i64 0, .int .i64 0, .int .i64 0, .slice none 0 0, .int .i64 0, .int .i64 0, .slice none 0 0, .slice none 0 0, .int .i64 0, .int .i64 0, .int .i64 0, .int .i64 0, .int .i64 0, .slice none 0 0, .slice none 0 0, .slice none 0 0])
       clear ho3 ho3' hB3 hb3 C2)
    | (refine wpList_store_row rfl 29 (.tmp 3) (.tmp 15) rfl w3.heap.size #[.int .i64 7, .int .i64 1, .int .i64 2, .int .i64 300, .int .i64 0, .int .i64 0, .bool false, .int .i64 0, .int .i64 0, .int .i64 0, .int .i64 0, .slice a3.Ad 0 a3.cd, .int .i64 4, .int .i64 5, .slice a3.Ah 2 a3.ch, .slice a3.An 1 a3.cn, .int .i64 0, .int .i64 0, .int .i64 0, .int .i64 0, .int .i64 0, .slice a3.c.Ak 0 a3.c.ck, .slice a3.c.Av 0 a3.c.cv, .slice a3.c.Ao 0 a3.c.co] rfl rfl 29 #[.int .i64 0, .int .i64 0, .int .i64 0, .int .i64 0, .int .i64 0, .int .i64 0, .bool false, .int .i64 0, .int .i64 0, .int .i64 0, .int .i64 0, .slice none 0 0, .int .i64 0, .int .i64 0, .slice none 0 0, .slice none 0 0, .int .i64 0, .int .i64 0, .int .i64 0, .int .i64 0, .int .i64 0, .slice none 0 0, .slice none 0 0, .slice none 0 0] HZ3.out (by kernel_rfl) rfl (by kernel_rfl) ?_)
    | fail)
  have hb34 : Below w3.heap.size w3 ((w3.alloc (.cells #[.int .i64 0, .int .i64 0, .int .i64 0, .int .i64 0, .int .i64 0, .int .i64 0, .bool false, .int .i64 0, .int .i64 0, .int .i64 0, .int .i64 0, .slice none 0 0, .int .i64 0, .int .i64 0, .slice none 0 0, .slice none 0 0, .int .i64 0, .int .i64 0, .int .i64 0, .int .i64 0, .int .i64 0, .slice none 0 0, .slice none 0 0, .slice none 0 0] 29)).setRow w3.heap.size #[.int .i64 7, .int .i64 1, .int .i64 2, .int .i64 300, .int .i64 0, .int .i64 0, .bool false, .int .i64 0, .int .i64 0, .int .i64 0, .int .i64 0, .slice a3.Ad 0 a3.cd, .int .i64 4, .int .i64 5, .slice a3.Ah 2 a3.ch, .slice a3.An 1 a3.cn, .int .i64 0, .int .i64 0, .int .i64 0, .int .i64 0, .int .i64 0, .slice a3.c.Ak 0 a3.c.ck, .slice a3.c.Av 0 a3.c.cv, .slice a3.c.Ao 0 a3.c.co]) := below_setRow ((Below.refl _ _).alloc (Nat.le_refl _) _) (Nat.le_refl _) _
  have HK3 := Lib.hid (HZ3.out.row #[.int .i64 7, .int .i64 1, .int .i64 2, .int .i64 300, .int .i64 0, .int .i64 0, .bool false, .int .i64 0, .int .i64 0, .int .i64 0, .int .i64 0, .slice a3.Ad 0 a3.cd, .int .i64 4, .int .i64 5, .slice a3.Ah 2 a3.ch, .slice a3.An 1 a3.cn, .int .i64 0, .int .i64 0, .int .i64 0, .int .i64 0, .int .i64 0, .slice a3.c.Ak 0 a3.c.ck, .slice a3.c.Av 0 a3.c.cv, .slice a3.c.Ao 0 a3.c.co])
  obtain ⟨h3, hh3⟩ : ∃ h3, w3.heap.size = h3 := ⟨_, rfl⟩
  generalize (w3.alloc (.cells #[.int .i64 0, .int .i64 0, .int .i64 0, .int .i64 0, .int .i64 0, .int .i64 0, .bool false, .int .i64 0, .int .i64 0, .int .i64 0, .int .i64 0, .slice none 0 0, .int .i64 0, .int .i64 0, .slice none 0 0, .slice none 0 0, .int .i64 0, .int .i64 0, .int .i64 0, .int .i64 0, .int .i64 0, .slice none 0 0, .slice none 0 0, .slice none 0 0] 29)).setRow w3.heap.size #[.int .i64 7, .int .i64 1, .int .i64 2, .int .i64 300, .int .i64 0, .int .i64 0, .bool false, .int .i64 0, .int .i64 0, .int .i64 0, .int .i64 0, .slice a3.Ad 0 a3.cd, .int .i64 4, .int .i64 5, .slice a3.Ah 2 a3.ch, .slice a3.An 1 a3.cn, .int .i64 0, .int .i64 0, .int .i64 0, .int .i64 0, .int .i64 0, .slice a3.c.Ak 0 a3.c.ck, .slice a3.c.Av 0 a3.c.cv, .slice a3.c.Ao 0 a3.c.co] = w4 at hb34 HK3 ⊢
  have HO3 := Lib.hid (HO3.out.below hb34)
  have HB24 : Hid (Below w2.heap.size w2 w4) := Lib.hid (HB3.out.trans (hb34.mono HB3.out.size))
  rw [hh3] at HK3 ⊢
  clear hb34 HZ3 HB3 hh3
  have bb : Below w4.heap.size w4 (w4.alloc (.cells #[.int .u8 0] 5)) := (Below.refl _ _).alloc (Nat.le_refl _) _
  have HO4 : Hid (OwnB w1 (w4.alloc (.cells #[.int .u8 0] 5)) A2 12 c2 [7, 1, 2, 172, 2, 4, 5, 2, 5, 4, 1, 5]) := Lib.hid (own_below (own_below HO2.out HB24.out) bb)
  have HB4 : Hid (Below w1.heap.size w1 (w4.alloc (.cells #[.int .u8 0] 5))) := Lib.hid (HB2.out.trans ((HB24.out.trans (bb.mono HB24.out.size)).mono HB2.out.size))
  have HK4 := Lib.hid (HK3.out.alloc (.cells #[.int .u8 0] 5))
  have HO3 := Lib.hid (HO3.out.below bb)
  have HOLD : Hid (Old w2 (Value.slice A2 12 c2).ownBlock) := Lib.hid (own_row_old HO2.out (Nat.le_refl _))
  have y0 : (w4.alloc (.cells #[.int .u8 0] 5)).cell? ⟨w4.heap.size, 0, none⟩ = some (.int .u8 ((0 : Nat) : Int)) := (Blk.new w4 5 #[.int .u8 0]).cell 0
  have Y0 := Lib.hid y0
  clear bb HK3 y0
  go_upto_region 5 with (first
    | (at_builtin
       refine wpList_append_keep (W := w1) (y := 0) (k := w4.heap.size) rfl (.tmp 18) (.tmp 19) rfl rfl HO4.out rfl Y0.out (by omega) HB4.out ?_
       intro A5 c5 w5 hown5 hrd5 hB5 hg5
       have HO5 := Lib.hid hown5
       have HR5 := Lib.hid hrd5
       have HB5 := Lib.hid hB5
       have HK5 := Lib.hid (HK4.out.apart_own HO4.out (by decide) hg5)
       have HO3 := Lib.hid (HO3.out.old hg5 HOLD.out)
       have C5 : Hid (Calls Try.prog 19 #[.slice A5 13 c5] w5 (GotG w5 w5 none)) := Lib.hid (hD.is mesgA.d2 (by decide) (by decide) (Rd.own_ hown5) (Below.refl _ _))
       clear hown5 hrd5 hB5 hg5 HO4 HB4 HK4 HOLD Y0)
    | (go_at_call 19; refine C5.out.mono ?_; rintro e w6 ⟨a6, he, ho6, hB6, hb6⟩
       have he2 : e = .returned (.tuple #[.agg #[.int .i64 0, .int .i64 0, .int .i64 0, .int .i64 0, .int .i64 0, .int .i64 0, .bool false, .int .i64 0, .int .i64 0, .int .i64 0, .int .i64 0, .slice a6.Ad 0 a6.cd, .int .i64 0, .int .i64 0, .slice a6.Ah 0 a6.ch, .slice a6.An 0 a6.cn, .int .i64 0, .int .i64 0, .int .i64 0, .int .i64 0, .int .i64 0, .slice a6.c.Ak 0 a6.c.ck, .slice a6.c.Av 0 a6.c.cv, .slice a6.c.Ao 0 a6.c.co], .bool false]) := he
       clear he
       subst he2
       have HB6 := Lib.hid hB6
       have HZ6 := Lib.hid (Blk.new w6 29 #[.int .i64 0, .int .i64 0, .int .i64 0, .int .i64 0, .int .i64 0, .int .i64 0, .bool false, .int .i64 0, .int .i64 0, .int .i64 0, .int .i64 0, .slice none 0 0, .int .i64 0, .int .i64 0, .slice none 0 0, .slice none 0 0, .int .i64 0, .int .i64 0, .int .i64 0, .int .i64 0, .int .i64 0, .slice none 0 0, .slice none 0 0, .slice none 0 0])
       clear ho6 hB6 hb6 C5)
    | (refine wpList_store_row rfl 29 (.tmp 5) (.tmp 22) rfl w6.heap.size #[.int .i64 0, .int .i64 0, .int .i64 0, .int .i64 0, .int .i64 0, .int .i64 0, .bool false, .int .i64 0, .int .i64 0, .int .i64 0, .int .i64 0, .slice a6.Ad 0 a6.cd, .int .i64 0, .int .i64 0, .slice a6.Ah 0 a6.ch, .slice a6.An 0 a6.cn, .int .i64 0, .int .i64 0, .int .i64 0, .int .i64 0, .int .i64 0, .slice a6.c.Ak 0 a6.c.ck, .slice a6.c.Av 0 a6.c.cv, .slice a6.c.Ao 0 a6.c.co] rfl rfl 29 #[.int .i64 0, .int .i64 0, .int .i64 0, .int .i64 0, .int .i64 0, .int .i64 0, .bool false, .int .i64 0, .int .i64 0, .int .i64 0, .int .i64 0, .slice none 0 0, .int .i64 0, .int .i64 0, .slice none 0 0, .slice none 0 0, .int .i64 0, .int .i64 0, .int .i64 0, .int .i64 0, .int .i64 0, .slice none 0 0, .slice none 0 0, .slice none 0 0] HZ6.out (by kernel_rfl) rfl (by kernel_rfl) ?_)
    | fail)
  have hb67 : Below w6.heap.size w6 ((w6.alloc (.cells #[.int .i64 0, .int .i64 0, .int .i64 0, .int .i64 0, .int .i64 0, .int .i64 0, .bool false, .int .i64 0, .int .i64 0, .int .i64 0, .int .i64 0, .slice none 0 0, .int .i64 0, .int .i64 0, .slice none 0 0, .slice none 0 0, .int .i64 0, .int .i64 0, .int .i64 0, .int .i64 0, .int .i64 0, .slice none 0 0, .slice none 0 0, .slice none 0 0] 29)).setRow w6.heap.size #[.int .i64 0, .int .i64 0, .int .i64 0, .int .i64 0, .int .i64 0, .int .i64 0, .bool false, .int .i64 0, .int .i64 0, .int .i64 0, .int .i64 0, .slice a6.Ad 0 a6.cd, .int .i64 0, .int .i64 0, .slice a6.Ah 0 a6.ch, .slice a6.An 0 a6.cn, .int .i64 0, .int .i64 0, .int .i64 0, .int .i64 0, .int .i64 0, .slice a6.c.Ak 0 a6.c.ck, .slice a6.c.Av 0 a6.c.cv, .slice a6.c.Ao 0 a6.c.co]) := below_setRow ((Below.refl _ _).alloc (Nat.le_refl _) _) (Nat.le_refl _) _
  generalize (w6.alloc (.cells #[.int .i64 0, .int .i64 0, .int .i64 0, .int .i64 0, .int .i64 0, .int .i64 0, .bool false, .int .i64 0, .int .i64 0, .int .i64 0, .int .i64 0, .slice none 0 0, .int .i64 0, .int .i64 0, .slice none 0 0, .slice none 0 0, .int .i64 0, .int .i64 0, .int .i64 0, .int .i64 0, .int .i64 0, .slice none 0 0, .slice none 0 0, .slice none 0 0] 29)).setRow w6.heap.size #[.int .i64 0, .int .i64 0, .int .i64 0, .int .i64 0, .int .i64 0, .int .i64 0, .bool false, .int .i64 0, .int .i64 0, .int .i64 0, .int .i64 0, .slice a6.Ad 0 a6.cd, .int .i64 0, .int .i64 0, .slice a6.Ah 0 a6.ch, .slice a6.An 0 a6.cn, .int .i64 0, .int .i64 0, .int .i64 0, .int .i64 0, .int .i64 0, .slice a6.c.Ak 0 a6.c.ck, .slice a6.c.Av 0 a6.c.cv, .slice a6.c.Ao 0 a6.c.co] = w7 at hb67 ⊢
  have hb57 : Below w5.heap.size w5 w7 := HB6.out.trans (hb67.mono HB6.out.size)
  have HB17 : Hid (Below w1.heap.size w1 w7) := Lib.hid (HB5.out.trans (hb57.mono HB5.out.size))
  have HK3 := Lib.hid (HK5.out.below hb57)
  have HR3 := Lib.hid ((HO3.out.rd).below hb57)
  have HRA := Lib.hid (HR5.out.below hb57)
  have HK1 := Lib.hid (HK1.out.below HB17.out)
  have HR1 := Lib.hid (HR1.out.below HB17.out)
  have SA : Hid (∀ wx, Below w7.heap.size w7 wx → Calls Try.prog 17 #[.agg #[.int .i64 7, .int .i64 1, .int .i64 2, .int .i64 300, .int .i64 0, .int .i64 0, .bool false, .int .i64 0, .int .i64 0, .int .i64 0, .int .i64 0, .slice a3.Ad 0 a3.cd, .int .i64 4, .int .i64 5, .slice a3.Ah 2 a3.ch, .slice a3.An 1 a3.cn, .int .i64 0, .int .i64 0, .int .i64 0, .int .i64 0, .int .i64 0, .slice a3.c.Ak 0 a3.c.ck, .slice a3.c.Av 0 a3.c.cv, .slice a3.c.Ao 0 a3.c.co], .agg #[.int .i64 7, .int .i64 1, .int .i64 2, .int .i64 300, .int .i64 0, .int .i64 0, .bool false, .int .i64 0, .int .i64 0, .int .i64 0, .int .i64 0, .slice none 0 0, .int .i64 4, .int .i64 5, .slice (some ⟨h, 0, none⟩) 2 2, .slice (some ⟨h + 1, 0, none⟩) 1 1, .int .i64 0, .int .i64 0, .int .i64 0, .int .i64 0, .int .i64 0, .slice none 0 0, .slice none 0 0, .slice none 0 0]] wx fun e w' => e = .returned (.bool true) ∧ Below wx.heap.size wx w') := Lib.hid (fun wx hb => by
    rw [← HV1.out]
    exact hS.is (a := a3) (m := mesgA.M1) (a' := a1) (m' := mesgA.M1) (b := true) wx (decide_eq_true rfl) mesgA.w1 mesgA.w1 (HR3.out.fit.below hb) (HR1.out.fit.below hb))
  have SB : Hid (∀ wx, Below w7.heap.size w7 wx → Calls Try.prog 17 #[.agg #[.int .i64 7, .int .i64 1, .int .i64 2, .int .i64 300, .int .i64 0, .int .i64 0, .bool false, .int .i64 0, .int .i64 0, .int .i64 0, .int .i64 0, .slice none 0 0, .int .i64 4, .int .i64 5, .slice (some ⟨h, 0, none⟩) 2 2, .slice (some ⟨h + 1, 0, none⟩) 1 1, .int .i64 0, .int .i64 0, .int .i64 0, .int .i64 0, .int .i64 0, .slice none 0 0, .slice none 0 0, .slice none 0 0], .agg #[.int .i64 0, .int .i64 0, .int .i64 0, .int .i64 0, .int .i64 0, .int .i64 0, .bool false, .int .i64 0, .int .i64 0, .int .i64 0, .int .i64 0, .slice none 0 0, .int .i64 0, .int .i64 0, .slice none 0 0, .slice none 0 0, .int .i64 0, .int .i64 0, .int .i64 0, .int .i64 0, .int .i64 0, .slice none 0 0, .slice none 0 0, .slice none 0 0]] wx fun e w' => e = .returned (.bool false) ∧ Below wx.heap.size wx w') := Lib.hid (fun wx hb => by
    rw [← HV1.out]
    exact hS.is (a := a1) (m := mesgA.M1) (a' := GA.zero) (m' := Mg.zero) (b := false) wx mesgA.n1 mesgA.w1 Mg.Wide.zero (HR1.out.fit.below hb) (RdG.zero wx wx.heap.size))
  have E0 : Hid (∀ wx, Calls Try.prog 16 #[.agg #[.int .i64 0, .int .i64 0, .int .i64 0, .int .i64 0, .int .i64 0, .int .i64 0, .bool false, .int .i64 0, .int .i64 0, .int .i64 0, .int .i64 0, .slice none 0 0, .int .i64 0, .int .i64 0, .slice none 0 0, .slice none 0 0, .int .i64 0, .int .i64 0, .int .i64 0, .int .i64 0, .int .i64 0, .slice none 0 0, .slice none 0 0, .slice none 0 0]] wx fun e w' => ∃ A c, e = .returned (.slice A 0 c) ∧ Below wx.heap.size wx w') := Lib.hid (fun wx => (hE.is (W := wx) (a := GA.zero) (m := Mg.zero) (l := []) mesgA.e0 Mg.Wide.zero (RdG.zero wx wx.heap.size) (Below.refl _ _)).mono fun e w' ⟨A, c, q1, _, q2, _⟩ => ⟨A, c, q1, q2⟩)
  have E7 : Hid (∀ wx, Calls Try.prog 16 #[.agg #[.int .i64 1, .int .i64 7, .int .i64 0, .int .i64 0, .int .i64 0, .int .i64 0, .bool false, .int .i64 0, .int .i64 0, .int .i64 0, .int .i64 0, .slice none 0 0, .int .i64 0, .int .i64 0, .slice none 0 0, .slice none 0 0, .int .i64 0, .int .i64 0, .int .i64 0, .int .i64 0, .int .i64 0, .slice none 0 0, .slice none 0 0, .slice none 0 0]] wx fun e w' => ∃ A c, e = .returned (.slice A 0 c) ∧ Below wx.heap.size wx w') := Lib.hid (fun wx => (hE.is (W := wx) (a := GA.zero) (m := mesgA.M7) (l := []) (B := wx.heap.size) mesgA.e7 mesgA.w7 ⟨Rd.none_ _ _ _, Rd.none_ _ _ _, Rd.none_ _ _ _, RdC.zero _ _, ⟨Nat.le_refl _, Nat.zero_le _⟩, ⟨Nat.le_refl _, Nat.zero_le _⟩⟩ (Below.refl _ _)).mono fun e w' ⟨A, c, q1, _, q2, _⟩ => ⟨A, c, q1, q2⟩)
  have hstr := awake_str (c := c2) HRA.out
  have e2 : (strB [7, 1, 2, 172, 2, 4, 5, 2, 5, 4, 1, 5] == ⟨#[7, 1, 2, 172, 2, 4, 5, 2, 5, 4, 1, 5]⟩) = true := by kernel_rfl
  have e3 : ((strB [7, 1, 2, 172, 2, 4, 5, 2, 5, 4, 1, 5]).toList == [7, 1, 2, 172, 2, 4, 5, 2, 5, 4, 1, 5]) = true := by kernel_rfl
  have HB7 := Lib.hid (HB.out.trans (HB17.out.mono HB.out.size))
  have hT : Hid (Below w7.heap.size w7 w7) := Lib.hid (Below.refl _ _)
  clear hb67 hb57 HB HB17 HO5 HR5 HRA HR1 HR3 HO3 HK5 HB2 HB24 HB5 HB6 HO2 HZ6 HV1 HSZ
  go_wp2_with (first
    | (refine wpList_load_rowG (by rfl) 29 (.tmp 3) rfl h3 rfl 29 #[.int .i64 7, .int .i64 1, .int .i64 2, .int .i64 300, .int .i64 0, .int .i64 0, .bool false, .int .i64 0, .int .i64 0, .int .i64 0, .int .i64 0, .slice a3.Ad 0 a3.cd, .int .i64 4, .int .i64 5, .slice a3.Ah 2 a3.ch, .slice a3.An 1 a3.cn, .int .i64 0, .int .i64 0, .int .i64 0, .int .i64 0, .int .i64 0, .slice a3.c.Ak 0 a3.c.ck, .slice a3.c.Av 0 a3.c.cv, .slice a3.c.Ao 0 a3.c.co] (0, 0) _ (HK3.out.below hT.out) Try.underlying29 rfl (by kernel_rfl) ?_)
    | (refine wpList_load_rowG (by rfl) 29 (.tmp 1) rfl (h + 1 + 1) rfl 29 #[.int .i64 7, .int .i64 1, .int .i64 2, .int .i64 300, .int .i64 0, .int .i64 0, .bool false, .int .i64 0, .int .i64 0, .int .i64 0, .int .i64 0, .slice none 0 0, .int .i64 4, .int .i64 5, .slice (some ⟨h, 0, none⟩) 2 2, .slice (some ⟨h + 1, 0, none⟩) 1 1, .int .i64 0, .int .i64 0, .int .i64 0, .int .i64 0, .int .i64 0, .slice none 0 0, .slice none 0 0, .slice none 0 0] (0, 0) _ (HK1.out.below hT.out) Try.underlying29 rfl (by kernel_rfl) ?_)
    | (go_at_call 17; refine (SA.out _ hT.out).mono ?_; rintro en w8 ⟨rfl, hb8⟩; have hT := Lib.hid (hT.out.trans (hb8.mono hT.out.size)); clear hb8 SA)
    | (go_at_call 16; refine (E0.out _).mono ?_; rintro en w8 ⟨A8, c8, rfl, hb8⟩; have hT := Lib.hid (hT.out.trans (hb8.mono hT.out.size)); clear hb8 E0)
    | (go_at_call 16; refine (E7.out _).mono ?_; rintro en w8 ⟨A8, c8, rfl, hb8⟩; have hT := Lib.hid (hT.out.trans (hb8.mono hT.out.size)); clear hb8 E7)
    | (go_at_call 17; refine (SB.out _ hT.out).mono ?_; rintro en w8 ⟨rfl, hb8⟩; have hT := Lib.hid (hT.out.trans (hb8.mono hT.out.size)); clear hb8 SB)
    | fail)
  go_ret
  exact ⟨rfl, HB7.out.trans (hT.out.mono HB7.out.size)⟩
end Go.Proofs.Ytlfkgpllleogoaa

