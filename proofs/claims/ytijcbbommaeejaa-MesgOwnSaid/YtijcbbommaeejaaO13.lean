/- MesgAwake2 SoftKit MesgOwnWalk -/
import Derived.Test.YtijcbbommaeejaaO01
import Derived.Test.YtijcbbommaeejaaO08
import Derived.Test.YtijcbbommaeejaaO11
import Derived.Test.YtijcbbommaeejaaO12
namespace Go.Proofs.Ytijcbbommaeejaa
open Go.RowKit
set_option linter.unusedVariables false
set_option maxHeartbeats 4000000 in
set_option maxRecDepth 100000 in
theorem mesgAwake (hE : EncodeC11) (hD : DecodeC11) (hS : SameC11) : AwakeC11 := by
  intro w
  have hz0 : Blk ((((w.alloc (.cells #[.int .i64 5, .int .i64 4] 3)).alloc (.cells #[.int .i64 5] 3)).alloc (.cells #[.int .i64 0, .int .i64 0, .int .i64 0, .int .i64 0, .int .i64 0, .int .i64 0, .bool false, .int .i64 0, .int .i64 0, .int .i64 0, .int .i64 0, .slice none 0 0, .int .i64 0, .int .i64 0, .slice none 0 0, .slice none 0 0, .int .i64 0, .int .i64 0, .int .i64 0, .int .i64 0, .int .i64 0, .slice none 0 0, .slice none 0 0, .slice none 0 0] 29))) (w.heap.size + 1 + 1) 29 #[.int .i64 0, .int .i64 0, .int .i64 0, .int .i64 0, .int .i64 0, .int .i64 0, .bool false, .int .i64 0, .int .i64 0, .int .i64 0, .int .i64 0, .slice none 0 0, .int .i64 0, .int .i64 0, .slice none 0 0, .slice none 0 0, .int .i64 0, .int .i64 0, .int .i64 0, .int .i64 0, .int .i64 0, .slice none 0 0, .slice none 0 0, .slice none 0 0] := by
    have := Blk.new ((w.alloc (.cells #[.int .i64 5, .int .i64 4] 3)).alloc (.cells #[.int .i64 5] 3)) 29 #[.int .i64 0, .int .i64 0, .int .i64 0, .int .i64 0, .int .i64 0, .int .i64 0, .bool false, .int .i64 0, .int .i64 0, .int .i64 0, .int .i64 0, .slice none 0 0, .int .i64 0, .int .i64 0, .slice none 0 0, .slice none 0 0, .int .i64 0, .int .i64 0, .int .i64 0, .int .i64 0, .int .i64 0, .slice none 0 0, .slice none 0 0, .slice none 0 0]
    rwa [World.size_alloc, World.size_alloc] at this
  have b1 : Blk ((((w.alloc (.cells #[.int .i64 5, .int .i64 4] 3)).alloc (.cells #[.int .i64 5] 3)).alloc (.cells #[.int .i64 0, .int .i64 0, .int .i64 0, .int .i64 0, .int .i64 0, .int .i64 0, .bool false, .int .i64 0, .int .i64 0, .int .i64 0, .int .i64 0, .slice none 0 0, .int .i64 0, .int .i64 0, .slice none 0 0, .slice none 0 0, .int .i64 0, .int .i64 0, .int .i64 0, .int .i64 0, .int .i64 0, .slice none 0 0, .slice none 0 0, .slice none 0 0] 29))) w.heap.size 3 #[.int .i64 5, .int .i64 4] := ((Blk.new _ _ _).alloc _).alloc _
  have b2 : Blk ((((w.alloc (.cells #[.int .i64 5, .int .i64 4] 3)).alloc (.cells #[.int .i64 5] 3)).alloc (.cells #[.int .i64 0, .int .i64 0, .int .i64 0, .int .i64 0, .int .i64 0, .int .i64 0, .bool false, .int .i64 0, .int .i64 0, .int .i64 0, .int .i64 0, .slice none 0 0, .int .i64 0, .int .i64 0, .slice none 0 0, .slice none 0 0, .int .i64 0, .int .i64 0, .int .i64 0, .int .i64 0, .int .i64 0, .slice none 0 0, .slice none 0 0, .slice none 0 0] 29))) (w.heap.size + 1) 3 #[.int .i64 5] := by
    have := (Blk.new (w.alloc (.cells #[.int .i64 5, .int .i64 4] 3)) 3 #[.int .i64 5]).alloc (.cells #[.int .i64 0, .int .i64 0, .int .i64 0, .int .i64 0, .int .i64 0, .int .i64 0, .bool false, .int .i64 0, .int .i64 0, .int .i64 0, .int .i64 0, .slice none 0 0, .int .i64 0, .int .i64 0, .slice none 0 0, .slice none 0 0, .int .i64 0, .int .i64 0, .int .i64 0, .int .i64 0, .int .i64 0, .slice none 0 0, .slice none 0 0, .slice none 0 0] 29)
    rwa [World.size_alloc] at this
  have hb0 : Below w.heap.size w ((((w.alloc (.cells #[.int .i64 5, .int .i64 4] 3)).alloc (.cells #[.int .i64 5] 3)).alloc (.cells #[.int .i64 0, .int .i64 0, .int .i64 0, .int .i64 0, .int .i64 0, .int .i64 0, .bool false, .int .i64 0, .int .i64 0, .int .i64 0, .int .i64 0, .slice none 0 0, .int .i64 0, .int .i64 0, .slice none 0 0, .slice none 0 0, .int .i64 0, .int .i64 0, .int .i64 0, .int .i64 0, .int .i64 0, .slice none 0 0, .slice none 0 0, .slice none 0 0] 29))) := (((Below.refl _ _).alloc (Nat.le_refl _) _).alloc (by rw [World.size_alloc]; omega) _).alloc (by rw [World.size_alloc, World.size_alloc]; omega) _
  have hbz : Below w.heap.size w (((((w.alloc (.cells #[.int .i64 5, .int .i64 4] 3)).alloc (.cells #[.int .i64 5] 3)).alloc (.cells #[.int .i64 0, .int .i64 0, .int .i64 0, .int .i64 0, .int .i64 0, .int .i64 0, .bool false, .int .i64 0, .int .i64 0, .int .i64 0, .int .i64 0, .slice none 0 0, .int .i64 0, .int .i64 0, .slice none 0 0, .slice none 0 0, .int .i64 0, .int .i64 0, .int .i64 0, .int .i64 0, .int .i64 0, .slice none 0 0, .slice none 0 0, .slice none 0 0] 29))).setRow (w.heap.size + 1 + 1) #[.int .i64 7, .int .i64 1, .int .i64 2, .int .i64 300, .int .i64 0, .int .i64 0, .bool false, .int .i64 0, .int .i64 0, .int .i64 0, .int .i64 0, .slice none 0 0, .int .i64 4, .int .i64 5, .slice (some ⟨w.heap.size, 0, none⟩) 2 2, .slice (some ⟨w.heap.size + 1, 0, none⟩) 1 1, .int .i64 0, .int .i64 0, .int .i64 0, .int .i64 0, .int .i64 0, .slice none 0 0, .slice none 0 0, .slice none 0 0]) := below_setRow hb0 (by omega) _
  have c1 := b1.row_other (g := w.heap.size + 1 + 1) (by omega) #[.int .i64 7, .int .i64 1, .int .i64 2, .int .i64 300, .int .i64 0, .int .i64 0, .bool false, .int .i64 0, .int .i64 0, .int .i64 0, .int .i64 0, .slice none 0 0, .int .i64 4, .int .i64 5, .slice (some ⟨w.heap.size, 0, none⟩) 2 2, .slice (some ⟨w.heap.size + 1, 0, none⟩) 1 1, .int .i64 0, .int .i64 0, .int .i64 0, .int .i64 0, .int .i64 0, .slice none 0 0, .slice none 0 0, .slice none 0 0]
  have c2 := b2.row_other (g := w.heap.size + 1 + 1) (by omega) #[.int .i64 7, .int .i64 1, .int .i64 2, .int .i64 300, .int .i64 0, .int .i64 0, .bool false, .int .i64 0, .int .i64 0, .int .i64 0, .int .i64 0, .slice none 0 0, .int .i64 4, .int .i64 5, .slice (some ⟨w.heap.size, 0, none⟩) 2 2, .slice (some ⟨w.heap.size + 1, 0, none⟩) 1 1, .int .i64 0, .int .i64 0, .int .i64 0, .int .i64 0, .int .i64 0, .slice none 0 0, .slice none 0 0, .slice none 0 0]
  have c3 := hz0.row #[.int .i64 7, .int .i64 1, .int .i64 2, .int .i64 300, .int .i64 0, .int .i64 0, .bool false, .int .i64 0, .int .i64 0, .int .i64 0, .int .i64 0, .slice none 0 0, .int .i64 4, .int .i64 5, .slice (some ⟨w.heap.size, 0, none⟩) 2 2, .slice (some ⟨w.heap.size + 1, 0, none⟩) 1 1, .int .i64 0, .int .i64 0, .int .i64 0, .int .i64 0, .int .i64 0, .slice none 0 0, .slice none 0 0, .slice none 0 0]
  have HZ := Lib.hid hz0
  clear b1 b2 hb0 hz0
  go_enter Try.func9, Try.ntmps9
  go_upto_region 2 with (first
    | (refine wpList_store_row rfl 29 (.tmp 1) (.tmp 9) rfl (w.heap.size + 1 + 1) #[.int .i64 7, .int .i64 1, .int .i64 2, .int .i64 300, .int .i64 0, .int .i64 0, .bool false, .int .i64 0, .int .i64 0, .int .i64 0, .int .i64 0, .slice none 0 0, .int .i64 4, .int .i64 5, .slice (some ⟨w.heap.size, 0, none⟩) 2 2, .slice (some ⟨w.heap.size + 1, 0, none⟩) 1 1, .int .i64 0, .int .i64 0, .int .i64 0, .int .i64 0, .int .i64 0, .slice none 0 0, .slice none 0 0, .slice none 0 0] rfl rfl 29 #[.int .i64 0, .int .i64 0, .int .i64 0, .int .i64 0, .int .i64 0, .int .i64 0, .bool false, .int .i64 0, .int .i64 0, .int .i64 0, .int .i64 0, .slice none 0 0, .int .i64 0, .int .i64 0, .slice none 0 0, .slice none 0 0, .int .i64 0, .int .i64 0, .int .i64 0, .int .i64 0, .int .i64 0, .slice none 0 0, .slice none 0 0, .slice none 0 0] HZ.out (by kernel_rfl) rfl (by kernel_rfl) ?_)
    | fail)
  clear HZ
  obtain ⟨h, hh⟩ : ∃ h, w.heap.size = h := ⟨_, rfl⟩
  generalize ((((w.alloc (.cells #[.int .i64 5, .int .i64 4] 3)).alloc (.cells #[.int .i64 5] 3)).alloc (.cells #[.int .i64 0, .int .i64 0, .int .i64 0, .int .i64 0, .int .i64 0, .int .i64 0, .bool false, .int .i64 0, .int .i64 0, .int .i64 0, .int .i64 0, .slice none 0 0, .int .i64 0, .int .i64 0, .slice none 0 0, .slice none 0 0, .int .i64 0, .int .i64 0, .int .i64 0, .int .i64 0, .int .i64 0, .slice none 0 0, .slice none 0 0, .slice none 0 0] 29))).setRow (w.heap.size + 1 + 1) #[.int .i64 7, .int .i64 1, .int .i64 2, .int .i64 300, .int .i64 0, .int .i64 0, .bool false, .int .i64 0, .int .i64 0, .int .i64 0, .int .i64 0, .slice none 0 0, .int .i64 4, .int .i64 5, .slice (some ⟨w.heap.size, 0, none⟩) 2 2, .slice (some ⟨w.heap.size + 1, 0, none⟩) 1 1, .int .i64 0, .int .i64 0, .int .i64 0, .int .i64 0, .int .i64 0, .slice none 0 0, .slice none 0 0, .slice none 0 0] = w1 at hbz c1 c2 c3 ⊢
  rw [hh] at c1 c2 c3 ⊢
  have HB := Lib.hid hbz
  have HK1 := Lib.hid c3
  obtain ⟨a1, ha1⟩ : ∃ a : GA, a = ⟨none, 0, some ⟨h, 0, none⟩, 2, some ⟨h + 1, 0, none⟩, 1, CA.zero⟩ := ⟨_, rfl⟩
  have r1 : RdT w1 3 (some ⟨h, 0, none⟩) 2 (iv [5, 4]) := ⟨rfl, fun _ => ⟨_, 0, _, rfl, c1, fun i hi => by match i, hi with | 0, _ => rfl | 1, _ => rfl⟩⟩
  have r2 : RdT w1 3 (some ⟨h + 1, 0, none⟩) 1 (iv [5]) := ⟨rfl, fun _ => ⟨_, 0, _, rfl, c2, fun i hi => by match i, hi with | 0, _ => rfl⟩⟩
  have hr1 : RdG w1 w1.heap.size a1 mesgA.M1 := by rw [ha1]; exact ⟨Rd.none_ _ _ _, r1.rd, r2.rd, RdC.zero _ _, ⟨Nat.le_refl _, by show (2 : Nat) ≤ maxLen; unfold maxLen; omega⟩, ⟨Nat.le_refl _, by show (1 : Nat) ≤ maxLen; unfold maxLen; omega⟩⟩
  have hv1 : msgV a1 mesgA.M1 = .agg #[.int .i64 7, .int .i64 1, .int .i64 2, .int .i64 300, .int .i64 0, .int .i64 0, .bool false, .int .i64 0, .int .i64 0, .int .i64 0, .int .i64 0, .slice none 0 0, .int .i64 4, .int .i64 5, .slice (some ⟨h, 0, none⟩) 2 2, .slice (some ⟨h + 1, 0, none⟩) 1 1, .int .i64 0, .int .i64 0, .int .i64 0, .int .i64 0, .int .i64 0, .slice none 0 0, .slice none 0 0, .slice none 0 0] := by rw [ha1]; rfl
  have hsz : h + 1 + 1 < w1.heap.size := c3.lt
  have HR1 := Lib.hid hr1
  have HV1 := Lib.hid hv1
  have C1 : Hid (Calls Try.prog 7 #[.agg #[.int .i64 7, .int .i64 1, .int .i64 2, .int .i64 300, .int .i64 0, .int .i64 0, .bool false, .int .i64 0, .int .i64 0, .int .i64 0, .int .i64 0, .slice none 0 0, .int .i64 4, .int .i64 5, .slice (some ⟨h, 0, none⟩) 2 2, .slice (some ⟨h + 1, 0, none⟩) 1 1, .int .i64 0, .int .i64 0, .int .i64 0, .int .i64 0, .int .i64 0, .slice none 0 0, .slice none 0 0, .slice none 0 0]] w1 (GotIn w1 w1 [7, 1, 2, 172, 2, 4, 5, 2, 5, 4, 1, 5])) := Lib.hid (by rw [← hv1]; exact hE.is mesgA.e1 mesgA.w1 hr1 (Below.refl _ _))
  have HSZ := Lib.hid hsz
  clear hbz c1 c2 c3 r1 r2 hr1 ha1 hv1 hh hsz
  go_upto_region 3 with (first
    | (refine wpList_load_row rfl 29 (.tmp 1) rfl (h + 1 + 1) rfl 29 #[.int .i64 7, .int .i64 1, .int .i64 2, .int .i64 300, .int .i64 0, .int .i64 0, .bool false, .int .i64 0, .int .i64 0, .int .i64 0, .int .i64 0, .slice none 0 0, .int .i64 4, .int .i64 5, .slice (some ⟨h, 0, none⟩) 2 2, .slice (some ⟨h + 1, 0, none⟩) 1 1, .int .i64 0, .int .i64 0, .int .i64 0, .int .i64 0, .int .i64 0, .slice none 0 0, .slice none 0 0, .slice none 0 0] (0, 0) _ HK1.out Try.underlying29 rfl (by kernel_rfl) ?_)
    | (go_at_call 7; refine C1.out.mono ?_; rintro e w2 ⟨A2, c2, he, ho2, hB2, hb2⟩
       have he2 : e = .returned (.slice A2 12 c2) := he
       clear he
       subst he2
       have ho2' : OwnB w1 w2 A2 12 c2 [7, 1, 2, 172, 2, 4, 5, 2, 5, 4, 1, 5] := ho2
       have HO2 := Lib.hid ho2'
       have HB2 := Lib.hid hB2
       clear ho2 ho2' hB2 hb2 C1)
    | fail)
  have C2 : Hid (Calls Try.prog 8 #[.slice A2 12 c2] w2 (GotG w2 w2 (some mesgA.M1))) := Lib.hid (hD.is mesgA.d1 (by decide) (by decide) (Rd.own_ HO2.out) (Below.refl _ _))
  go_upto_region 4 with (first
    | (go_at_call 8; refine C2.out.mono ?_; rintro e w3 ⟨a3, he, ho3, hB3, hb3⟩
       have he2 : e = .returned (.tuple #[.agg #[.int .i64 7, .int .i64 1, .int .i64 2, .int .i64 300, .int .i64 0, .int .i64 0, .bool false, .int .i64 0, .int .i64 0, .int .i64 0, .int .i64 0, .slice a3.Ad 0 a3.cd, .int .i64 4, .int .i64 5, .slice a3.Ah 2 a3.ch, .slice a3.An 1 a3.cn, .int .i64 0, .int .i64 0, .int .i64 0, .int .i64 0, .int .i64 0, .slice a3.c.Ak 0 a3.c.ck, .slice a3.c.Av 0 a3.c.cv, .slice a3.c.Ao 0 a3.c.co], .bool true]) := he
       clear he
       subst he2
       have ho3' : OwnG w2 w3 a3 mesgA.M1 := ho3
       have HO3 := Lib.hid ho3'
       have HB3 := Lib.hid hB3
       have HZ3 := Lib.hid (Blk.new w3 29 #[.int .i64 0, .int .i64 0, .int .i64 0, .int .i64 0, .int .i64 0, .int .i64 0, .bool false, .int .i64 0, .int .i64 0, .int .i64 0, .int .i64 0, .slice none 0 0, .int .i64 0, .int .i64 0, .slice none 0 0, .slice none 0 0, .int .i64 0, .int .i64 0, .int .i64 0, .int .i64 0, .int .i64 0, .slice none 0 0, .slice none 0 0, .slice none 0 0])
       clear ho3 ho3' hB3 hb3 C2)
    | (refine wpList_store_row rfl 29 (.tmp 3) (.tmp 15) rfl w3.heap.size #[.int .i64 7, .int .i64 1, .int .i64 2, .int .i64 300, .int .i64 0, .int .i64 0, .bool false, .int .i64 0, .int .i64 0, .int .i64 0, .int .i64 0, .slice a3.Ad 0 a3.cd, .int .i64 4, .int .i64 5, .slice a3.Ah 2 a3.ch, .slice a3.An 1 a3.cn, .int .i64 0, .int .i64 0, .int .i64 0, .int .i64 0, .int .i64 0, .slice a3.c.Ak 0 a3.c.ck, .slice a3.c.Av 0 a3.c.cv, .slice a3.c.Ao 0 a3.c.co] rfl rfl 29 #[.int .i64 0, .int .i64 0, .int .i64 0, .int .i64 0, .int .i64 0, .int .i64 0, .bool false, .int .i64 0, .int .i64 0, .int .i64 0, .int .i64 0, .slice none 0 0, .int .i64 0, .int .i64 0, .slice none 0 0, .slice none 0 0, .int .i64 0, .int .i64 0, .int .i64 0, .int .i64 0, .int .i64 0, .slice none 0 0, .slice none 0 0, .slice none 0 0] HZ3.out (by kernel_rfl) rfl (by kernel_rfl) ?_)
    | fail)
  have hb34 : Below w3.heap.size w3 ((w3.alloc (.cells #[.int .i64 0, .int .i64 0, .int .i64 0, .int .i64 0, .int .i64 0, .int .i64 0, .bool false, .int .i64 0, .int .i64 0, .int .i64 0, .int .i64 0, .slice none 0 0, .int .i64 0, .int .i64 0, .slice none 0 0, .slice none 0 0, .int .i64 0, .int .i64 0, .int .i64 0, .int .i64 0, .int .i64 0, .slice none 0 0, .slice none 0 0, .slice none 0 0] 29)).setRow w3.heap.size #[.int .i64 7, .int .i64 1, .int .i64 2, .int .i64 300, .int .i64 0, .int .i64 0, .bool false, .int .i64 0, .int .i64 0, .int .i64 0, .int .i64 0, .slice a3.Ad 0 a3.cd, .int .i64 4, .int .i64 5, .slice a3.Ah 2 a3.ch, .slice a3.An 1 a3.cn, .int .i64 0, .int .i64 0, .int .i64 0, .int .i64 0, .int .i64 0, .slice a3.c.Ak 0 a3.c.ck, .slice a3.c.Av 0 a3.c.cv, .slice a3.c.Ao 0 a3.c.co]) := below_setRow ((Below.refl _ _).alloc (Nat.le_refl _) _) (Nat.le_refl _) _
  have HK3 := Lib.hid (HZ3.out.row #[.int .i64 7, .int .i64 1, .int .i64 2, .int .i64 300, .int .i64 0, .int .i64 0, .bool false, .int .i64 0, .int .i64 0, .int .i64 0, .int .i64 0, .slice a3.Ad 0 a3.cd, .int .i64 4, .int .i64 5, .slice a3.Ah 2 a3.ch, .slice a3.An 1 a3.cn, .int .i64 0, .int .i64 0, .int .i64 0, .int .i64 0, .int .i64 0, .slice a3.c.Ak 0 a3.c.ck, .slice a3.c.Av 0 a3.c.cv, .slice a3.c.Ao 0 a3.c.co])
  obtain ⟨h3, hh3⟩ : ∃ h3, w3.heap.size = h3 := ⟨_, rfl⟩
  generalize (w3.alloc (.cells #[.int .i64 0, .int .i64 0, .int .i64 0, .int .i64 0, .int .i64 0, .int .i64 0, .bool false, .int .i64 0, .int .i64 0, .int .i64 0, .int .i64 0, .slice none 0 0, .int .i64 0, .int .i64 0, .slice none 0 0, .slice none 0 0, .int .i64 0, .int .i64 0, .int .i64 0, .int .i64 0, .int .i64 0, .slice none 0 0, .slice none 0 0, .slice none 0 0] 29)).setRow w3.heap.size #[.int .i64 7, .int .i64 1, .int .i64 2, .int .i64 300, .int .i64 0, .int .i64 0, .bool false, .int .i64 0, .int .i64 0, .int .i64 0, .int .i64 0, .slice a3.Ad 0 a3.cd, .int .i64 4, .int .i64 5, .slice a3.Ah 2 a3.ch, .slice a3.An 1 a3.cn, .int .i64 0, .int .i64 0, .int .i64 0, .int .i64 0, .int .i64 0, .slice a3.c.Ak 0 a3.c.ck, .slice a3.c.Av 0 a3.c.cv, .slice a3.c.Ao 0 a3.c.co] = w4 at hb34 HK3 ⊢
  have HO3 := Lib.hid (HO3.out.below hb34)
  have HB24 : Hid (Below w2.heap.size w2 w4) := Lib.hid (HB3.out.trans (hb34.mono HB3.out.size))
  rw [hh3] at HK3 ⊢
  clear hb34 HZ3 HB3 hh3
  have bb : Below w4.heap.size w4 (w4.alloc (.cells #[.int .u8 0] 5)) := (Below.refl _ _).alloc (Nat.le_refl _) _
  have HO4 : Hid (OwnB w1 (w4.alloc (.cells #[.int .u8 0] 5)) A2 12 c2 [7, 1, 2, 172, 2, 4, 5, 2, 5, 4, 1, 5]) := Lib.hid (own_below (own_below HO2.out HB24.out) bb)
  have HB4 : Hid (Below w1.heap.size w1 (w4.alloc (.cells #[.int .u8 0] 5))) := Lib.hid (HB2.out.trans ((HB24.out.trans (bb.mono HB24.out.size)).mono HB2.out.size))
  have HK4 := Lib.hid (HK3.out.alloc (.cells #[.int .u8 0] 5))
  have HO3 := Lib.hid (HO3.out.below bb)
  have HOLD : Hid (Old w2 (Value.slice A2 12 c2).ownBlock) := Lib.hid (own_row_old HO2.out (Nat.le_refl _))
  have y0 : (w4.alloc (.cells #[.int .u8 0] 5)).cell? ⟨w4.heap.size, 0, none⟩ = some (.int .u8 ((0 : Nat) : Int)) := (Blk.new w4 5 #[.int .u8 0]).cell 0
  have Y0 := Lib.hid y0
  clear bb HK3 y0
  go_upto_region 5 with (first
    | (at_builtin
       refine wpList_append_keep (W := w1) (y := 0) (k := w4.heap.size) rfl (.tmp 18) (.tmp 19) rfl rfl HO4.out rfl Y0.out (by omega) HB4.out ?_
       intro A5 c5 w5 hown5 hrd5 hB5 hg5
       have HO5 := Lib.hid hown5
       have HR5 := Lib.hid hrd5
       have HB5 := Lib.hid hB5
       have HK5 := Lib.hid (HK4.out.apart_own HO4.out (by decide) hg5)
       have HO3 := Lib.hid (HO3.out.old hg5 HOLD.out)
       have C5 : Hid (Calls Try.prog 8 #[.slice A5 13 c5] w5 (GotG w5 w5 none)) := Lib.hid (hD.is mesgA.d2 (by decide) (by decide) (Rd.own_ hown5) (Below.refl _ _))
       clear hown5 hrd5 hB5 hg5 HO4 HB4 HK4 HOLD Y0)
    | (go_at_call 8; refine C5.out.mono ?_; rintro e w6 ⟨a6, he, ho6, hB6, hb6⟩
       have he2 : e = .returned (.tuple #[.agg #[.int .i64 0, .int .i64 0, .int .i64 0, .int .i64 0, .int .i64 0, .int .i64 0, .bool false, .int .i64 0, .int .i64 0, .int .i64 0, .int .i64 0, .slice a6.Ad 0 a6.cd, .int .i64 0, .int .i64 0, .slice a6.Ah 0 a6.ch, .slice a6.An 0 a6.cn, .int .i64 0, .int .i64 0, .int .i64 0, .int .i64 0, .int .i64 0, .slice a6.c.Ak 0 a6.c.ck, .slice a6.c.Av 0 a6.c.cv, .slice a6.c.Ao 0 a6.c.co], .bool false]) := he
       clear he
       subst he2
       have HB6 := Lib.hid hB6
       have HZ6 := Lib.hid (Blk.new w6 29 #[.int .i64 0, .int .i64 0, .int .i64 0, .int .i64 0, .int .i64 0, .int .i64 0, .bool false, .int .i64 0, .int .i64 0, .int .i64 0, .int .i64 0, .slice none 0 0, .int .i64 0, .int .i64 0, .slice none 0 0, .slice none 0 0, .int .i64 0, .int .i64 0, .int .i64 0, .int .i64 0, .int .i64 0, .slice none 0 0, .slice none 0 0, .slice none 0 0])
       clear ho6 hB6 hb6 C5)
    | (refine wpList_store_row rfl 29 (.tmp 5) (.tmp 22) rfl w6.heap.size #[.int .i64 0, .int .i64 0, .int .i64 0, .int .i64 0, .int .i64 0, .int .i64 0, .bool false, .int .i64 0, .int .i64 0, .int .i64 0, .int .i64 0, .slice a6.Ad 0 a6.cd, .int .i64 0, .int .i64 0, .slice a6.Ah 0 a6.ch, .slice a6.An 0 a6.cn, .int .i64 0, .int .i64 0, .int .i64 0, .int .i64 0, .int .i64 0, .slice a6.c.Ak 0 a6.c.ck, .slice a6.c.Av 0 a6.c.cv, .slice a6.c.Ao 0 a6.c.co] rfl rfl 29 #[.int .i64 0, .int .i64 0, .int .i64 0, .int .i64 0, .int .i64 0, .int .i64 0, .bool false, .int .i64 0, .int .i64 0, .int .i64 0, .int .i64 0, .slice none 0 0, .int .i64 0, .int .i64 0, .slice none 0 0, .slice none 0 0, .int .i64 0, .int .i64 0, .int .i64 0, .int .i64 0, .int .i64 0, .slice none 0 0, .slice none 0 0, .slice none 0 0] HZ6.out (by kernel_rfl) rfl (by kernel_rfl) ?_)
    | fail)
  have hb67 : Below w6.heap.size w6 ((w6.alloc (.cells #[.int .i64 0, .int .i64 0, .int .i64 0, .int .i64 0, .int .i64 0, .int .i64 0, .bool false, .int .i64 0, .int .i64 0, .int .i64 0, .int .i64 0, .slice none 0 0, .int .i64 0, .int .i64 0, .slice none 0 0, .slice none 0 0, .int .i64 0, .int .i64 0, .int .i64 0, .int .i64 0, .int .i64 0, .slice none 0 0, .slice none 0 0, .slice none 0 0] 29)).setRow w6.heap.size #[.int .i64 0, .int .i64 0, .int .i64 0, .int .i64 0, .int .i64 0, .int .i64 0, .bool false, .int .i64 0, .int .i64 0, .int .i64 0, .int .i64 0, .slice a6.Ad 0 a6.cd, .int .i64 0, .int .i64 0, .slice a6.Ah 0 a6.ch, .slice a6.An 0 a6.cn, .int .i64 0, .int .i64 0, .int .i64 0, .int .i64 0, .int .i64 0, .slice a6.c.Ak 0 a6.c.ck, .slice a6.c.Av 0 a6.c.cv, .slice a6.c.Ao 0 a6.c.co]) := below_setRow ((Below.refl _ _).alloc (Nat.le_refl _) _) (Nat.le_refl _) _
  generalize (w6.alloc (.cells #[.int .i64 0, .int .i64 0, .int .i64 0, .int .i64 0, .int .i64 0, .int .i64 0, .bool false, .int .i64 0, .int .i64 0, .int .i64 0, .int .i64 0, .slice none 0 0, .int .i64 0, .int .i64 0, .slice none 0 0, .slice none 0 0, .int .i64 0, .int .i64 0, .int .i64 0, .int .i64 0, .int .i64 0, .slice none 0 0, .slice none 0 0, .slice none 0 0] 29)).setRow w6.heap.size #[.int .i64 0, .int .i64 0, .int .i64 0, .int .i64 0, .int .i64 0, .int .i64 0, .bool false, .int .i64 0, .int .i64 0, .int .i64 0, .int .i64 0, .slice a6.Ad 0 a6.cd, .int .i64 0, .int .i64 0, .slice a6.Ah 0 a6.ch, .slice a6.An 0 a6.cn, .int .i64 0, .int .i64 0, .int .i64 0, .int .i64 0, .int .i64 0, .slice a6.c.Ak 0 a6.c.ck, .slice a6.c.Av 0 a6.c.cv, .slice a6.c.Ao 0 a6.c.co] = w7 at hb67 ⊢
  have hb57 : Below w5.heap.size w5 w7 := HB6.out.trans (hb67.mono HB6.out.size)
  have HB17 : Hid (Below w1.heap.size w1 w7) := Lib.hid (HB5.out.trans (hb57.mono HB5.out.size))
  have HK3 := Lib.hid (HK5.out.below hb57)
  have HR3 := Lib.hid ((HO3.out.rd).below hb57)
  have HRA := Lib.hid (HR5.out.below hb57)
  have HK1 := Lib.hid (HK1.out.below HB17.out)
  have HR1 := Lib.hid (HR1.out.below HB17.out)
  have SA : Hid (∀ wx, Below w7.heap.size w7 wx → Calls Try.prog 13 #[.agg #[.int .i64 7, .int .i64 1, .int .i64 2, .int .i64 300, .int .i64 0, .int .i64 0, .bool false, .int .i64 0, .int .i64 0, .int .i64 0, .int .i64 0, .slice a3.Ad 0 a3.cd, .int .i64 4, .int .i64 5, .slice a3.Ah 2 a3.ch, .slice a3.An 1 a3.cn, .int .i64 0, .int .i64 0, .int .i64 0, .int .i64 0, .int .i64 0, .slice a3.c.Ak 0 a3.c.ck, .slice a3.c.Av 0 a3.c.cv, .slice a3.c.Ao 0 a3.c.co], .agg #[.int .i64 7, .int .i64 1, .int .i64 2, .int .i64 300, .int .i64 0, .int .i64 0, .bool false, .int .i64 0, .int .i64 0, .int .i64 0, .int .i64 0, .slice none 0 0, .int .i64 4, .int .i64 5, .slice (some ⟨h, 0, none⟩) 2 2, .slice (some ⟨h + 1, 0, none⟩) 1 1, .int .i64 0, .int .i64 0, .int .i64 0, .int .i64 0, .int .i64 0, .slice none 0 0, .slice none 0 0, .slice none 0 0]] wx fun e w' => e = .returned (.bool true) ∧ Below wx.heap.size wx w') := Lib.hid (fun wx hb => by
    rw [← HV1.out]
    exact hS.is (a := a3) (m := mesgA.M1) (a' := a1) (m' := mesgA.M1) (b := true) wx (decide_eq_true rfl) mesgA.w1 mesgA.w1 (HR3.out.fit.below hb) (HR1.out.fit.below hb))
  have SB : Hid (∀ wx, Below w7.heap.size w7 wx → Calls Try.prog 13 #[.agg #[.int .i64 7, .int .i64 1, .int .i64 2, .int .i64 300, .int .i64 0, .int .i64 0, .bool false, .int .i64 0, .int .i64 0, .int .i64 0, .int .i64 0, .slice none 0 0, .int .i64 4, .int .i64 5, .slice (some ⟨h, 0, none⟩) 2 2, .slice (some ⟨h + 1, 0, none⟩) 1 1, .int .i64 0, .int .i64 0, .int .i64 0, .int .i64 0, .int .i64 0, .slice none 0 0, .slice none 0 0, .slice none 0 0], .agg #[.int .i64 0, .int .i64 0, .int .i64 0, .int .i64 0, .int .i64 0, .int .i64 0, .bool false, .int .i64 0, .int .i64 0, .int .i64 0, .int .i64 0, .slice none 0 0, .int .i64 0, .int .i64 0, .slice none 0 0, .slice none 0 0, .int .i64 0, .int .i64 0, .int .i64 0, .int .i64 0, .int .i64 0, .slice none 0 0, .slice none 0 0, .slice none 0 0]] wx fun e w' => e = .returned (.bool false) ∧ Below wx.heap.size wx w') := Lib.hid (fun wx hb => by
    rw [← HV1.out]
    exact hS.is (a := a1) (m := mesgA.M1) (a' := GA.zero) (m' := Mg.zero) (b := false) wx mesgA.n1 mesgA.w1 Mg.Wide.zero (HR1.out.fit.below hb) (RdG.zero wx wx.heap.size))
  have E0 : Hid (∀ wx, Calls Try.prog 7 #[.agg #[.int .i64 0, .int .i64 0, .int .i64 0, .int .i64 0, .int .i64 0, .int .i64 0, .bool false, .int .i64 0, .int .i64 0, .int .i64 0, .int .i64 0, .slice none 0 0, .int .i64 0, .int .i64 0, .slice none 0 0, .slice none 0 0, .int .i64 0, .int .i64 0, .int .i64 0, .int .i64 0, .int .i64 0, .slice none 0 0, .slice none 0 0, .slice none 0 0]] wx fun e w' => ∃ A c, e = .returned (.slice A 0 c) ∧ Below wx.heap.size wx w') := Lib.hid (fun wx => (hE.is (W := wx) (a := GA.zero) (m := Mg.zero) (l := []) mesgA.e0 Mg.Wide.zero (RdG.zero wx wx.heap.size) (Below.refl _ _)).mono fun e w' ⟨A, c, q1, _, q2, _⟩ => ⟨A, c, q1, q2⟩)
  have E7 : Hid (∀ wx, Calls Try.prog 7 #[.agg #[.int .i64 1, .int .i64 7, .int .i64 0, .int .i64 0, .int .i64 0, .int .i64 0, .bool false, .int .i64 0, .int .i64 0, .int .i64 0, .int .i64 0, .slice none 0 0, .int .i64 0, .int .i64 0, .slice none 0 0, .slice none 0 0, .int .i64 0, .int .i64 0, .int .i64 0, .int .i64 0, .int .i64 0, .slice none 0 0, .slice none 0 0, .slice none 0 0]] wx fun e w' => ∃ A c, e = .returned (.slice A 0 c) ∧ Below wx.heap.size wx w') := Lib.hid (fun wx => (hE.is (W := wx) (a := GA.zero) (m := mesgA.M7) (l := []) (B := wx.heap.size) mesgA.e7 mesgA.w7 ⟨Rd.none_ _ _ _, Rd.none_ _ _ _, Rd.none_ _ _ _, RdC.zero _ _, ⟨Nat.le_refl _, Nat.zero_le _⟩, ⟨Nat.le_refl _, Nat.zero_le _⟩⟩ (Below.refl _ _)).mono fun e w' ⟨A, c, q1, _, q2, _⟩ => ⟨A, c, q1, q2⟩)
  have hstr := awake_str (c := c2) HRA.out
  have e2 : (strB [7, 1, 2, 172, 2, 4, 5, 2, 5, 4, 1, 5] == ⟨#[7, 1, 2, 172, 2, 4, 5, 2, 5, 4, 1, 5]⟩) = true := by kernel_rfl
  have e3 : ((strB [7, 1, 2, 172, 2, 4, 5, 2, 5, 4, 1, 5]).toList == [7, 1, 2, 172, 2, 4, 5, 2, 5, 4, 1, 5]) = true := by kernel_rfl
  have HB7 := Lib.hid (HB.out.trans (HB17.out.mono HB.out.size))
  have hT : Hid (Below w7.heap.size w7 w7) := Lib.hid (Below.refl _ _)
  clear hb67 hb57 HB HB17 HO5 HR5 HRA HR1 HR3 HO3 HK5 HB2 HB24 HB5 HB6 HO2 HZ6 HV1 HSZ
  go_wp2_with (first
    | (refine wpList_load_rowG (by rfl) 29 (.tmp 3) rfl h3 rfl 29 #[.int .i64 7, .int .i64 1, .int .i64 2, .int .i64 300, .int .i64 0, .int .i64 0, .bool false, .int .i64 0, .int .i64 0, .int .i64 0, .int .i64 0, .slice a3.Ad 0 a3.cd, .int .i64 4, .int .i64 5, .slice a3.Ah 2 a3.ch, .slice a3.An 1 a3.cn, .int .i64 0, .int .i64 0, .int .i64 0, .int .i64 0, .int .i64 0, .slice a3.c.Ak 0 a3.c.ck, .slice a3.c.Av 0 a3.c.cv, .slice a3.c.Ao 0 a3.c.co] (0, 0) _ (HK3.out.below hT.out) Try.underlying29 rfl (by kernel_rfl) ?_)
    | (refine wpList_load_rowG (by rfl) 29 (.tmp 1) rfl (h + 1 + 1) rfl 29 #[.int .i64 7, .int .i64 1, .int .i64 2, .int .i64 300, .int .i64 0, .int .i64 0, .bool false, .int .i64 0, .int .i64 0, .int .i64 0, .int .i64 0, .slice none 0 0, .int .i64 4, .int .i64 5, .slice (some ⟨h, 0, none⟩) 2 2, .slice (some ⟨h + 1, 0, none⟩) 1 1, .int .i64 0, .int .i64 0, .int .i64 0, .int .i64 0, .int .i64 0, .slice none 0 0, .slice none 0 0, .slice none 0 0] (0, 0) _ (HK1.out.below hT.out) Try.underlying29 rfl (by kernel_rfl) ?_)
    | (go_at_call 13; refine (SA.out _ hT.out).mono ?_; rintro en w8 ⟨rfl, hb8⟩; have hT := Lib.hid (hT.out.trans (hb8.mono hT.out.size)); clear hb8 SA)
    | (go_at_call 7; refine (E0.out _).mono ?_; rintro en w8 ⟨A8, c8, rfl, hb8⟩; have hT := Lib.hid (hT.out.trans (hb8.mono hT.out.size)); clear hb8 E0)
    | (go_at_call 7; refine (E7.out _).mono ?_; rintro en w8 ⟨A8, c8, rfl, hb8⟩; have hT := Lib.hid (hT.out.trans (hb8.mono hT.out.size)); clear hb8 E7)
    | (go_at_call 13; refine (SB.out _ hT.out).mono ?_; rintro en w8 ⟨rfl, hb8⟩; have hT := Lib.hid (hT.out.trans (hb8.mono hT.out.size)); clear hb8 SB)
    | fail)
  go_ret
  exact ⟨rfl, HB7.out.trans (hT.out.mono HB7.out.size)⟩
end Go.Proofs.Ytijcbbommaeejaa

namespace Go.Proofs.Ytijcbbommaeejaa
open Go.RowKit
set_option linter.unusedVariables false
/-- a byte and one more -/
theorem up8 (x : Int) (h0 : 0 ≤ x) (h1 : x < 256) : IntKind.u8.wrap (x + 1) = (x + 1) % 256 := by
  simp [IntKind.wrap, IntKind.bits, IntKind.signed]
/-- a block of bytes from base on, of at least m -/
def Bytes8 (w : World) (base g m : Nat) : Prop := base ≤ g ∧ ∃ cur, Blk w g 5 cur ∧ ∀ j, j < m → ∃ x : Int, 0 ≤ x ∧ x < 256 ∧ cur[j]? = some (.int .u8 x)
theorem Bytes8.set_ {w : World} {base g m g' i : Nat} {x : Int} (h : Bytes8 w base g m) (h0 : 0 ≤ x) (h1 : x < 256) : Bytes8 (w.setCell ⟨g', i, none⟩ (.int .u8 x)) base g m := by
  obtain ⟨hb, cur, hk, hc⟩ := h
  by_cases he : g' = g
  · subst he
    refine ⟨hb, _, hk.set_ i _, fun j hj => ?_⟩
    obtain ⟨y, y0, y1, hy⟩ := hc j hj
    rw [Array.getElem?_setIfInBounds]
    by_cases hij : i = j
    · subst hij
      have hlt : i < cur.size := by
        rcases Nat.lt_or_ge i cur.size with h | h
        · exact h
        · rw [Array.getElem?_eq_none h] at hy; cases hy
      exact ⟨x, h0, h1, by simp [hlt]⟩
    · exact ⟨y, y0, y1, by simp [hij, hy]⟩
  · exact ⟨hb, cur, hk.set_other (fun e => he e.symm), hc⟩
theorem soft_own {W w : World} {A : Option Addr} {m c : Nat} {l : List Nat} (h : OwnB W w A m c l) (hby : ∀ x ∈ l, x < 256) : 0 < m → ∃ g, A = some ⟨g, 0, none⟩ ∧ Bytes8 w W.heap.size g m := by
  intro hm
  have hl := own_len h
  obtain ⟨g, rfl, hg1, hg2⟩ := own_addr h hm
  rcases own_blk h with ⟨h1, _⟩ | ⟨g', cur, h1, _, hk⟩
  · cases h1
  · injection h1 with h1; injection h1 with h1; subst h1
    refine ⟨g, rfl, hg1, cur, hk, fun j hj => ?_⟩
    have hc := own_byte h hj
    rw [hk.cell] at hc
    refine ⟨_, by omega, ?_, hc⟩
    have h3 : l.getD j 0 < 256 := by
      rw [List.getD_eq_getElem?_getD, List.getElem?_eq_getElem (by omega)]
      exact hby _ (List.getElem_mem _)
    omega
/-- what a walk asks of one byte -/
theorem Bytes8.at {w : World} {base g m j : Nat} (h : Bytes8 w base g m) (hj : j < m) : base ≤ g ∧ w.frozen? ⟨g, j, none⟩ = false ∧ ∃ x : Int, 0 ≤ x ∧ x < 256 ∧ w.cell? ⟨g, j, none⟩ = some (.int .u8 x) := by
  obtain ⟨hb, cur, hk, hc⟩ := h
  obtain ⟨x, h0, h1, e⟩ := hc j hj
  exact ⟨hb, hk.frozen j, x, h0, h1, (hk.cell j).trans e⟩
theorem Bytes8.apart {w : World} {base g m b : Nat} {t : TypeId} {cs : Array Value} (h : Bytes8 w base g m) (hb : Blk w b t cs) (hne : 5 ≠ t) : g ≠ b := by
  obtain ⟨_, cur, hk, _⟩ := h
  exact hk.apart hb hne
theorem Bytes8.below {w w' : World} {base g m : Nat} (h : Bytes8 w base g m) (hb : Below w.heap.size w w') : Bytes8 w' base g m := by
  obtain ⟨h1, cur, hk, hc⟩ := h
  exact ⟨h1, cur, hk.below hb, hc⟩
/-- three stores into a block of a result -/
theorem Bytes8.set_t {w : World} {base g m b i : Nat} {t : TypeId} {cs : Array Value} {u : Value} (h : Bytes8 w base g m) (hb : Blk w b t cs) (hne : 5 ≠ t) : Bytes8 (w.setCell ⟨b, i, none⟩ u) base g m := by
  have := h.apart hb hne
  obtain ⟨h1, cur, hk, hc⟩ := h
  exact ⟨h1, cur, hk.set_other this, hc⟩
end Go.Proofs.Ytijcbbommaeejaa

namespace Go.Proofs.Ytijcbbommaeejaa
open Go.RowKit
set_option linter.unusedVariables false
/-- a block of ints from base on, of at least n -/
def Ints8 (w : World) (base g n : Nat) : Prop := base ≤ g ∧ ∃ cur, Blk w g 3 cur ∧ n ≤ cur.size
theorem Ints8.set_ {w : World} {base g n g' i : Nat} {u : Value} (h : Ints8 w base g n) : Ints8 (w.setCell ⟨g', i, none⟩ u) base g n := by
  obtain ⟨h1, cur, h2, h3⟩ := h
  by_cases e : g' = g
  · subst e; exact ⟨h1, _, h2.set_ i u, by simpa using h3⟩
  · exact ⟨h1, cur, h2.set_other (Ne.symm e), h3⟩
theorem Ints8.at {w : World} {base g n j : Nat} (h : Ints8 w base g n) (hj : j < n) : base ≤ g ∧ w.frozen? ⟨g, j, none⟩ = false ∧ ∃ v, w.cell? ⟨g, j, none⟩ = some v := by
  obtain ⟨h1, cur, h2, h3⟩ := h
  exact ⟨h1, h2.frozen j, cur[j], (h2.cell j).trans (by simp)⟩
theorem Ints8.below {w w' : World} {base g n : Nat} (h : Ints8 w base g n) (hb : Below w.heap.size w w') : Ints8 w' base g n := by
  obtain ⟨h1, cur, h2, h3⟩ := h
  exact ⟨h1, cur, h2.below hb, h3⟩
theorem ints_own {W w : World} {A : Option Addr} {n c : Nat} {l : List Int} (h : OwnI W w A n c l) : 0 < n → ∃ g, A = some ⟨g, 0, none⟩ ∧ Ints8 w W.heap.size g n := by
  intro hn
  rcases h.2 with ⟨_, h2⟩ | ⟨g, cap, cur, h1, h2, h3, h4, h5, h6, h7⟩
  · omega
  · injection h1 with e1 e2 e3
    exact ⟨g, e1, h2, cur, h3, by rw [h6]; omega⟩
/-- what was read, while it is turned -/
structure OwSt (w3 wr : World) (h9 : Nat) (az : GA) (M : Mg) : Prop where
  bel : Below w3.heap.size w3 wr
  k9 : Blk wr h9 29 (msgC az M)
  d : 0 < M.data.length → ∃ g, az.Ad = some ⟨g, 0, none⟩ ∧ Bytes8 wr w3.heap.size g M.data.length
  h : 0 < M.hav.length → ∃ g, az.Ah = some ⟨g, 0, none⟩ ∧ Ints8 wr w3.heap.size g M.hav.length
  n : 0 < M.nee.length → ∃ g, az.An = some ⟨g, 0, none⟩ ∧ Ints8 wr w3.heap.size g M.nee.length
theorem OwSt.setI {w3 wr : World} {h9 g n i : Nat} {az : GA} {M : Mg} {u : Value} (h : OwSt w3 wr h9 az M) (hi : Ints8 wr w3.heap.size g n) : OwSt w3 (wr.setCell ⟨g, i, none⟩ u) h9 az M := by
  obtain ⟨h1, cur, h2, h3⟩ := hi
  refine ⟨h.bel.setCell h1 u, h.k9.set_other (h2.apart h.k9 (by decide)).symm, fun hp => ?_, fun hp => ?_, fun hp => ?_⟩
  · obtain ⟨g', e, q⟩ := h.d hp; exact ⟨g', e, q.set_t h2 (by decide)⟩
  · obtain ⟨g', e, q⟩ := h.h hp; exact ⟨g', e, q.set_⟩
  · obtain ⟨g', e, q⟩ := h.n hp; exact ⟨g', e, q.set_⟩
theorem OwSt.setB {w3 wr : World} {h9 g n i : Nat} {az : GA} {M : Mg} {x : Int} (h : OwSt w3 wr h9 az M) (hi : Bytes8 wr w3.heap.size g n) (h0 : 0 ≤ x) (h1 : x < 256) : OwSt w3 (wr.setCell ⟨g, i, none⟩ (.int .u8 x)) h9 az M := by
  refine ⟨h.bel.setCell hi.1 _, h.k9.set_other (hi.apart h.k9 (by decide)).symm, fun hp => ?_, fun hp => ?_, fun hp => ?_⟩
  · obtain ⟨g', e, q⟩ := h.d hp; exact ⟨g', e, q.set_ h0 h1⟩
  · obtain ⟨g', e, q⟩ := h.h hp; exact ⟨g', e, q.set_⟩
  · obtain ⟨g', e, q⟩ := h.n hp; exact ⟨g', e, q.set_⟩
theorem OwSt.below {w3 wr wy : World} {h9 : Nat} {az : GA} {M : Mg} (h : OwSt w3 wr h9 az M) (hb : Below wr.heap.size wr wy) : OwSt w3 wy h9 az M := by
  refine ⟨h.bel.trans (hb.mono h.bel.size), h.k9.below hb, fun hp => ?_, fun hp => ?_, fun hp => ?_⟩
  · obtain ⟨g', e, q⟩ := h.d hp; exact ⟨g', e, q.below hb⟩
  · obtain ⟨g', e, q⟩ := h.h hp; exact ⟨g', e, q.below hb⟩
  · obtain ⟨g', e, q⟩ := h.n hp; exact ⟨g', e, q.below hb⟩
set_option maxHeartbeats 8000000 in
set_option maxRecDepth 100000 in
theorem mesgOwn_raw (n m : Int) (w : World) : Calls Try.prog 4 #[.int .i64 n, .int .i64 m] w fun e w' => e = .returned (.bool true) ∧ Below w.heap.size w w' := by
  have hok := mgOf_ok n m
  have hwide := mgOf_wide n m
  have hdec : Mg.dec (mgOf n m).enc = some (mgOf n m) := by rw [Mg.dec_enc hok, mgOf_bare]
  have hmsg := msg_any n m
  obtain ⟨M, hM⟩ : ∃ M, mgOf n m = M := ⟨_, rfl⟩
  rw [hM] at hok hwide hdec
  have hlen := Mg.enc_len hok
  have hlt := Mg.enc_lt hok hwide
  obtain ⟨L, hL⟩ : ∃ L, M.enc = L := ⟨_, rfl⟩
  rw [hL] at hdec hlen hlt
  have C1 : Hid (∀ wx, Calls Try.prog 10 #[.int .i64 n, .int .i64 m] wx fun e w' => ∃ a : GA, e = .returned (.agg #[.int .i64 M.kind, .int .i64 M.frm, .int .i64 M.dst, .int .i64 M.view, .int .i64 M.inst, .int .i64 M.len, .bool M.has, .int .i64 M.mem, .int .i64 M.src, .int .i64 M.pos, .int .i64 M.tot, .slice a.Ad M.data.length a.cd, .int .i64 M.hop, .int .i64 M.seq, .slice a.Ah M.hav.length a.ch, .slice a.An M.nee.length a.cn, .int .i64 M.idx, .int .i64 M.ent.s, .int .i64 M.ent.q, .int .i64 M.ent.c.kind, .int .i64 M.ent.c.who, .slice a.c.Ak M.ent.c.key.length a.c.ck, .slice a.c.Av M.ent.c.val.length a.c.cv, .slice a.c.Ao M.ent.c.old.length a.c.co]) ∧ RdG w' w'.heap.size a M ∧ Below wx.heap.size wx w') := Lib.hid (fun wx => by have q := hmsg wx; rw [hM] at q; exact q)
  have C2 := C1
  have HW := Lib.hid hwide
  have HD := Lib.hid hdec
  have HLEN := Lib.hid hlen
  have HLT := Lib.hid hlt
  have HL := Lib.hid hL
  clear hok hwide hdec hmsg hM hlen hlt hL
  go_enter Try.func4, Try.ntmps4
  go_upto_region 2 with (first
    | (go_at_call 10; refine (C1.out _).mono ?_; rintro e1 w1 ⟨ax, rfl, hrx, hb1⟩; have HX := Lib.hid hrx; have HB1 := Lib.hid hb1; clear hrx hb1 C1)
    | (go_at_call 10; refine (C2.out _).mono ?_; rintro e2 w2 ⟨ay, rfl, hry, hb2⟩
       have HX := Lib.hid (HX.out.below' hb2)
       have HY := Lib.hid hry
       have HB2 := Lib.hid (HB1.out.trans (hb2.mono HB1.out.size))
       have z5 : Blk ((w2.alloc (.cells #[.int .i64 0, .int .i64 0, .int .i64 0, .int .i64 0, .int .i64 0, .int .i64 0, .bool false, .int .i64 0, .int .i64 0, .int .i64 0, .int .i64 0, .slice none 0 0, .int .i64 0, .int .i64 0, .slice none 0 0, .slice none 0 0, .int .i64 0, .int .i64 0, .int .i64 0, .int .i64 0, .int .i64 0, .slice none 0 0, .slice none 0 0, .slice none 0 0] 29)).alloc (.cells #[.int .i64 0, .int .i64 0, .int .i64 0, .int .i64 0, .int .i64 0, .int .i64 0, .bool false, .int .i64 0, .int .i64 0, .int .i64 0, .int .i64 0, .slice none 0 0, .int .i64 0, .int .i64 0, .slice none 0 0, .slice none 0 0, .int .i64 0, .int .i64 0, .int .i64 0, .int .i64 0, .int .i64 0, .slice none 0 0, .slice none 0 0, .slice none 0 0] 29)) w2.heap.size 29 #[.int .i64 0, .int .i64 0, .int .i64 0, .int .i64 0, .int .i64 0, .int .i64 0, .bool false, .int .i64 0, .int .i64 0, .int .i64 0, .int .i64 0, .slice none 0 0, .int .i64 0, .int .i64 0, .slice none 0 0, .slice none 0 0, .int .i64 0, .int .i64 0, .int .i64 0, .int .i64 0, .int .i64 0, .slice none 0 0, .slice none 0 0, .slice none 0 0] := (Blk.new _ _ _).alloc _
       have z6 : Blk (((w2.alloc (.cells #[.int .i64 0, .int .i64 0, .int .i64 0, .int .i64 0, .int .i64 0, .int .i64 0, .bool false, .int .i64 0, .int .i64 0, .int .i64 0, .int .i64 0, .slice none 0 0, .int .i64 0, .int .i64 0, .slice none 0 0, .slice none 0 0, .int .i64 0, .int .i64 0, .int .i64 0, .int .i64 0, .int .i64 0, .slice none 0 0, .slice none 0 0, .slice none 0 0] 29)).alloc (.cells #[.int .i64 0, .int .i64 0, .int .i64 0, .int .i64 0, .int .i64 0, .int .i64 0, .bool false, .int .i64 0, .int .i64 0, .int .i64 0, .int .i64 0, .slice none 0 0, .int .i64 0, .int .i64 0, .slice none 0 0, .slice none 0 0, .int .i64 0, .int .i64 0, .int .i64 0, .int .i64 0, .int .i64 0, .slice none 0 0, .slice none 0 0, .slice none 0 0] 29)).setRow w2.heap.size #[.int .i64 M.kind, .int .i64 M.frm, .int .i64 M.dst, .int .i64 M.view, .int .i64 M.inst, .int .i64 M.len, .bool M.has, .int .i64 M.mem, .int .i64 M.src, .int .i64 M.pos, .int .i64 M.tot, .slice ax.Ad M.data.length ax.cd, .int .i64 M.hop, .int .i64 M.seq, .slice ax.Ah M.hav.length ax.ch, .slice ax.An M.nee.length ax.cn, .int .i64 M.idx, .int .i64 M.ent.s, .int .i64 M.ent.q, .int .i64 M.ent.c.kind, .int .i64 M.ent.c.who, .slice ax.c.Ak M.ent.c.key.length ax.c.ck, .slice ax.c.Av M.ent.c.val.length ax.c.cv, .slice ax.c.Ao M.ent.c.old.length ax.c.co]) (w2.heap.size + 1) 29 #[.int .i64 0, .int .i64 0, .int .i64 0, .int .i64 0, .int .i64 0, .int .i64 0, .bool false, .int .i64 0, .int .i64 0, .int .i64 0, .int .i64 0, .slice none 0 0, .int .i64 0, .int .i64 0, .slice none 0 0, .slice none 0 0, .int .i64 0, .int .i64 0, .int .i64 0, .int .i64 0, .int .i64 0, .slice none 0 0, .slice none 0 0, .slice none 0 0] := by
         have q := Blk.new (w2.alloc (.cells #[.int .i64 0, .int .i64 0, .int .i64 0, .int .i64 0, .int .i64 0, .int .i64 0, .bool false, .int .i64 0, .int .i64 0, .int .i64 0, .int .i64 0, .slice none 0 0, .int .i64 0, .int .i64 0, .slice none 0 0, .slice none 0 0, .int .i64 0, .int .i64 0, .int .i64 0, .int .i64 0, .int .i64 0, .slice none 0 0, .slice none 0 0, .slice none 0 0] 29)) 29 #[.int .i64 0, .int .i64 0, .int .i64 0, .int .i64 0, .int .i64 0, .int .i64 0, .bool false, .int .i64 0, .int .i64 0, .int .i64 0, .int .i64 0, .slice none 0 0, .int .i64 0, .int .i64 0, .slice none 0 0, .slice none 0 0, .int .i64 0, .int .i64 0, .int .i64 0, .int .i64 0, .int .i64 0, .slice none 0 0, .slice none 0 0, .slice none 0 0]
         rw [World.size_alloc] at q
         exact q.row_other (by omega) _
       have Z5 := Lib.hid z5
       have Z6 := Lib.hid z6
       clear hry hb2 C2 z5 z6)
    | (refine wpList_store_row rfl 29 (.tmp 5) (.tmp 17) rfl w2.heap.size #[.int .i64 M.kind, .int .i64 M.frm, .int .i64 M.dst, .int .i64 M.view, .int .i64 M.inst, .int .i64 M.len, .bool M.has, .int .i64 M.mem, .int .i64 M.src, .int .i64 M.pos, .int .i64 M.tot, .slice ax.Ad M.data.length ax.cd, .int .i64 M.hop, .int .i64 M.seq, .slice ax.Ah M.hav.length ax.ch, .slice ax.An M.nee.length ax.cn, .int .i64 M.idx, .int .i64 M.ent.s, .int .i64 M.ent.q, .int .i64 M.ent.c.kind, .int .i64 M.ent.c.who, .slice ax.c.Ak M.ent.c.key.length ax.c.ck, .slice ax.c.Av M.ent.c.val.length ax.c.cv, .slice ax.c.Ao M.ent.c.old.length ax.c.co] rfl rfl 29 #[.int .i64 0, .int .i64 0, .int .i64 0, .int .i64 0, .int .i64 0, .int .i64 0, .bool false, .int .i64 0, .int .i64 0, .int .i64 0, .int .i64 0, .slice none 0 0, .int .i64 0, .int .i64 0, .slice none 0 0, .slice none 0 0, .int .i64 0, .int .i64 0, .int .i64 0, .int .i64 0, .int .i64 0, .slice none 0 0, .slice none 0 0, .slice none 0 0] Z5.out (by kernel_rfl) rfl (by kernel_rfl) ?_)
    | (refine wpList_store_row rfl 29 (.tmp 6) (.tmp 20) rfl (w2.heap.size + 1) #[.int .i64 M.kind, .int .i64 M.frm, .int .i64 M.dst, .int .i64 M.view, .int .i64 M.inst, .int .i64 M.len, .bool M.has, .int .i64 M.mem, .int .i64 M.src, .int .i64 M.pos, .int .i64 M.tot, .slice ay.Ad M.data.length ay.cd, .int .i64 M.hop, .int .i64 M.seq, .slice ay.Ah M.hav.length ay.ch, .slice ay.An M.nee.length ay.cn, .int .i64 M.idx, .int .i64 M.ent.s, .int .i64 M.ent.q, .int .i64 M.ent.c.kind, .int .i64 M.ent.c.who, .slice ay.c.Ak M.ent.c.key.length ay.c.ck, .slice ay.c.Av M.ent.c.val.length ay.c.cv, .slice ay.c.Ao M.ent.c.old.length ay.c.co] rfl rfl 29 #[.int .i64 0, .int .i64 0, .int .i64 0, .int .i64 0, .int .i64 0, .int .i64 0, .bool false, .int .i64 0, .int .i64 0, .int .i64 0, .int .i64 0, .slice none 0 0, .int .i64 0, .int .i64 0, .slice none 0 0, .slice none 0 0, .int .i64 0, .int .i64 0, .int .i64 0, .int .i64 0, .int .i64 0, .slice none 0 0, .slice none 0 0, .slice none 0 0] Z6.out (by kernel_rfl) rfl (by kernel_rfl) ?_)
    | fail)
  have b23 : Below w2.heap.size w2 ((((w2.alloc (.cells #[.int .i64 0, .int .i64 0, .int .i64 0, .int .i64 0, .int .i64 0, .int .i64 0, .bool false, .int .i64 0, .int .i64 0, .int .i64 0, .int .i64 0, .slice none 0 0, .int .i64 0, .int .i64 0, .slice none 0 0, .slice none 0 0, .int .i64 0, .int .i64 0, .int .i64 0, .int .i64 0, .int .i64 0, .slice none 0 0, .slice none 0 0, .slice none 0 0] 29)).alloc (.cells #[.int .i64 0, .int .i64 0, .int .i64 0, .int .i64 0, .int .i64 0, .int .i64 0, .bool false, .int .i64 0, .int .i64 0, .int .i64 0, .int .i64 0, .slice none 0 0, .int .i64 0, .int .i64 0, .slice none 0 0, .slice none 0 0, .int .i64 0, .int .i64 0, .int .i64 0, .int .i64 0, .int .i64 0, .slice none 0 0, .slice none 0 0, .slice none 0 0] 29)).setRow w2.heap.size #[.int .i64 M.kind, .int .i64 M.frm, .int .i64 M.dst, .int .i64 M.view, .int .i64 M.inst, .int .i64 M.len, .bool M.has, .int .i64 M.mem, .int .i64 M.src, .int .i64 M.pos, .int .i64 M.tot, .slice ax.Ad M.data.length ax.cd, .int .i64 M.hop, .int .i64 M.seq, .slice ax.Ah M.hav.length ax.ch, .slice ax.An M.nee.length ax.cn, .int .i64 M.idx, .int .i64 M.ent.s, .int .i64 M.ent.q, .int .i64 M.ent.c.kind, .int .i64 M.ent.c.who, .slice ax.c.Ak M.ent.c.key.length ax.c.ck, .slice ax.c.Av M.ent.c.val.length ax.c.cv, .slice ax.c.Ao M.ent.c.old.length ax.c.co]).setRow (w2.heap.size + 1) #[.int .i64 M.kind, .int .i64 M.frm, .int .i64 M.dst, .int .i64 M.view, .int .i64 M.inst, .int .i64 M.len, .bool M.has, .int .i64 M.mem, .int .i64 M.src, .int .i64 M.pos, .int .i64 M.tot, .slice ay.Ad M.data.length ay.cd, .int .i64 M.hop, .int .i64 M.seq, .slice ay.Ah M.hav.length ay.ch, .slice ay.An M.nee.length ay.cn, .int .i64 M.idx, .int .i64 M.ent.s, .int .i64 M.ent.q, .int .i64 M.ent.c.kind, .int .i64 M.ent.c.who, .slice ay.c.Ak M.ent.c.key.length ay.c.ck, .slice ay.c.Av M.ent.c.val.length ay.c.cv, .slice ay.c.Ao M.ent.c.old.length ay.c.co]) := below_setRow (below_setRow (((Below.refl _ _).alloc (Nat.le_refl _) _).alloc (by rw [World.size_alloc]; omega) _) (Nat.le_refl _) _) (by omega) _
  have k5 : Blk ((((w2.alloc (.cells #[.int .i64 0, .int .i64 0, .int .i64 0, .int .i64 0, .int .i64 0, .int .i64 0, .bool false, .int .i64 0, .int .i64 0, .int .i64 0, .int .i64 0, .slice none 0 0, .int .i64 0, .int .i64 0, .slice none 0 0, .slice none 0 0, .int .i64 0, .int .i64 0, .int .i64 0, .int .i64 0, .int .i64 0, .slice none 0 0, .slice none 0 0, .slice none 0 0] 29)).alloc (.cells #[.int .i64 0, .int .i64 0, .int .i64 0, .int .i64 0, .int .i64 0, .int .i64 0, .bool false, .int .i64 0, .int .i64 0, .int .i64 0, .int .i64 0, .slice none 0 0, .int .i64 0, .int .i64 0, .slice none 0 0, .slice none 0 0, .int .i64 0, .int .i64 0, .int .i64 0, .int .i64 0, .int .i64 0, .slice none 0 0, .slice none 0 0, .slice none 0 0] 29)).setRow w2.heap.size #[.int .i64 M.kind, .int .i64 M.frm, .int .i64 M.dst, .int .i64 M.view, .int .i64 M.inst, .int .i64 M.len, .bool M.has, .int .i64 M.mem, .int .i64 M.src, .int .i64 M.pos, .int .i64 M.tot, .slice ax.Ad M.data.length ax.cd, .int .i64 M.hop, .int .i64 M.seq, .slice ax.Ah M.hav.length ax.ch, .slice ax.An M.nee.length ax.cn, .int .i64 M.idx, .int .i64 M.ent.s, .int .i64 M.ent.q, .int .i64 M.ent.c.kind, .int .i64 M.ent.c.who, .slice ax.c.Ak M.ent.c.key.length ax.c.ck, .slice ax.c.Av M.ent.c.val.length ax.c.cv, .slice ax.c.Ao M.ent.c.old.length ax.c.co]).setRow (w2.heap.size + 1) #[.int .i64 M.kind, .int .i64 M.frm, .int .i64 M.dst, .int .i64 M.view, .int .i64 M.inst, .int .i64 M.len, .bool M.has, .int .i64 M.mem, .int .i64 M.src, .int .i64 M.pos, .int .i64 M.tot, .slice ay.Ad M.data.length ay.cd, .int .i64 M.hop, .int .i64 M.seq, .slice ay.Ah M.hav.length ay.ch, .slice ay.An M.nee.length ay.cn, .int .i64 M.idx, .int .i64 M.ent.s, .int .i64 M.ent.q, .int .i64 M.ent.c.kind, .int .i64 M.ent.c.who, .slice ay.c.Ak M.ent.c.key.length ay.c.ck, .slice ay.c.Av M.ent.c.val.length ay.c.cv, .slice ay.c.Ao M.ent.c.old.length ay.c.co]) w2.heap.size 29 #[.int .i64 M.kind, .int .i64 M.frm, .int .i64 M.dst, .int .i64 M.view, .int .i64 M.inst, .int .i64 M.len, .bool M.has, .int .i64 M.mem, .int .i64 M.src, .int .i64 M.pos, .int .i64 M.tot, .slice ax.Ad M.data.length ax.cd, .int .i64 M.hop, .int .i64 M.seq, .slice ax.Ah M.hav.length ax.ch, .slice ax.An M.nee.length ax.cn, .int .i64 M.idx, .int .i64 M.ent.s, .int .i64 M.ent.q, .int .i64 M.ent.c.kind, .int .i64 M.ent.c.who, .slice ax.c.Ak M.ent.c.key.length ax.c.ck, .slice ax.c.Av M.ent.c.val.length ax.c.cv, .slice ax.c.Ao M.ent.c.old.length ax.c.co] := (Z5.out.row #[.int .i64 M.kind, .int .i64 M.frm, .int .i64 M.dst, .int .i64 M.view, .int .i64 M.inst, .int .i64 M.len, .bool M.has, .int .i64 M.mem, .int .i64 M.src, .int .i64 M.pos, .int .i64 M.tot, .slice ax.Ad M.data.length ax.cd, .int .i64 M.hop, .int .i64 M.seq, .slice ax.Ah M.hav.length ax.ch, .slice ax.An M.nee.length ax.cn, .int .i64 M.idx, .int .i64 M.ent.s, .int .i64 M.ent.q, .int .i64 M.ent.c.kind, .int .i64 M.ent.c.who, .slice ax.c.Ak M.ent.c.key.length ax.c.ck, .slice ax.c.Av M.ent.c.val.length ax.c.cv, .slice ax.c.Ao M.ent.c.old.length ax.c.co]).row_other (by omega) _
  have k6 : Blk ((((w2.alloc (.cells #[.int .i64 0, .int .i64 0, .int .i64 0, .int .i64 0, .int .i64 0, .int .i64 0, .bool false, .int .i64 0, .int .i64 0, .int .i64 0, .int .i64 0, .slice none 0 0, .int .i64 0, .int .i64 0, .slice none 0 0, .slice none 0 0, .int .i64 0, .int .i64 0, .int .i64 0, .int .i64 0, .int .i64 0, .slice none 0 0, .slice none 0 0, .slice none 0 0] 29)).alloc (.cells #[.int .i64 0, .int .i64 0, .int .i64 0, .int .i64 0, .int .i64 0, .int .i64 0, .bool false, .int .i64 0, .int .i64 0, .int .i64 0, .int .i64 0, .slice none 0 0, .int .i64 0, .int .i64 0, .slice none 0 0, .slice none 0 0, .int .i64 0, .int .i64 0, .int .i64 0, .int .i64 0, .int .i64 0, .slice none 0 0, .slice none 0 0, .slice none 0 0] 29)).setRow w2.heap.size #[.int .i64 M.kind, .int .i64 M.frm, .int .i64 M.dst, .int .i64 M.view, .int .i64 M.inst, .int .i64 M.len, .bool M.has, .int .i64 M.mem, .int .i64 M.src, .int .i64 M.pos, .int .i64 M.tot, .slice ax.Ad M.data.length ax.cd, .int .i64 M.hop, .int .i64 M.seq, .slice ax.Ah M.hav.length ax.ch, .slice ax.An M.nee.length ax.cn, .int .i64 M.idx, .int .i64 M.ent.s, .int .i64 M.ent.q, .int .i64 M.ent.c.kind, .int .i64 M.ent.c.who, .slice ax.c.Ak M.ent.c.key.length ax.c.ck, .slice ax.c.Av M.ent.c.val.length ax.c.cv, .slice ax.c.Ao M.ent.c.old.length ax.c.co]).setRow (w2.heap.size + 1) #[.int .i64 M.kind, .int .i64 M.frm, .int .i64 M.dst, .int .i64 M.view, .int .i64 M.inst, .int .i64 M.len, .bool M.has, .int .i64 M.mem, .int .i64 M.src, .int .i64 M.pos, .int .i64 M.tot, .slice ay.Ad M.data.length ay.cd, .int .i64 M.hop, .int .i64 M.seq, .slice ay.Ah M.hav.length ay.ch, .slice ay.An M.nee.length ay.cn, .int .i64 M.idx, .int .i64 M.ent.s, .int .i64 M.ent.q, .int .i64 M.ent.c.kind, .int .i64 M.ent.c.who, .slice ay.c.Ak M.ent.c.key.length ay.c.ck, .slice ay.c.Av M.ent.c.val.length ay.c.cv, .slice ay.c.Ao M.ent.c.old.length ay.c.co]) (w2.heap.size + 1) 29 #[.int .i64 M.kind, .int .i64 M.frm, .int .i64 M.dst, .int .i64 M.view, .int .i64 M.inst, .int .i64 M.len, .bool M.has, .int .i64 M.mem, .int .i64 M.src, .int .i64 M.pos, .int .i64 M.tot, .slice ay.Ad M.data.length ay.cd, .int .i64 M.hop, .int .i64 M.seq, .slice ay.Ah M.hav.length ay.ch, .slice ay.An M.nee.length ay.cn, .int .i64 M.idx, .int .i64 M.ent.s, .int .i64 M.ent.q, .int .i64 M.ent.c.kind, .int .i64 M.ent.c.who, .slice ay.c.Ak M.ent.c.key.length ay.c.ck, .slice ay.c.Av M.ent.c.val.length ay.c.cv, .slice ay.c.Ao M.ent.c.old.length ay.c.co] := Z6.out.row #[.int .i64 M.kind, .int .i64 M.frm, .int .i64 M.dst, .int .i64 M.view, .int .i64 M.inst, .int .i64 M.len, .bool M.has, .int .i64 M.mem, .int .i64 M.src, .int .i64 M.pos, .int .i64 M.tot, .slice ay.Ad M.data.length ay.cd, .int .i64 M.hop, .int .i64 M.seq, .slice ay.Ah M.hav.length ay.ch, .slice ay.An M.nee.length ay.cn, .int .i64 M.idx, .int .i64 M.ent.s, .int .i64 M.ent.q, .int .i64 M.ent.c.kind, .int .i64 M.ent.c.who, .slice ay.c.Ak M.ent.c.key.length ay.c.ck, .slice ay.c.Av M.ent.c.val.length ay.c.cv, .slice ay.c.Ao M.ent.c.old.length ay.c.co]
  generalize ((((w2.alloc (.cells #[.int .i64 0, .int .i64 0, .int .i64 0, .int .i64 0, .int .i64 0, .int .i64 0, .bool false, .int .i64 0, .int .i64 0, .int .i64 0, .int .i64 0, .slice none 0 0, .int .i64 0, .int .i64 0, .slice none 0 0, .slice none 0 0, .int .i64 0, .int .i64 0, .int .i64 0, .int .i64 0, .int .i64 0, .slice none 0 0, .slice none 0 0, .slice none 0 0] 29)).alloc (.cells #[.int .i64 0, .int .i64 0, .int .i64 0, .int .i64 0, .int .i64 0, .int .i64 0, .bool false, .int .i64 0, .int .i64 0, .int .i64 0, .int .i64 0, .slice none 0 0, .int .i64 0, .int .i64 0, .slice none 0 0, .slice none 0 0, .int .i64 0, .int .i64 0, .int .i64 0, .int .i64 0, .int .i64 0, .slice none 0 0, .slice none 0 0, .slice none 0 0] 29)).setRow w2.heap.size #[.int .i64 M.kind, .int .i64 M.frm, .int .i64 M.dst, .int .i64 M.view, .int .i64 M.inst, .int .i64 M.len, .bool M.has, .int .i64 M.mem, .int .i64 M.src, .int .i64 M.pos, .int .i64 M.tot, .slice ax.Ad M.data.length ax.cd, .int .i64 M.hop, .int .i64 M.seq, .slice ax.Ah M.hav.length ax.ch, .slice ax.An M.nee.length ax.cn, .int .i64 M.idx, .int .i64 M.ent.s, .int .i64 M.ent.q, .int .i64 M.ent.c.kind, .int .i64 M.ent.c.who, .slice ax.c.Ak M.ent.c.key.length ax.c.ck, .slice ax.c.Av M.ent.c.val.length ax.c.cv, .slice ax.c.Ao M.ent.c.old.length ax.c.co]).setRow (w2.heap.size + 1) #[.int .i64 M.kind, .int .i64 M.frm, .int .i64 M.dst, .int .i64 M.view, .int .i64 M.inst, .int .i64 M.len, .bool M.has, .int .i64 M.mem, .int .i64 M.src, .int .i64 M.pos, .int .i64 M.tot, .slice ay.Ad M.data.length ay.cd, .int .i64 M.hop, .int .i64 M.seq, .slice ay.Ah M.hav.length ay.ch, .slice ay.An M.nee.length ay.cn, .int .i64 M.idx, .int .i64 M.ent.s, .int .i64 M.ent.q, .int .i64 M.ent.c.kind, .int .i64 M.ent.c.who, .slice ay.c.Ak M.ent.c.key.length ay.c.ck, .slice ay.c.Av M.ent.c.val.length ay.c.cv, .slice ay.c.Ao M.ent.c.old.length ay.c.co]) = w3 at b23 k5 k6 ⊢
  obtain ⟨h5, hh5⟩ : ∃ h5, w2.heap.size = h5 := ⟨_, rfl⟩
  have HX := Lib.hid (HX.out.below' b23)
  have HY := Lib.hid (HY.out.below' b23)
  have HB := Lib.hid (HB2.out.trans (b23.mono HB2.out.size))
  rw [hh5] at k5 k6 ⊢
  have HK5 := Lib.hid k5
  have HK6 := Lib.hid k6
  clear b23 k5 k6 hh5 HB1 HB2 Z5 Z6
  have CE : Hid (∀ wx, Below w3.heap.size w3 wx → Calls Try.prog 7 #[.agg #[.int .i64 M.kind, .int .i64 M.frm, .int .i64 M.dst, .int .i64 M.view, .int .i64 M.inst, .int .i64 M.len, .bool M.has, .int .i64 M.mem, .int .i64 M.src, .int .i64 M.pos, .int .i64 M.tot, .slice ax.Ad M.data.length ax.cd, .int .i64 M.hop, .int .i64 M.seq, .slice ax.Ah M.hav.length ax.ch, .slice ax.An M.nee.length ax.cn, .int .i64 M.idx, .int .i64 M.ent.s, .int .i64 M.ent.q, .int .i64 M.ent.c.kind, .int .i64 M.ent.c.who, .slice ax.c.Ak M.ent.c.key.length ax.c.ck, .slice ax.c.Av M.ent.c.val.length ax.c.cv, .slice ax.c.Ao M.ent.c.old.length ax.c.co]] wx (GotIn wx wx L)) := Lib.hid (fun wx hb => encode11.is (a := ax) (m := M) HL.out HW.out (HX.out.below hb) (Below.refl _ _))
  have CE1 := CE
  go_upto_region 3 with (first
    | (refine wpList_load_row rfl 29 (.tmp 5) rfl h5 rfl 29 #[.int .i64 M.kind, .int .i64 M.frm, .int .i64 M.dst, .int .i64 M.view, .int .i64 M.inst, .int .i64 M.len, .bool M.has, .int .i64 M.mem, .int .i64 M.src, .int .i64 M.pos, .int .i64 M.tot, .slice ax.Ad M.data.length ax.cd, .int .i64 M.hop, .int .i64 M.seq, .slice ax.Ah M.hav.length ax.ch, .slice ax.An M.nee.length ax.cn, .int .i64 M.idx, .int .i64 M.ent.s, .int .i64 M.ent.q, .int .i64 M.ent.c.kind, .int .i64 M.ent.c.who, .slice ax.c.Ak M.ent.c.key.length ax.c.ck, .slice ax.c.Av M.ent.c.val.length ax.c.cv, .slice ax.c.Ao M.ent.c.old.length ax.c.co] (0, 0) _ HK5.out Try.underlying29 rfl (by kernel_rfl) ?_)
    | (go_at_call 7; refine (CE1.out _ (Below.refl _ _)).mono ?_; rintro e w4 ⟨A, c, rfl, ho, hB, hb⟩; have HO4 := Lib.hid ho; have HB34 := Lib.hid hB; clear ho hB hb CE1)
    | fail)
  have hstr := awake_str (c := c) (Rd.own_ HO4.out)
  go_upto_region 4 with fail
  clear hstr
  have HOLD : Hid (Old w4 (Value.slice A L.length c).ownBlock) := Lib.hid (own_row_old HO4.out (Nat.le_refl _))
  have CD : Hid (Calls Try.prog 8 #[.slice A L.length c] w4 (GotG w4 w4 (some M))) := Lib.hid (decode11.is HD.out (by have := HLEN.out; omega) HLT.out (Rd.own_ HO4.out) (Below.refl _ _))
  go_upto_region 5 with (first
    | (go_at_call 8; refine CD.out.mono ?_; rintro e w5 ⟨az, he, hoz, hBz, hbz⟩
       have he2 : e = .returned (.tuple #[.agg #[.int .i64 M.kind, .int .i64 M.frm, .int .i64 M.dst, .int .i64 M.view, .int .i64 M.inst, .int .i64 M.len, .bool M.has, .int .i64 M.mem, .int .i64 M.src, .int .i64 M.pos, .int .i64 M.tot, .slice az.Ad M.data.length az.cd, .int .i64 M.hop, .int .i64 M.seq, .slice az.Ah M.hav.length az.ch, .slice az.An M.nee.length az.cn, .int .i64 M.idx, .int .i64 M.ent.s, .int .i64 M.ent.q, .int .i64 M.ent.c.kind, .int .i64 M.ent.c.who, .slice az.c.Ak M.ent.c.key.length az.c.ck, .slice az.c.Av M.ent.c.val.length az.c.cv, .slice az.c.Ao M.ent.c.old.length az.c.co], .bool true]) := he
       clear he
       subst he2
       have hoz2 : OwnG w4 w5 az M := hoz
       have HOZ := Lib.hid hoz2
       have HB45 := Lib.hid hBz
       have Z9 := Lib.hid (Blk.new w5 29 #[.int .i64 0, .int .i64 0, .int .i64 0, .int .i64 0, .int .i64 0, .int .i64 0, .bool false, .int .i64 0, .int .i64 0, .int .i64 0, .int .i64 0, .slice none 0 0, .int .i64 0, .int .i64 0, .slice none 0 0, .slice none 0 0, .int .i64 0, .int .i64 0, .int .i64 0, .int .i64 0, .int .i64 0, .slice none 0 0, .slice none 0 0, .slice none 0 0])
       clear hoz hoz2 hBz hbz CD)
    | (refine wpList_store_row rfl 29 (.tmp 9) (.tmp 28) rfl w5.heap.size #[.int .i64 M.kind, .int .i64 M.frm, .int .i64 M.dst, .int .i64 M.view, .int .i64 M.inst, .int .i64 M.len, .bool M.has, .int .i64 M.mem, .int .i64 M.src, .int .i64 M.pos, .int .i64 M.tot, .slice az.Ad M.data.length az.cd, .int .i64 M.hop, .int .i64 M.seq, .slice az.Ah M.hav.length az.ch, .slice az.An M.nee.length az.cn, .int .i64 M.idx, .int .i64 M.ent.s, .int .i64 M.ent.q, .int .i64 M.ent.c.kind, .int .i64 M.ent.c.who, .slice az.c.Ak M.ent.c.key.length az.c.ck, .slice az.c.Av M.ent.c.val.length az.c.cv, .slice az.c.Ao M.ent.c.old.length az.c.co] rfl rfl 29 #[.int .i64 0, .int .i64 0, .int .i64 0, .int .i64 0, .int .i64 0, .int .i64 0, .bool false, .int .i64 0, .int .i64 0, .int .i64 0, .int .i64 0, .slice none 0 0, .int .i64 0, .int .i64 0, .slice none 0 0, .slice none 0 0, .int .i64 0, .int .i64 0, .int .i64 0, .int .i64 0, .int .i64 0, .slice none 0 0, .slice none 0 0, .slice none 0 0] Z9.out (by kernel_rfl) rfl (by kernel_rfl) ?_)
    | fail)
  have b56 : Below w5.heap.size w5 ((w5.alloc (.cells #[.int .i64 0, .int .i64 0, .int .i64 0, .int .i64 0, .int .i64 0, .int .i64 0, .bool false, .int .i64 0, .int .i64 0, .int .i64 0, .int .i64 0, .slice none 0 0, .int .i64 0, .int .i64 0, .slice none 0 0, .slice none 0 0, .int .i64 0, .int .i64 0, .int .i64 0, .int .i64 0, .int .i64 0, .slice none 0 0, .slice none 0 0, .slice none 0 0] 29)).setRow w5.heap.size #[.int .i64 M.kind, .int .i64 M.frm, .int .i64 M.dst, .int .i64 M.view, .int .i64 M.inst, .int .i64 M.len, .bool M.has, .int .i64 M.mem, .int .i64 M.src, .int .i64 M.pos, .int .i64 M.tot, .slice az.Ad M.data.length az.cd, .int .i64 M.hop, .int .i64 M.seq, .slice az.Ah M.hav.length az.ch, .slice az.An M.nee.length az.cn, .int .i64 M.idx, .int .i64 M.ent.s, .int .i64 M.ent.q, .int .i64 M.ent.c.kind, .int .i64 M.ent.c.who, .slice az.c.Ak M.ent.c.key.length az.c.ck, .slice az.c.Av M.ent.c.val.length az.c.cv, .slice az.c.Ao M.ent.c.old.length az.c.co]) := below_setRow ((Below.refl _ _).alloc (Nat.le_refl _) _) (Nat.le_refl _) _
  have k9 := Z9.out.row #[.int .i64 M.kind, .int .i64 M.frm, .int .i64 M.dst, .int .i64 M.view, .int .i64 M.inst, .int .i64 M.len, .bool M.has, .int .i64 M.mem, .int .i64 M.src, .int .i64 M.pos, .int .i64 M.tot, .slice az.Ad M.data.length az.cd, .int .i64 M.hop, .int .i64 M.seq, .slice az.Ah M.hav.length az.ch, .slice az.An M.nee.length az.cn, .int .i64 M.idx, .int .i64 M.ent.s, .int .i64 M.ent.q, .int .i64 M.ent.c.kind, .int .i64 M.ent.c.who, .slice az.c.Ak M.ent.c.key.length az.c.ck, .slice az.c.Av M.ent.c.val.length az.c.cv, .slice az.c.Ao M.ent.c.old.length az.c.co]
  generalize (w5.alloc (.cells #[.int .i64 0, .int .i64 0, .int .i64 0, .int .i64 0, .int .i64 0, .int .i64 0, .bool false, .int .i64 0, .int .i64 0, .int .i64 0, .int .i64 0, .slice none 0 0, .int .i64 0, .int .i64 0, .slice none 0 0, .slice none 0 0, .int .i64 0, .int .i64 0, .int .i64 0, .int .i64 0, .int .i64 0, .slice none 0 0, .slice none 0 0, .slice none 0 0] 29)).setRow w5.heap.size #[.int .i64 M.kind, .int .i64 M.frm, .int .i64 M.dst, .int .i64 M.view, .int .i64 M.inst, .int .i64 M.len, .bool M.has, .int .i64 M.mem, .int .i64 M.src, .int .i64 M.pos, .int .i64 M.tot, .slice az.Ad M.data.length az.cd, .int .i64 M.hop, .int .i64 M.seq, .slice az.Ah M.hav.length az.ch, .slice az.An M.nee.length az.cn, .int .i64 M.idx, .int .i64 M.ent.s, .int .i64 M.ent.q, .int .i64 M.ent.c.kind, .int .i64 M.ent.c.who, .slice az.c.Ak M.ent.c.key.length az.c.ck, .slice az.c.Av M.ent.c.val.length az.c.cv, .slice az.c.Ao M.ent.c.old.length az.c.co] = w6 at b56 k9 ⊢
  obtain ⟨h9, hh9⟩ : ∃ h9, w5.heap.size = h9 := ⟨_, rfl⟩
  have HOZ := Lib.hid (HOZ.out.below b56)
  have b46 : Below w4.heap.size w4 w6 := HB45.out.trans (b56.mono HB45.out.size)
  have HB36 : Hid (Below w3.heap.size w3 w6) := Lib.hid (HB34.out.trans (b46.mono HB34.out.size))
  have HSB : Hid (0 < L.length → ∃ g, A = some ⟨g, 0, none⟩ ∧ Bytes8 w6 w3.heap.size g L.length) := Lib.hid (soft_own (own_below HO4.out b46) HLT.out)
  rw [hh9] at k9 ⊢
  have HK9 := Lib.hid k9
  have HW34 : Hid (w3.heap.size ≤ w4.heap.size) := Lib.hid HB34.out.size
  clear b56 b46 k9 hh9 HB45 Z9 HO4 HB34
  go_wp2_with fail
  go_loopw [11, 32] (fun s11 s32 wr => ∃ k : Nat, k ≤ L.length ∧ s32 = .int .i64 (k : Int) ∧ Hid (Below w3.heap.size w3 wr) ∧ Hid (0 < L.length → ∃ g, A = some ⟨g, 0, none⟩ ∧ Bytes8 wr w3.heap.size g L.length) ∧ Hid (OwnG w4 wr az M) ∧ Hid (Blk wr h9 29 #[.int .i64 M.kind, .int .i64 M.frm, .int .i64 M.dst, .int .i64 M.view, .int .i64 M.inst, .int .i64 M.len, .bool M.has, .int .i64 M.mem, .int .i64 M.src, .int .i64 M.pos, .int .i64 M.tot, .slice az.Ad M.data.length az.cd, .int .i64 M.hop, .int .i64 M.seq, .slice az.Ah M.hav.length az.ch, .slice az.An M.nee.length az.cn, .int .i64 M.idx, .int .i64 M.ent.s, .int .i64 M.ent.q, .int .i64 M.ent.c.kind, .int .i64 M.ent.c.who, .slice az.c.Ak M.ent.c.key.length az.c.ck, .slice az.c.Av M.ent.c.val.length az.c.cv, .slice az.c.Ao M.ent.c.old.length az.c.co])) (fun _ s32 _ => L.length - (intOf s32).toNat)
  case atStart => exact ⟨0, Nat.zero_le _, rfl, HB36, HSB, HOZ, HK9⟩
  case round =>
    clear HB36 HSB HOZ HK9
    obtain ⟨k, hk, rfl, HBR, HSR, HOR, HKR⟩ := hrel
    by_cases hlt : k < L.length
    · obtain ⟨gb, rfl, hb8⟩ := HSR.out (by omega)
      obtain ⟨q1, q2, x, q3, q4, q5⟩ := hb8.at hlt
      have HB8 := Lib.hid hb8
      have hl1000 := HLEN.out
      have HOL : Hid (gb < w4.heap.size) := Lib.hid (HOLD.out gb rfl)
      clear hb8
      go_wp2_with fail
      go_roundw
      case rel =>
        refine ⟨k + 1, by omega, by go_num, Lib.hid (HBR.out.setCell q1 _), Lib.hid (fun _ => ⟨gb, rfl, HB8.out.set_ (by omega) (by omega)⟩), Lib.hid (HOR.out.old (only_set (only_refl gb wr) k _) (Old.some HOL.out)), Lib.hid (HKR.out.set_other (HB8.out.apart HKR.out (by decide)).symm)⟩
      case measure => simp only [intOf]; omega
    · have CEZ : Hid (Calls Try.prog 7 #[.agg #[.int .i64 M.kind, .int .i64 M.frm, .int .i64 M.dst, .int .i64 M.view, .int .i64 M.inst, .int .i64 M.len, .bool M.has, .int .i64 M.mem, .int .i64 M.src, .int .i64 M.pos, .int .i64 M.tot, .slice az.Ad M.data.length az.cd, .int .i64 M.hop, .int .i64 M.seq, .slice az.Ah M.hav.length az.ch, .slice az.An M.nee.length az.cn, .int .i64 M.idx, .int .i64 M.ent.s, .int .i64 M.ent.q, .int .i64 M.ent.c.kind, .int .i64 M.ent.c.who, .slice az.c.Ak M.ent.c.key.length az.c.ck, .slice az.c.Av M.ent.c.val.length az.c.cv, .slice az.c.Ao M.ent.c.old.length az.c.co]] wr (GotIn wr wr L)) := Lib.hid (encode11.is (a := az) (m := M) HL.out HW.out HOR.out.rd (Below.refl _ _))
      have hself : (strB L == strB L) = true := strB_self _
      have hself2 : ((strB L).toList == (strB L).toList) = true := by simp
      have hself3 : (strB L != strB L) = false := by simp [bne, hself]
      have hself4 : ((strB L).toList != (strB L).toList) = false := by simp [bne]
      have HST : Hid (OwSt w3 wr h9 az M) := Lib.hid ⟨HBR.out, HKR.out, fun hp => by
          obtain ⟨g, e, q⟩ := soft_own HOR.out.d HW.out.d.2 hp
          exact ⟨g, e, Nat.le_trans HW34.out q.1, q.2⟩, fun hp => by
          obtain ⟨g, e, q⟩ := ints_own HOR.out.h hp
          exact ⟨g, e, Nat.le_trans HW34.out q.1, q.2⟩, fun hp => by
          obtain ⟨g, e, q⟩ := ints_own HOR.out.n hp
          exact ⟨g, e, Nat.le_trans HW34.out q.1, q.2⟩⟩
      go_upto_region 12 with (first
        | (refine wpList_load_rowG (by rfl) 29 (.tmp 9) rfl h9 rfl 29 #[.int .i64 M.kind, .int .i64 M.frm, .int .i64 M.dst, .int .i64 M.view, .int .i64 M.inst, .int .i64 M.len, .bool M.has, .int .i64 M.mem, .int .i64 M.src, .int .i64 M.pos, .int .i64 M.tot, .slice az.Ad M.data.length az.cd, .int .i64 M.hop, .int .i64 M.seq, .slice az.Ah M.hav.length az.ch, .slice az.An M.nee.length az.cn, .int .i64 M.idx, .int .i64 M.ent.s, .int .i64 M.ent.q, .int .i64 M.ent.c.kind, .int .i64 M.ent.c.who, .slice az.c.Ak M.ent.c.key.length az.c.ck, .slice az.c.Av M.ent.c.val.length az.c.cv, .slice az.c.Ao M.ent.c.old.length az.c.co] (0, 0) _ HKR.out Try.underlying29 rfl (by kernel_rfl) ?_)
        | (go_at_call 7; refine CEZ.out.mono ?_; rintro e w7 ⟨A7, c7, rfl, ho7, hB7, hb7⟩; have hs7 := awake_str (c := c7) (Rd.own_ ho7); have HST := Lib.hid (HST.out.below hb7); clear ho7 hB7 hb7 CEZ)
        | fail)
      clear hs7 hself hself2 hself3 hself4 HBR HSR HOR HKR hlt HOLD
      have x0 : w7.cell? ⟨h9, 14, none⟩ = some (.slice az.Ah M.hav.length az.ch) := HST.out.k9.cell 14
      go_wp2_with fail
      clear x0
      go_loopw [12, 51] (fun sv si wr => ∃ k : Nat, k ≤ M.hav.length ∧ si = .int .i64 (k : Int) ∧ Hid (OwSt w3 wr h9 az M)) (fun _ si _ => M.hav.length - (intOf si).toNat)
      case atStart => exact ⟨0, Nat.zero_le _, rfl, HST⟩
      case round =>
        clear HST
        obtain ⟨k, hk, rfl, HST⟩ := hrel
        by_cases hlt : k < M.hav.length
        · obtain ⟨gi, hA, hi8⟩ := HST.out.h (by omega)
          obtain ⟨q1, q2, v, q3⟩ := hi8.at hlt
          have x0 : wr.cell? ⟨h9, 14, none⟩ = some (.slice (some ⟨gi, 0, none⟩) M.hav.length az.ch) := by rw [← hA]; exact HST.out.k9.cell 14
          have HI8 := Lib.hid hi8
          have hbnd : M.hav.length ≤ 2000000 := HW.out.h
          clear hi8 hA
          go_wp2_with fail
          go_roundw
          case rel => exact ⟨k + 1, by omega, by go_num, Lib.hid (HST.out.setI HI8.out)⟩
          case measure => simp only [intOf]; omega
        · go_upto_region 17 with fail
          have x0 : wr.cell? ⟨h9, 15, none⟩ = some (.slice az.An M.nee.length az.cn) := HST.out.k9.cell 15
          go_wp2_with fail
          clear x0
          go_loopw [13, 62] (fun sv si wr => ∃ k : Nat, k ≤ M.nee.length ∧ si = .int .i64 (k : Int) ∧ Hid (OwSt w3 wr h9 az M)) (fun _ si _ => M.nee.length - (intOf si).toNat)
          case atStart => exact ⟨0, Nat.zero_le _, rfl, HST⟩
          case round =>
            clear HST
            obtain ⟨k, hk, rfl, HST⟩ := hrel
            by_cases hlt : k < M.nee.length
            · obtain ⟨gi, hA, hi8⟩ := HST.out.n (by omega)
              obtain ⟨q1, q2, v, q3⟩ := hi8.at hlt
              have x0 : wr.cell? ⟨h9, 15, none⟩ = some (.slice (some ⟨gi, 0, none⟩) M.nee.length az.cn) := by rw [← hA]; exact HST.out.k9.cell 15
              have HI8 := Lib.hid hi8
              have hbnd : M.nee.length ≤ 2000000 := HW.out.n
              clear hi8 hA
              go_wp2_with fail
              go_roundw
              case rel => exact ⟨k + 1, by omega, by go_num, Lib.hid (HST.out.setI HI8.out)⟩
              case measure => simp only [intOf]; omega
            · go_upto_region 22 with fail
              have x0 : wr.cell? ⟨h9, 11, none⟩ = some (.slice az.Ad M.data.length az.cd) := HST.out.k9.cell 11
              go_wp2_with fail
              clear x0
              go_loopw [14, 73] (fun sv si wr => ∃ k : Nat, k ≤ M.data.length ∧ si = .int .i64 (k : Int) ∧ Hid (OwSt w3 wr h9 az M)) (fun _ si _ => M.data.length - (intOf si).toNat)
              case atStart => exact ⟨0, Nat.zero_le _, rfl, HST⟩
              case round =>
                clear HST
                obtain ⟨k, hk, rfl, HST⟩ := hrel
                by_cases hlt : k < M.data.length
                · obtain ⟨gi, hA, hi8⟩ := HST.out.d (by omega)
                  obtain ⟨q1, q2, x, q4, q5, q3⟩ := hi8.at hlt
                  have hup := up8 x q4 q5
                  have x0 : wr.cell? ⟨h9, 11, none⟩ = some (.slice (some ⟨gi, 0, none⟩) M.data.length az.cd) := by rw [← hA]; exact HST.out.k9.cell 11
                  have HI8 := Lib.hid hi8
                  have hbnd : M.data.length ≤ 2000000 := HW.out.d.1
                  clear hi8 hA
                  go_wp2_with fail
                  go_roundw
                  case rel => exact ⟨k + 1, by omega, by go_num, Lib.hid (HST.out.setB HI8.out (by omega) (by omega))⟩
                  case measure => simp only [intOf]; omega
                · have RX := HX.out.below HST.out.bel
                  have RY := HY.out.below HST.out.bel
                  have HK5 := Lib.hid (HK5.out.below HST.out.bel)
                  have HK6 := Lib.hid (HK6.out.below HST.out.bel)
                  have hTT : Hid (Below w3.heap.size w3 wr) := Lib.hid HST.out.bel
                  have SS : Hid (Calls Try.prog 11 #[.agg #[.int .i64 M.kind, .int .i64 M.frm, .int .i64 M.dst, .int .i64 M.view, .int .i64 M.inst, .int .i64 M.len, .bool M.has, .int .i64 M.mem, .int .i64 M.src, .int .i64 M.pos, .int .i64 M.tot, .slice ax.Ad M.data.length ax.cd, .int .i64 M.hop, .int .i64 M.seq, .slice ax.Ah M.hav.length ax.ch, .slice ax.An M.nee.length ax.cn, .int .i64 M.idx, .int .i64 M.ent.s, .int .i64 M.ent.q, .int .i64 M.ent.c.kind, .int .i64 M.ent.c.who, .slice ax.c.Ak M.ent.c.key.length ax.c.ck, .slice ax.c.Av M.ent.c.val.length ax.c.cv, .slice ax.c.Ao M.ent.c.old.length ax.c.co], .agg #[.int .i64 M.kind, .int .i64 M.frm, .int .i64 M.dst, .int .i64 M.view, .int .i64 M.inst, .int .i64 M.len, .bool M.has, .int .i64 M.mem, .int .i64 M.src, .int .i64 M.pos, .int .i64 M.tot, .slice ay.Ad M.data.length ay.cd, .int .i64 M.hop, .int .i64 M.seq, .slice ay.Ah M.hav.length ay.ch, .slice ay.An M.nee.length ay.cn, .int .i64 M.idx, .int .i64 M.ent.s, .int .i64 M.ent.q, .int .i64 M.ent.c.kind, .int .i64 M.ent.c.who, .slice ay.c.Ak M.ent.c.key.length ay.c.ck, .slice ay.c.Av M.ent.c.val.length ay.c.cv, .slice ay.c.Ao M.ent.c.old.length ay.c.co]] wr fun e w' => e = .returned (.bool true) ∧ Below wr.heap.size wr w') := Lib.hid (by
                    have q := refSame11_eq wr rfl HW.out HW.out RX RY
                    rw [decide_eq_true (rfl : M = M)] at q
                    exact q)
                  have hself : (strB L == strB L) = true := strB_self _
                  have hself2 : ((strB L).toList == (strB L).toList) = true := by simp
                  have AW : Hid (∀ wx, Calls Try.prog 9 #[] wx fun e w' => e = .returned (.bool true) ∧ Below wx.heap.size wx w') := Lib.hid (mesgAwake encode11 decode11 (fun w _ _ _ _ _ _ h1 h2 h3 h4 => same11 w h1 h2 h3 h4))
                  clear RX RY
                  go_wp2_with (first
                    | (refine wpList_load_row rfl 29 (.tmp 5) rfl h5 rfl 29 #[.int .i64 M.kind, .int .i64 M.frm, .int .i64 M.dst, .int .i64 M.view, .int .i64 M.inst, .int .i64 M.len, .bool M.has, .int .i64 M.mem, .int .i64 M.src, .int .i64 M.pos, .int .i64 M.tot, .slice ax.Ad M.data.length ax.cd, .int .i64 M.hop, .int .i64 M.seq, .slice ax.Ah M.hav.length ax.ch, .slice ax.An M.nee.length ax.cn, .int .i64 M.idx, .int .i64 M.ent.s, .int .i64 M.ent.q, .int .i64 M.ent.c.kind, .int .i64 M.ent.c.who, .slice ax.c.Ak M.ent.c.key.length ax.c.ck, .slice ax.c.Av M.ent.c.val.length ax.c.cv, .slice ax.c.Ao M.ent.c.old.length ax.c.co] (0, 0) _ HK5.out Try.underlying29 rfl (by kernel_rfl) ?_)
                    | (refine wpList_load_row rfl 29 (.tmp 6) rfl (h5 + 1) rfl 29 #[.int .i64 M.kind, .int .i64 M.frm, .int .i64 M.dst, .int .i64 M.view, .int .i64 M.inst, .int .i64 M.len, .bool M.has, .int .i64 M.mem, .int .i64 M.src, .int .i64 M.pos, .int .i64 M.tot, .slice ay.Ad M.data.length ay.cd, .int .i64 M.hop, .int .i64 M.seq, .slice ay.Ah M.hav.length ay.ch, .slice ay.An M.nee.length ay.cn, .int .i64 M.idx, .int .i64 M.ent.s, .int .i64 M.ent.q, .int .i64 M.ent.c.kind, .int .i64 M.ent.c.who, .slice ay.c.Ak M.ent.c.key.length ay.c.ck, .slice ay.c.Av M.ent.c.val.length ay.c.cv, .slice ay.c.Ao M.ent.c.old.length ay.c.co] (0, 0) _ HK6.out Try.underlying29 rfl (by kernel_rfl) ?_)
                    | (go_at_call 11; refine SS.out.mono ?_; rintro en w8 ⟨rfl, hb8⟩; have hTT := Lib.hid (hTT.out.trans (hb8.mono hTT.out.size)); have HK5 := Lib.hid (HK5.out.below hb8); clear hb8 SS)
                    | (refine wpList_load_rowG (by rfl) 29 (.tmp 5) rfl h5 rfl 29 #[.int .i64 M.kind, .int .i64 M.frm, .int .i64 M.dst, .int .i64 M.view, .int .i64 M.inst, .int .i64 M.len, .bool M.has, .int .i64 M.mem, .int .i64 M.src, .int .i64 M.pos, .int .i64 M.tot, .slice ax.Ad M.data.length ax.cd, .int .i64 M.hop, .int .i64 M.seq, .slice ax.Ah M.hav.length ax.ch, .slice ax.An M.nee.length ax.cn, .int .i64 M.idx, .int .i64 M.ent.s, .int .i64 M.ent.q, .int .i64 M.ent.c.kind, .int .i64 M.ent.c.who, .slice ax.c.Ak M.ent.c.key.length ax.c.ck, .slice ax.c.Av M.ent.c.val.length ax.c.cv, .slice ax.c.Ao M.ent.c.old.length ax.c.co] (0, 0) _ HK5.out Try.underlying29 rfl (by kernel_rfl) ?_)
                    | (go_at_call 7; refine (CE.out _ hTT.out).mono ?_; rintro e w9 ⟨A9, c9, rfl, ho9, hB9, hb9⟩; have hs9 := awake_str (c := c9) (Rd.own_ ho9); have hTT := Lib.hid (hTT.out.trans (hb9.mono hTT.out.size)); clear ho9 hB9 hb9 CE)
                    | (go_at_call 9; refine (AW.out _).mono ?_; rintro e w10 ⟨rfl, hb10⟩; have hTT := Lib.hid (hTT.out.trans (hb10.mono hTT.out.size)); clear hb10 AW)
                    | fail)
                  go_ret
                  exact ⟨rfl, HB.out.trans (hTT.out.mono HB.out.size)⟩
theorem mesgOwn_walk (a0 : Int) (a1 : Int) (w : World) (w0 : (Lit.int .i64 a0).wf = true) (w1 : (Lit.int .i64 a1).wf = true) : Calls Try.prog 4 #[.int .i64 a0, .int .i64 a1] w fun e w' => e = .returned (.bool true) ∧ Below w.heap.size w w' := mesgOwn_raw a0 a1 w
end Go.Proofs.Ytijcbbommaeejaa

