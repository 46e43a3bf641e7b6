/- MesgAwake2 MesgMsgM MesgBoundsWalk -/
import Derived.Test.YtijcbbommaeejaaB01
import Derived.Test.YtijcbbommaeejaaB02
import Derived.Test.YtijcbbommaeejaaB03
import Derived.Test.YtijcbbommaeejaaB04
import Derived.Test.YtijcbbommaeejaaB07
import Derived.Deep.CutBlock
import Derived.Deep.DeepCutAuto
import Derived.Deep.RegionHeld
import Derived.Deep.RegionHeld3
import Derived.Laws.DeepStrings4
import Derived.StillTail
import Derived.BigQuiet
import Derived.Deep.MidRow
import Derived.Deep.QuietTactic
namespace Go.Proofs.Ytijcbbommaeejaa
open Go.RowKit
set_option linter.unusedVariables false
set_option maxHeartbeats 4000000 in
set_option maxRecDepth 100000 in
theorem mesgAwake (hE : EncodeC11) (hD : DecodeC11) (hS : SameC11) : AwakeC11 := by
  intro w
  have hz0 : Blk ((((w.alloc (.cells #[.int .i64 5, .int .i64 4] 3)).alloc (.cells #[.int .i64 5] 3)).alloc (.cells #[.int .i64 0, .int .i64 0, .int .i64 0, .int .i64 0, .int .i64 0, .int .i64 0, .bool false, .int .i64 0, .int .i64 0, .int .i64 0, .int .i64 0, .slice none 0 0, .int .i64 0, .int .i64 0, .slice none 0 0, .slice none 0 0, .int .i64 0, .int .i64 0, .int .i64 0, .int .i64 0, .int .i64 0, .slice none 0 0, .slice none 0 0, .slice none 0 0] 29))) (w.heap.size + 1 + 1) 29 #[.int .i64 0, .int .i64 0, .int .i64 0, .int .i64 0, .int .i64 0, .int .i64 0, .bool false, .int .i64 0, .int .i64 0, .int .i64 0, .int .i64 0, .slice none 0 0, .int .i64 0, .int .i64 0, .slice none 0 0, .slice none 0 0, .int .i64 0, .int .i64 0, .int .i64 0, .int .i64 0, .int .i64 0, .slice none 0 0, .slice none 0 0, .slice none 0 0] := by
    have := Blk.new ((w.alloc (.cells #[.int .i64 5, .int .i64 4] 3)).alloc (.cells #[.int .i64 5] 3)) 29 #[.int .i64 0, .int .i64 0, .int .i64 0, .int .i64 0, .int .i64 0, .int .i64 0, .bool false, .int .i64 0, .int .i64 0, .int .i64 0, .int .i64 0, .slice none 0 0, .int .i64 0, .int .i64 0, .slice none 0 0, .slice none 0 0, .int .i64 0, .int .i64 0, .int .i64 0, .int .i64 0, .int .i64 0, .slice none 0 0, .slice none 0 0, .slice none 0 0]
    rwa [World.size_alloc, World.size_alloc] at this
  have b1 : Blk ((((w.alloc (.cells #[.int .i64 5, .int .i64 4] 3)).alloc (.cells #[.int .i64 5] 3)).alloc (.cells #[.int .i64 0, .int .i64 0, .int .i64 0, .int .i64 0, .int .i64 0, .int .i64 0, .bool false, .int .i64 0, .int .i64 0, .int .i64 0, .int .i64 0, .slice none 0 0, .int .i64 0, .int .i64 0, .slice none 0 0, .slice none 0 0, .int .i64 0, .int .i64 0, .int .i64 0, .int .i64 0, .int .i64 0, .slice none 0 0, .slice none 0 0, .slice none 0 0] 29))) w.heap.size 3 #[.int .i64 5, .int .i64 4] := ((Blk.new _ _ _).alloc _).alloc _
  have b2 : Blk ((((w.alloc (.cells #[.int .i64 5, .int .i64 4] 3)).alloc (.cells #[.int .i64 5] 3)).alloc (.cells #[.int .i64 0, .int .i64 0, .int .i64 0, .int .i64 0, .int .i64 0, .int .i64 0, .bool false, .int .i64 0, .int .i64 0, .int .i64 0, .int .i64 0, .slice none 0 0, .int .i64 0, .int .i64 0, .slice none 0 0, .slice none 0 0, .int .i64 0, .int .i64 0, .int .i64 0, .int .i64 0, .int .i64 0, .slice none 0 0, .slice none 0 0, .slice none 0 0] 29))) (w.heap.size + 1) 3 #[.int .i64 5] := by
    have := (Blk.new (w.alloc (.cells #[.int .i64 5, .int .i64 4] 3)) 3 #[.int .i64 5]).alloc (.cells #[.int .i64 0, .int .i64 0, .int .i64 0, .int .i64 0, .int .i64 0, .int .i64 0, .bool false, .int .i64 0, .int .i64 0, .int .i64 0, .int .i64 0, .slice none 0 0, .int .i64 0, .int .i64 0, .slice none 0 0, .slice none 0 0, .int .i64 0, .int .i64 0, .int .i64 0, .int .i64 0, .int .i64 0, .slice none 0 0, .slice none 0 0, .slice none 0 0] 29)
    rwa [World.size_alloc] at this
  have hb0 : Below w.heap.size w ((((w.alloc (.cells #[.int .i64 5, .int .i64 4] 3)).alloc (.cells #[.int .i64 5] 3)).alloc (.cells #[.int .i64 0, .int .i64 0, .int .i64 0, .int .i64 0, .int .i64 0, .int .i64 0, .bool false, .int .i64 0, .int .i64 0, .int .i64 0, .int .i64 0, .slice none 0 0, .int .i64 0, .int .i64 0, .slice none 0 0, .slice none 0 0, .int .i64 0, .int .i64 0, .int .i64 0, .int .i64 0, .int .i64 0, .slice none 0 0, .slice none 0 0, .slice none 0 0] 29))) := (((Below.refl _ _).alloc (Nat.le_refl _) _).alloc (by rw [World.size_alloc]; omega) _).alloc (by rw [World.size_alloc, World.size_alloc]; omega) _
  have hbz : Below w.heap.size w (((((w.alloc (.cells #[.int .i64 5, .int .i64 4] 3)).alloc (.cells #[.int .i64 5] 3)).alloc (.cells #[.int .i64 0, .int .i64 0, .int .i64 0, .int .i64 0, .int .i64 0, .int .i64 0, .bool false, .int .i64 0, .int .i64 0, .int .i64 0, .int .i64 0, .slice none 0 0, .int .i64 0, .int .i64 0, .slice none 0 0, .slice none 0 0, .int .i64 0, .int .i64 0, .int .i64 0, .int .i64 0, .int .i64 0, .slice none 0 0, .slice none 0 0, .slice none 0 0] 29))).setRow (w.heap.size + 1 + 1) #[.int .i64 7, .int .i64 1, .int .i64 2, .int .i64 300, .int .i64 0, .int .i64 0, .bool false, .int .i64 0, .int .i64 0, .int .i64 0, .int .i64 0, .slice none 0 0, .int .i64 4, .int .i64 5, .slice (some ⟨w.heap.size, 0, none⟩) 2 2, .slice (some ⟨w.heap.size + 1, 0, none⟩) 1 1, .int .i64 0, .int .i64 0, .int .i64 0, .int .i64 0, .int .i64 0, .slice none 0 0, .slice none 0 0, .slice none 0 0]) := below_setRow hb0 (by omega) _
  have c1 := b1.row_other (g := w.heap.size + 1 + 1) (by omega) #[.int .i64 7, .int .i64 1, .int .i64 2, .int .i64 300, .int .i64 0, .int .i64 0, .bool false, .int .i64 0, .int .i64 0, .int .i64 0, .int .i64 0, .slice none 0 0, .int .i64 4, .int .i64 5, .slice (some ⟨w.heap.size, 0, none⟩) 2 2, .slice (some ⟨w.heap.size + 1, 0, none⟩) 1 1, .int .i64 0, .int .i64 0, .int .i64 0, .int .i64 0, .int .i64 0, .slice none 0 0, .slice none 0 0, .slice none 0 0]
  have c2 := b2.row_other (g := w.heap.size + 1 + 1) (by omega) #[.int .i64 7, .int .i64 1, .int .i64 2, .int .i64 300, .int .i64 0, .int .i64 0, .bool false, .int .i64 0, .int .i64 0, .int .i64 0, .int .i64 0, .slice none 0 0, .int .i64 4, .int .i64 5, .slice (some ⟨w.heap.size, 0, none⟩) 2 2, .slice (some ⟨w.heap.size + 1, 0, none⟩) 1 1, .int .i64 0, .int .i64 0, .int .i64 0, .int .i64 0, .int .i64 0, .slice none 0 0, .slice none 0 0, .slice none 0 0]
  have c3 := hz0.row #[.int .i64 7, .int .i64 1, .int .i64 2, .int .i64 300, .int .i64 0, .int .i64 0, .bool false, .int .i64 0, .int .i64 0, .int .i64 0, .int .i64 0, .slice none 0 0, .int .i64 4, .int .i64 5, .slice (some ⟨w.heap.size, 0, none⟩) 2 2, .slice (some ⟨w.heap.size + 1, 0, none⟩) 1 1, .int .i64 0, .int .i64 0, .int .i64 0, .int .i64 0, .int .i64 0, .slice none 0 0, .slice none 0 0, .slice none 0 0]
  have HZ := Lib.hid hz0
  clear b1 b2 hb0 hz0
  go_enter Try.func9, Try.ntmps9
  go_upto_region 2 with (first
    | (refine wpList_store_row rfl 29 (.tmp 1) (.tmp 9) rfl (w.heap.size + 1 + 1) #[.int .i64 7, .int .i64 1, .int .i64 2, .int .i64 300, .int .i64 0, .int .i64 0, .bool false, .int .i64 0, .int .i64 0, .int .i64 0, .int .i64 0, .slice none 0 0, .int .i64 4, .int .i64 5, .slice (some ⟨w.heap.size, 0, none⟩) 2 2, .slice (some ⟨w.heap.size + 1, 0, none⟩) 1 1, .int .i64 0, .int .i64 0, .int .i64 0, .int .i64 0, .int .i64 0, .slice none 0 0, .slice none 0 0, .slice none 0 0] rfl rfl 29 #[.int .i64 0, .int .i64 0, .int .i64 0, .int .i64 0, .int .i64 0, .int .i64 0, .bool false, .int .i64 0, .int .i64 0, .int .i64 0, .int .i64 0, .slice none 0 0, .int .i64 0, .int .i64 0, .slice none 0 0, .slice none 0 0, .int .i64 0, .int .i64 0, .int .i64 0, .int .i64 0, .int .i64 0, .slice none 0 0, .slice none 0 0, .slice none 0 0] HZ.out (by kernel_rfl) rfl (by kernel_rfl) ?_)
    | fail)
  clear HZ
  obtain ⟨h, hh⟩ : ∃ h, w.heap.size = h := ⟨_, rfl⟩
  generalize ((((w.alloc (.cells #[.int .i64 5, .int .i64 4] 3)).alloc (.cells #[.int .i64 5] 3)).alloc (.cells #[.int .i64 0, .int .i64 0, .int .i64 0, .int .i64 0, .int .i64 0, .int .i64 0, .bool false, .int .i64 0, .int .i64 0, .int .i64 0, .int .i64 0, .slice none 0 0, .int .i64 0, .int .i64 0, .slice none 0 0, .slice none 0 0, .int .i64 0, .int .i64 0, .int .i64 0, .int .i64 0, .int .i64 0, .slice none 0 0, .slice none 0 0, .slice none 0 0] 29))).setRow (w.heap.size + 1 + 1) #[.int .i64 7, .int .i64 1, .int .i64 2, .int .i64 300, .int .i64 0, .int .i64 0, .bool false, .int .i64 0, .int .i64 0, .int .i64 0, .int .i64 0, .slice none 0 0, .int .i64 4, .int .i64 5, .slice (some ⟨w.heap.size, 0, none⟩) 2 2, .slice (some ⟨w.heap.size + 1, 0, none⟩) 1 1, .int .i64 0, .int .i64 0, .int .i64 0, .int .i64 0, .int .i64 0, .slice none 0 0, .slice none 0 0, .slice none 0 0] = w1 at hbz c1 c2 c3 ⊢
  rw [hh] at c1 c2 c3 ⊢
  have HB := Lib.hid hbz
  have HK1 := Lib.hid c3
  obtain ⟨a1, ha1⟩ : ∃ a : GA, a = ⟨none, 0, some ⟨h, 0, none⟩, 2, some ⟨h + 1, 0, none⟩, 1, CA.zero⟩ := ⟨_, rfl⟩
  have r1 : RdT w1 3 (some ⟨h, 0, none⟩) 2 (iv [5, 4]) := ⟨rfl, fun _ => ⟨_, 0, _, rfl, c1, fun i hi => by match i, hi with | 0, _ => rfl | 1, _ => rfl⟩⟩
  have r2 : RdT w1 3 (some ⟨h + 1, 0, none⟩) 1 (iv [5]) := ⟨rfl, fun _ => ⟨_, 0, _, rfl, c2, fun i hi => by match i, hi with | 0, _ => rfl⟩⟩
  have hr1 : RdG w1 w1.heap.size a1 mesgA.M1 := by rw [ha1]; exact ⟨Rd.none_ _ _ _, r1.rd, r2.rd, RdC.zero _ _, ⟨Nat.le_refl _, by show (2 : Nat) ≤ maxLen; unfold maxLen; omega⟩, ⟨Nat.le_refl _, by show (1 : Nat) ≤ maxLen; unfold maxLen; omega⟩⟩
  have hv1 : msgV a1 mesgA.M1 = .agg #[.int .i64 7, .int .i64 1, .int .i64 2, .int .i64 300, .int .i64 0, .int .i64 0, .bool false, .int .i64 0, .int .i64 0, .int .i64 0, .int .i64 0, .slice none 0 0, .int .i64 4, .int .i64 5, .slice (some ⟨h, 0, none⟩) 2 2, .slice (some ⟨h + 1, 0, none⟩) 1 1, .int .i64 0, .int .i64 0, .int .i64 0, .int .i64 0, .int .i64 0, .slice none 0 0, .slice none 0 0, .slice none 0 0] := by rw [ha1]; rfl
  have hsz : h + 1 + 1 < w1.heap.size := c3.lt
  have HR1 := Lib.hid hr1
  have HV1 := Lib.hid hv1
  have C1 : Hid (Calls Try.prog 7 #[.agg #[.int .i64 7, .int .i64 1, .int .i64 2, .int .i64 300, .int .i64 0, .int .i64 0, .bool false, .int .i64 0, .int .i64 0, .int .i64 0, .int .i64 0, .slice none 0 0, .int .i64 4, .int .i64 5, .slice (some ⟨h, 0, none⟩) 2 2, .slice (some ⟨h + 1, 0, none⟩) 1 1, .int .i64 0, .int .i64 0, .int .i64 0, .int .i64 0, .int .i64 0, .slice none 0 0, .slice none 0 0, .slice none 0 0]] w1 (GotIn w1 w1 [7, 1, 2, 172, 2, 4, 5, 2, 5, 4, 1, 5])) := Lib.hid (by rw [← hv1]; exact hE.is mesgA.e1 mesgA.w1 hr1 (Below.refl _ _))
  have HSZ := Lib.hid hsz
  clear hbz c1 c2 c3 r1 r2 hr1 ha1 hv1 hh hsz
  go_upto_region 3 with (first
    | (refine wpList_load_row rfl 29 (.tmp 1) rfl (h + 1 + 1) rfl 29 #[.int .i64 7, .int .i64 1, .int .i64 2, .int .i64 300, .int .i64 0, .int .i64 0, .bool false, .int .i64 0, .int .i64 0, .int .i64 0, .int .i64 0, .slice none 0 0, .int .i64 4, .int .i64 5, .slice (some ⟨h, 0, none⟩) 2 2, .slice (some ⟨h + 1, 0, none⟩) 1 1, .int .i64 0, .int .i64 0, .int .i64 0, .int .i64 0, .int .i64 0, .slice none 0 0, .slice none 0 0, .slice none 0 0] (0, 0) _ HK1.out Try.underlying29 rfl (by kernel_rfl) ?_)
    | (go_at_call 7; refine C1.out.mono ?_; rintro e w2 ⟨A2, c2, he, ho2, hB2, hb2⟩
       have he2 : e = .returned (.slice A2 12 c2) := he
       clear he
       subst he2
       have ho2' : OwnB w1 w2 A2 12 c2 [7, 1, 2, 172, 2, 4, 5, 2, 5, 4, 1, 5] := ho2
       have HO2 := Lib.hid ho2'
       have HB2 := Lib.hid hB2
       clear ho2 ho2' hB2 hb2 C1)
    | fail)
  have C2 : Hid (Calls Try.prog 8 #[.slice A2 12 c2] w2 (GotG w2 w2 (some mesgA.M1))) := Lib.hid (hD.is mesgA.d1 (by decide) (by decide) (Rd.own_ HO2.out) (Below.refl _ _))
  go_upto_region 4 with (first
    | (go_at_call 8; refine C2.out.mono ?_; rintro e w3 ⟨a3, he, ho3, hB3, hb3⟩
       have he2 : e = .returned (.tuple #[.agg #[.int .i64 7, .int .i64 1, .int .i64 2, .int .i64 300, .int .i64 0, .int .i64 0, .bool false, .int .i64 0, .int .i64 0, .int .i64 0, .int .i64 0, .slice a3.Ad 0 a3.cd, .int .i64 4, .int .i64 5, .slice a3.Ah 2 a3.ch, .slice a3.An 1 a3.cn, .int .i64 0, .int .i64 0, .int .i64 0, .int .i64 0, .int .i64 0, .slice a3.c.Ak 0 a3.c.ck, .slice a3.c.Av 0 a3.c.cv, .slice a3.c.Ao 0 a3.c.co], .bool true]) := he
       clear he
       subst he2
       have ho3' : OwnG w2 w3 a3 mesgA.M1 := ho3
       have HO3 := Lib.hid ho3'
       have HB3 := Lib.hid hB3
       have HZ3 := Lib.hid (Blk.new w3 29 #[.int .i64 0, .int .i64 0, .int .i64 0, .int .i64 0, .int .i64 0, .int .i64 0, .bool false, .int .i64 0, .int .i64 0, .int .i64 0, .int .i64 0, .slice none 0 0, .int .i64 0, .int .i64 0, .slice none 0 0, .slice none 0 0, .int .i64 0, .int .i64 0, .int .i64 0, .int .i64 0, .int .i64 0, .slice none 0 0, .slice none 0 0, .slice none 0 0])
       clear ho3 ho3' hB3 hb3 C2)
    | (refine wpList_store_row rfl 29 (.tmp 3) (.tmp 15) rfl w3.heap.size #[.int .i64 7, .int .i64 1, .int .i64 2, .int .i64 300, .int .i64 0, .int .i64 0, .bool false, .int .i64 0, .int .i64 0, .int .i64 0, .int .i64 0, .slice a3.Ad 0 a3.cd, .int .i64 4, .int .i64 5, .slice a3.Ah 2 a3.ch, .slice a3.An 1 a3.cn, .int .i64 0, .int .i64 0, .int .i64 0, .int .i64 0, .int .i64 0, .slice a3.c.Ak 0 a3.c.ck, .slice a3.c.Av 0 a3.c.cv, .slice a3.c.Ao 0 a3.c.co] rfl rfl 29 #[.int .i64 0, .int .i64 0, .int .i64 0, .int .i64 0, .int .i64 0, .int .i64 0, .bool false, .int .i64 0, .int .i64 0, .int .i64 0, .int .i64 0, .slice none 0 0, .int .i64 0, .int .i64 0, .slice none 0 0, .slice none 0 0, .int .i64 0, .int .i64 0, .int .i64 0, .int .i64 0, .int .i64 0, .slice none 0 0, .slice none 0 0, .slice none 0 0] HZ3.out (by kernel_rfl) rfl (by kernel_rfl) ?_)
    | fail)
  have hb34 : Below w3.heap.size w3 ((w3.alloc (.cells #[.int .i64 0, .int .i64 0, .int .i64 0, .int .i64 0, .int .i64 0, .int .i64 0, .bool false, .int .i64 0, .int .i64 0, .int .i64 0, .int .i64 0, .slice none 0 0, .int .i64 0, .int .i64 0, .slice none 0 0, .slice none 0 0, .int .i64 0, .int .i64 0, .int .i64 0, .int .i64 0, .int .i64 0, .slice none 0 0, .slice none 0 0, .slice none 0 0] 29)).setRow w3.heap.size #[.int .i64 7, .int .i64 1, .int .i64 2, .int .i64 300, .int .i64 0, .int .i64 0, .bool false, .int .i64 0, .int .i64 0, .int .i64 0, .int .i64 0, .slice a3.Ad 0 a3.cd, .int .i64 4, .int .i64 5, .slice a3.Ah 2 a3.ch, .slice a3.An 1 a3.cn, .int .i64 0, .int .i64 0, .int .i64 0, .int .i64 0, .int .i64 0, .slice a3.c.Ak 0 a3.c.ck, .slice a3.c.Av 0 a3.c.cv, .slice a3.c.Ao 0 a3.c.co]) := below_setRow ((Below.refl _ _).alloc (Nat.le_refl _) _) (Nat.le_refl _) _
  have HK3 := Lib.hid (HZ3.out.row #[.int .i64 7, .int .i64 1, .int .i64 2, .int .i64 300, .int .i64 0, .int .i64 0, .bool false, .int .i64 0, .int .i64 0, .int .i64 0, .int .i64 0, .slice a3.Ad 0 a3.cd, .int .i64 4, .int .i64 5, .slice a3.Ah 2 a3.ch, .slice a3.An 1 a3.cn, .int .i64 0, .int .i64 0, .int .i64 0, .int .i64 0, .int .i64 0, .slice a3.c.Ak 0 a3.c.ck, .slice a3.c.Av 0 a3.c.cv, .slice a3.c.Ao 0 a3.c.co])
  obtain ⟨h3, hh3⟩ : ∃ h3, w3.heap.size = h3 := ⟨_, rfl⟩
  generalize (w3.alloc (.cells #[.int .i64 0, .int .i64 0, .int .i64 0, .int .i64 0, .int .i64 0, .int .i64 0, .bool false, .int .i64 0, .int .i64 0, .int .i64 0, .int .i64 0, .slice none 0 0, .int .i64 0, .int .i64 0, .slice none 0 0, .slice none 0 0, .int .i64 0, .int .i64 0, .int .i64 0, .int .i64 0, .int .i64 0, .slice none 0 0, .slice none 0 0, .slice none 0 0] 29)).setRow w3.heap.size #[.int .i64 7, .int .i64 1, .int .i64 2, .int .i64 300, .int .i64 0, .int .i64 0, .bool false, .int .i64 0, .int .i64 0, .int .i64 0, .int .i64 0, .slice a3.Ad 0 a3.cd, .int .i64 4, .int .i64 5, .slice a3.Ah 2 a3.ch, .slice a3.An 1 a3.cn, .int .i64 0, .int .i64 0, .int .i64 0, .int .i64 0, .int .i64 0, .slice a3.c.Ak 0 a3.c.ck, .slice a3.c.Av 0 a3.c.cv, .slice a3.c.Ao 0 a3.c.co] = w4 at hb34 HK3 ⊢
  have HO3 := Lib.hid (HO3.out.below hb34)
  have HB24 : Hid (Below w2.heap.size w2 w4) := Lib.hid (HB3.out.trans (hb34.mono HB3.out.size))
  rw [hh3] at HK3 ⊢
  clear hb34 HZ3 HB3 hh3
  have bb : Below w4.heap.size w4 (w4.alloc (.cells #[.int .u8 0] 5)) := (Below.refl _ _).alloc (Nat.le_refl _) _
  have HO4 : Hid (OwnB w1 (w4.alloc (.cells #[.int .u8 0] 5)) A2 12 c2 [7, 1, 2, 172, 2, 4, 5, 2, 5, 4, 1, 5]) := Lib.hid (own_below (own_below HO2.out HB24.out) bb)
  have HB4 : Hid (Below w1.heap.size w1 (w4.alloc (.cells #[.int .u8 0] 5))) := Lib.hid (HB2.out.trans ((HB24.out.trans (bb.mono HB24.out.size)).mono HB2.out.size))
  have HK4 := Lib.hid (HK3.out.alloc (.cells #[.int .u8 0] 5))
  have HO3 := Lib.hid (HO3.out.below bb)
  have HOLD : Hid (Old w2 (Value.slice A2 12 c2).ownBlock) := Lib.hid (own_row_old HO2.out (Nat.le_refl _))
  have y0 : (w4.alloc (.cells #[.int .u8 0] 5)).cell? ⟨w4.heap.size, 0, none⟩ = some (.int .u8 ((0 : Nat) : Int)) := (Blk.new w4 5 #[.int .u8 0]).cell 0
  have Y0 := Lib.hid y0
  clear bb HK3 y0
  go_upto_region 5 with (first
    | (at_builtin
       refine wpList_append_keep (W := w1) (y := 0) (k := w4.heap.size) rfl (.tmp 18) (.tmp 19) rfl rfl HO4.out rfl Y0.out (by omega) HB4.out ?_
       intro A5 c5 w5 hown5 hrd5 hB5 hg5
       have HO5 := Lib.hid hown5
       have HR5 := Lib.hid hrd5
       have HB5 := Lib.hid hB5
       have HK5 := Lib.hid (HK4.out.apart_own HO4.out (by decide) hg5)
       have HO3 := Lib.hid (HO3.out.old hg5 HOLD.out)
       have C5 : Hid (Calls Try.prog 8 #[.slice A5 13 c5] w5 (GotG w5 w5 none)) := Lib.hid (hD.is mesgA.d2 (by decide) (by decide) (Rd.own_ hown5) (Below.refl _ _))
       clear hown5 hrd5 hB5 hg5 HO4 HB4 HK4 HOLD Y0)
    | (go_at_call 8; refine C5.out.mono ?_; rintro e w6 ⟨a6, he, ho6, hB6, hb6⟩
       have he2 : e = .returned (.tuple #[.agg #[.int .i64 0, .int .i64 0, .int .i64 0, .int .i64 0, .int .i64 0, .int .i64 0, .bool false, .int .i64 0, .int .i64 0, .int .i64 0, .int .i64 0, .slice a6.Ad 0 a6.cd, .int .i64 0, .int .i64 0, .slice a6.Ah 0 a6.ch, .slice a6.An 0 a6.cn, .int .i64 0, .int .i64 0, .int .i64 0, .int .i64 0, .int .i64 0, .slice a6.c.Ak 0 a6.c.ck, .slice a6.c.Av 0 a6.c.cv, .slice a6.c.Ao 0 a6.c.co], .bool false]) := he
       clear he
       subst he2
       have HB6 := Lib.hid hB6
       have HZ6 := Lib.hid (Blk.new w6 29 #[.int .i64 0, .int .i64 0, .int .i64 0, .int .i64 0, .int .i64 0, .int .i64 0, .bool false, .int .i64 0, .int .i64 0, .int .i64 0, .int .i64 0, .slice none 0 0, .int .i64 0, .int .i64 0, .slice none 0 0, .slice none 0 0, .int .i64 0, .int .i64 0, .int .i64 0, .int .i64 0, .int .i64 0, .slice none 0 0, .slice none 0 0, .slice none 0 0])
       clear ho6 hB6 hb6 C5)
    | (refine wpList_store_row rfl 29 (.tmp 5) (.tmp 22) rfl w6.heap.size #[.int .i64 0, .int .i64 0, .int .i64 0, .int .i64 0, .int .i64 0, .int .i64 0, .bool false, .int .i64 0, .int .i64 0, .int .i64 0, .int .i64 0, .slice a6.Ad 0 a6.cd, .int .i64 0, .int .i64 0, .slice a6.Ah 0 a6.ch, .slice a6.An 0 a6.cn, .int .i64 0, .int .i64 0, .int .i64 0, .int .i64 0, .int .i64 0, .slice a6.c.Ak 0 a6.c.ck, .slice a6.c.Av 0 a6.c.cv, .slice a6.c.Ao 0 a6.c.co] rfl rfl 29 #[.int .i64 0, .int .i64 0, .int .i64 0, .int .i64 0, .int .i64 0, .int .i64 0, .bool false, .int .i64 0, .int .i64 0, .int .i64 0, .int .i64 0, .slice none 0 0, .int .i64 0, .int .i64 0, .slice none 0 0, .slice none 0 0, .int .i64 0, .int .i64 0, .int .i64 0, .int .i64 0, .int .i64 0, .slice none 0 0, .slice none 0 0, .slice none 0 0] HZ6.out (by kernel_rfl) rfl (by kernel_rfl) ?_)
    | fail)
  have hb67 : Below w6.heap.size w6 ((w6.alloc (.cells #[.int .i64 0, .int .i64 0, .int .i64 0, .int .i64 0, .int .i64 0, .int .i64 0, .bool false, .int .i64 0, .int .i64 0, .int .i64 0, .int .i64 0, .slice none 0 0, .int .i64 0, .int .i64 0, .slice none 0 0, .slice none 0 0, .int .i64 0, .int .i64 0, .int .i64 0, .int .i64 0, .int .i64 0, .slice none 0 0, .slice none 0 0, .slice none 0 0] 29)).setRow w6.heap.size #[.int .i64 0, .int .i64 0, .int .i64 0, .int .i64 0, .int .i64 0, .int .i64 0, .bool false, .int .i64 0, .int .i64 0, .int .i64 0, .int .i64 0, .slice a6.Ad 0 a6.cd, .int .i64 0, .int .i64 0, .slice a6.Ah 0 a6.ch, .slice a6.An 0 a6.cn, .int .i64 0, .int .i64 0, .int .i64 0, .int .i64 0, .int .i64 0, .slice a6.c.Ak 0 a6.c.ck, .slice a6.c.Av 0 a6.c.cv, .slice a6.c.Ao 0 a6.c.co]) := below_setRow ((Below.refl _ _).alloc (Nat.le_refl _) _) (Nat.le_refl _) _
  generalize (w6.alloc (.cells #[.int .i64 0, .int .i64 0, .int .i64 0, .int .i64 0, .int .i64 0, .int .i64 0, .bool false, .int .i64 0, .int .i64 0, .int .i64 0, .int .i64 0, .slice none 0 0, .int .i64 0, .int .i64 0, .slice none 0 0, .slice none 0 0, .int .i64 0, .int .i64 0, .int .i64 0, .int .i64 0, .int .i64 0, .slice none 0 0, .slice none 0 0, .slice none 0 0] 29)).setRow w6.heap.size #[.int .i64 0, .int .i64 0, .int .i64 0, .int .i64 0, .int .i64 0, .int .i64 0, .bool false, .int .i64 0, .int .i64 0, .int .i64 0, .int .i64 0, .slice a6.Ad 0 a6.cd, .int .i64 0, .int .i64 0, .slice a6.Ah 0 a6.ch, .slice a6.An 0 a6.cn, .int .i64 0, .int .i64 0, .int .i64 0, .int .i64 0, .int .i64 0, .slice a6.c.Ak 0 a6.c.ck, .slice a6.c.Av 0 a6.c.cv, .slice a6.c.Ao 0 a6.c.co] = w7 at hb67 ⊢
  have hb57 : Below w5.heap.size w5 w7 := HB6.out.trans (hb67.mono HB6.out.size)
  have HB17 : Hid (Below w1.heap.size w1 w7) := Lib.hid (HB5.out.trans (hb57.mono HB5.out.size))
  have HK3 := Lib.hid (HK5.out.below hb57)
  have HR3 := Lib.hid ((HO3.out.rd).below hb57)
  have HRA := Lib.hid (HR5.out.below hb57)
  have HK1 := Lib.hid (HK1.out.below HB17.out)
  have HR1 := Lib.hid (HR1.out.below HB17.out)
  have SA : Hid (∀ wx, Below w7.heap.size w7 wx → Calls Try.prog 13 #[.agg #[.int .i64 7, .int .i64 1, .int .i64 2, .int .i64 300, .int .i64 0, .int .i64 0, .bool false, .int .i64 0, .int .i64 0, .int .i64 0, .int .i64 0, .slice a3.Ad 0 a3.cd, .int .i64 4, .int .i64 5, .slice a3.Ah 2 a3.ch, .slice a3.An 1 a3.cn, .int .i64 0, .int .i64 0, .int .i64 0, .int .i64 0, .int .i64 0, .slice a3.c.Ak 0 a3.c.ck, .slice a3.c.Av 0 a3.c.cv, .slice a3.c.Ao 0 a3.c.co], .agg #[.int .i64 7, .int .i64 1, .int .i64 2, .int .i64 300, .int .i64 0, .int .i64 0, .bool false, .int .i64 0, .int .i64 0, .int .i64 0, .int .i64 0, .slice none 0 0, .int .i64 4, .int .i64 5, .slice (some ⟨h, 0, none⟩) 2 2, .slice (some ⟨h + 1, 0, none⟩) 1 1, .int .i64 0, .int .i64 0, .int .i64 0, .int .i64 0, .int .i64 0, .slice none 0 0, .slice none 0 0, .slice none 0 0]] wx fun e w' => e = .returned (.bool true) ∧ Below wx.heap.size wx w') := Lib.hid (fun wx hb => by
    rw [← HV1.out]
    exact hS.is (a := a3) (m := mesgA.M1) (a' := a1) (m' := mesgA.M1) (b := true) wx (decide_eq_true rfl) mesgA.w1 mesgA.w1 (HR3.out.fit.below hb) (HR1.out.fit.below hb))
  have SB : Hid (∀ wx, Below w7.heap.size w7 wx → Calls Try.prog 13 #[.agg #[.int .i64 7, .int .i64 1, .int .i64 2, .int .i64 300, .int .i64 0, .int .i64 0, .bool false, .int .i64 0, .int .i64 0, .int .i64 0, .int .i64 0, .slice none 0 0, .int .i64 4, .int .i64 5, .slice (some ⟨h, 0, none⟩) 2 2, .slice (some ⟨h + 1, 0, none⟩) 1 1, .int .i64 0, .int .i64 0, .int .i64 0, .int .i64 0, .int .i64 0, .slice none 0 0, .slice none 0 0, .slice none 0 0], .agg #[.int .i64 0, .int .i64 0, .int .i64 0, .int .i64 0, .int .i64 0, .int .i64 0, .bool false, .int .i64 0, .int .i64 0, .int .i64 0, .int .i64 0, .slice none 0 0, .int .i64 0, .int .i64 0, .slice none 0 0, .slice none 0 0, .int .i64 0, .int .i64 0, .int .i64 0, .int .i64 0, .int .i64 0, .slice none 0 0, .slice none 0 0, .slice none 0 0]] wx fun e w' => e = .returned (.bool false) ∧ Below wx.heap.size wx w') := Lib.hid (fun wx hb => by
    rw [← HV1.out]
    exact hS.is (a := a1) (m := mesgA.M1) (a' := GA.zero) (m' := Mg.zero) (b := false) wx mesgA.n1 mesgA.w1 Mg.Wide.zero (HR1.out.fit.below hb) (RdG.zero wx wx.heap.size))
  have E0 : Hid (∀ wx, Calls Try.prog 7 #[.agg #[.int .i64 0, .int .i64 0, .int .i64 0, .int .i64 0, .int .i64 0, .int .i64 0, .bool false, .int .i64 0, .int .i64 0, .int .i64 0, .int .i64 0, .slice none 0 0, .int .i64 0, .int .i64 0, .slice none 0 0, .slice none 0 0, .int .i64 0, .int .i64 0, .int .i64 0, .int .i64 0, .int .i64 0, .slice none 0 0, .slice none 0 0, .slice none 0 0]] wx fun e w' => ∃ A c, e = .returned (.slice A 0 c) ∧ Below wx.heap.size wx w') := Lib.hid (fun wx => (hE.is (W := wx) (a := GA.zero) (m := Mg.zero) (l := []) mesgA.e0 Mg.Wide.zero (RdG.zero wx wx.heap.size) (Below.refl _ _)).mono fun e w' ⟨A, c, q1, _, q2, _⟩ => ⟨A, c, q1, q2⟩)
  have E7 : Hid (∀ wx, Calls Try.prog 7 #[.agg #[.int .i64 1, .int .i64 7, .int .i64 0, .int .i64 0, .int .i64 0, .int .i64 0, .bool false, .int .i64 0, .int .i64 0, .int .i64 0, .int .i64 0, .slice none 0 0, .int .i64 0, .int .i64 0, .slice none 0 0, .slice none 0 0, .int .i64 0, .int .i64 0, .int .i64 0, .int .i64 0, .int .i64 0, .slice none 0 0, .slice none 0 0, .slice none 0 0]] wx fun e w' => ∃ A c, e = .returned (.slice A 0 c) ∧ Below wx.heap.size wx w') := Lib.hid (fun wx => (hE.is (W := wx) (a := GA.zero) (m := mesgA.M7) (l := []) (B := wx.heap.size) mesgA.e7 mesgA.w7 ⟨Rd.none_ _ _ _, Rd.none_ _ _ _, Rd.none_ _ _ _, RdC.zero _ _, ⟨Nat.le_refl _, Nat.zero_le _⟩, ⟨Nat.le_refl _, Nat.zero_le _⟩⟩ (Below.refl _ _)).mono fun e w' ⟨A, c, q1, _, q2, _⟩ => ⟨A, c, q1, q2⟩)
  have hstr := awake_str (c := c2) HRA.out
  have e2 : (strB [7, 1, 2, 172, 2, 4, 5, 2, 5, 4, 1, 5] == ⟨#[7, 1, 2, 172, 2, 4, 5, 2, 5, 4, 1, 5]⟩) = true := by kernel_rfl
  have e3 : ((strB [7, 1, 2, 172, 2, 4, 5, 2, 5, 4, 1, 5]).toList == [7, 1, 2, 172, 2, 4, 5, 2, 5, 4, 1, 5]) = true := by kernel_rfl
  have HB7 := Lib.hid (HB.out.trans (HB17.out.mono HB.out.size))
  have hT : Hid (Below w7.heap.size w7 w7) := Lib.hid (Below.refl _ _)
  clear hb67 hb57 HB HB17 HO5 HR5 HRA HR1 HR3 HO3 HK5 HB2 HB24 HB5 HB6 HO2 HZ6 HV1 HSZ
  go_wp2_with (first
    | (refine wpList_load_rowG (by rfl) 29 (.tmp 3) rfl h3 rfl 29 #[.int .i64 7, .int .i64 1, .int .i64 2, .int .i64 300, .int .i64 0, .int .i64 0, .bool false, .int .i64 0, .int .i64 0, .int .i64 0, .int .i64 0, .slice a3.Ad 0 a3.cd, .int .i64 4, .int .i64 5, .slice a3.Ah 2 a3.ch, .slice a3.An 1 a3.cn, .int .i64 0, .int .i64 0, .int .i64 0, .int .i64 0, .int .i64 0, .slice a3.c.Ak 0 a3.c.ck, .slice a3.c.Av 0 a3.c.cv, .slice a3.c.Ao 0 a3.c.co] (0, 0) _ (HK3.out.below hT.out) Try.underlying29 rfl (by kernel_rfl) ?_)
    | (refine wpList_load_rowG (by rfl) 29 (.tmp 1) rfl (h + 1 + 1) rfl 29 #[.int .i64 7, .int .i64 1, .int .i64 2, .int .i64 300, .int .i64 0, .int .i64 0, .bool false, .int .i64 0, .int .i64 0, .int .i64 0, .int .i64 0, .slice none 0 0, .int .i64 4, .int .i64 5, .slice (some ⟨h, 0, none⟩) 2 2, .slice (some ⟨h + 1, 0, none⟩) 1 1, .int .i64 0, .int .i64 0, .int .i64 0, .int .i64 0, .int .i64 0, .slice none 0 0, .slice none 0 0, .slice none 0 0] (0, 0) _ (HK1.out.below hT.out) Try.underlying29 rfl (by kernel_rfl) ?_)
    | (go_at_call 13; refine (SA.out _ hT.out).mono ?_; rintro en w8 ⟨rfl, hb8⟩; have hT := Lib.hid (hT.out.trans (hb8.mono hT.out.size)); clear hb8 SA)
    | (go_at_call 7; refine (E0.out _).mono ?_; rintro en w8 ⟨A8, c8, rfl, hb8⟩; have hT := Lib.hid (hT.out.trans (hb8.mono hT.out.size)); clear hb8 E0)
    | (go_at_call 7; refine (E7.out _).mono ?_; rintro en w8 ⟨A8, c8, rfl, hb8⟩; have hT := Lib.hid (hT.out.trans (hb8.mono hT.out.size)); clear hb8 E7)
    | (go_at_call 13; refine (SB.out _ hT.out).mono ?_; rintro en w8 ⟨rfl, hb8⟩; have hT := Lib.hid (hT.out.trans (hb8.mono hT.out.size)); clear hb8 SB)
    | fail)
  go_ret
  exact ⟨rfl, HB7.out.trans (hT.out.mono HB7.out.size)⟩
end Go.Proofs.Ytijcbbommaeejaa

namespace Go.Proofs.Ytijcbbommaeejaa
open Go.RowKit
set_option linter.unusedVariables false
theorem eI_len (z : Int) : (eI z).length ≤ 9 := (Pk.enc_length _).2
theorem En.ok_len' {e : En} (h : e.ok = true) : e.enc.length ≤ 200 := En.ok_len h
theorem En.enc_lt' {e : En} (h : e.c.Wide) : ∀ x ∈ e.enc, x < 256 := En.enc_lt h
theorem encs_wis {k : Nat} {l : List Int} (h : wis k l = true) : (Pk.encs l).length ≤ 9 * k := by
  unfold wis at h
  rw [Bool.and_eq_true, decide_eq_true_eq] at h
  have := Pk.encs_length l
  omega
theorem Mg.enc_len {m : Mg} (h : m.ok = true) : m.enc.length ≤ 1000 := by
  unfold Mg.enc
  rw [if_pos h]
  unfold Mg.ok at h
  rw [Bool.and_eq_true] at h
  have ht := h.2
  unfold Mg.tailOk at ht
  unfold Mg.head Mg.tail
  have e1 := eI_len m.kind
  have e2 := eI_len m.frm
  have e3 := eI_len m.dst
  have e4 := eI_len m.view
  have e5 := eI_len m.inst
  have e6 := eI_len m.len
  have e7 := eI_len m.has01
  have e8 := eI_len m.mem
  have e9 := eI_len m.src
  have e10 := eI_len m.pos
  have e11 := eI_len m.tot
  have e12 := eI_len m.hop
  have e13 := eI_len m.seq
  have e14 := eI_len m.idx
  have e15 := encB_length m.data
  have e16 := encN_length m.hav.length
  have e17 := encN_length m.nee.length
  simp only [List.length_append]
  split
  · simp only [List.length_append]; omega
  rename_i c2; rw [if_neg c2] at ht
  split
  · simp only [List.length_append]; omega
  rename_i c3; rw [if_neg c3] at ht
  split
  · omega
  rename_i c4; rw [if_neg c4] at ht
  split
  · rename_i c5; rw [if_pos c5] at ht
    simp only [Bool.and_eq_true, decide_eq_true_eq] at ht
    simp only [List.length_append]; omega
  rename_i c5; rw [if_neg c5] at ht
  split
  · rename_i c7; rw [if_pos c7] at ht
    simp only [Bool.and_eq_true] at ht
    have q1 := encs_wis ht.2.2.1
    have q2 := encs_wis ht.2.2.2
    simp only [List.length_append]; omega
  rename_i c7; rw [if_neg c7] at ht
  split
  · rename_i c8; rw [if_pos c8] at ht
    simp only [Bool.and_eq_true] at ht
    have q := En.ok_len' ht.2
    simp only [List.length_append]; omega
  · simp; omega
theorem Mg.enc_lt {m : Mg} (h : m.ok = true) (hw : m.Wide) : ∀ x ∈ m.enc, x < 256 := by
  have hI : ∀ z, ∀ x ∈ eI z, x < 256 := fun z => Pk.enc_lt (Pk.held_le _)
  have hd : ∀ x ∈ Pk.encB m.data, x < 256 := Pk.encB_lt hw.d.2 (by have := hw.d.1; unfold Pk.top; omega)
  have he : ∀ x ∈ m.ent.enc, x < 256 := En.enc_lt' hw.c
  intro x hx
  unfold Mg.enc at hx
  rw [if_pos h] at hx
  unfold Mg.head Mg.tail at hx
  rcases List.mem_append.1 hx with hx | hx
  · simp only [List.mem_append] at hx
    rcases hx with hx | hx | hx | hx <;> exact hI _ x hx
  · split at hx
    · simp only [List.mem_append] at hx
      rcases hx with hx | hx | hx <;> exact hI _ x hx
    split at hx
    · simp only [List.mem_append] at hx
      rcases hx with hx | hx | hx <;> exact hI _ x hx
    split at hx
    · exact hI _ x hx
    split at hx
    · simp only [List.mem_append] at hx
      rcases hx with hx | hx | hx
      · exact hI _ x hx
      · exact hI _ x hx
      · exact hd x hx
    split at hx
    · simp only [List.mem_append] at hx
      rcases hx with hx | hx | hx | hx | hx | hx
      · exact hI _ x hx
      · exact hI _ x hx
      · exact encN_lt _ x hx
      · exact Pk.encs_lt _ x hx
      · exact encN_lt _ x hx
      · exact Pk.encs_lt _ x hx
    split at hx
    · simp only [List.mem_append] at hx
      rcases hx with hx | hx
      · exact hI _ x hx
      · exact he x hx
    · cases hx
end Go.Proofs.Ytijcbbommaeejaa

namespace Go.Proofs.Ytijcbbommaeejaa
open Go.RowKit
set_option linter.unusedVariables false
theorem range_blk {w : World} {g o : Nat} {t : TypeId} {C A : Array Value} (h : Blk w g t C) (hc : ∀ j u, A[j]? = some u → C[o + j]? = some u) : w.rangeAt g o A.toList := fun j v hv => (cell_of_row w g (o + j) C t (0, 0) h).trans (hc j v (by rw [← Array.getElem?_toList]; exact hv))
def frameA (n : Int) (U : Nat → Value) : Act := { tmps := List.toArray (.int .i64 n :: undef :: .bool false :: .int .i64 1099511627776 :: U 4 :: U 5 :: undef :: undef :: undef :: undef :: undef :: U 11 :: U 12 :: undef :: undef :: undef :: undef :: undef :: undef :: undef :: undef :: undef :: undef :: undef :: undef :: undef :: undef :: undef :: undef :: undef :: undef :: undef :: undef :: undef :: undef :: undef :: undef :: undef :: undef :: undef :: undef :: undef :: undef :: undef :: undef :: undef :: undef :: undef :: undef :: undef :: undef :: undef :: undef :: undef :: undef :: undef :: undef :: undef :: undef :: undef :: undef :: undef :: undef :: undef :: undef :: undef :: undef :: undef :: undef :: undef :: undef :: undef :: undef :: undef :: undef :: undef :: undef :: undef :: undef :: undef :: undef :: undef :: undef :: undef :: undef :: undef :: undef :: undef :: undef :: undef :: undef :: undef :: undef :: undef :: undef :: undef :: undef :: undef :: undef :: undef :: undef :: undef :: undef :: undef :: undef :: undef :: undef :: undef :: undef :: undef :: undef :: undef :: undef :: undef :: undef :: undef :: undef :: undef :: undef :: undef :: undef :: undef :: undef :: undef :: undef :: undef :: undef :: undef :: undef :: undef :: undef :: undef :: undef :: undef :: []), defers := [] }
def frameG (n : Int) (A4 A5 : Option Addr) (c4 c5 : Nat) (x11 x12 : Value) (U : Nat → Value) : Act := { tmps := List.toArray (.int .i64 n :: undef :: .bool false :: .int .i64 1099511627776 :: .slice A4 7 c4 :: .slice A5 8 c5 :: U 6 :: undef :: undef :: undef :: undef :: x11 :: x12 :: U 13 :: U 14 :: U 15 :: U 16 :: U 17 :: U 18 :: U 19 :: U 20 :: U 21 :: U 22 :: U 23 :: U 24 :: U 25 :: U 26 :: U 27 :: U 28 :: U 29 :: U 30 :: U 31 :: U 32 :: U 33 :: U 34 :: U 35 :: U 36 :: U 37 :: U 38 :: U 39 :: U 40 :: U 41 :: U 42 :: U 43 :: U 44 :: U 45 :: U 46 :: U 47 :: U 48 :: U 49 :: U 50 :: U 51 :: U 52 :: U 53 :: U 54 :: U 55 :: U 56 :: U 57 :: U 58 :: U 59 :: U 60 :: U 61 :: U 62 :: U 63 :: U 64 :: U 65 :: U 66 :: U 67 :: U 68 :: U 69 :: U 70 :: U 71 :: U 72 :: U 73 :: U 74 :: U 75 :: U 76 :: U 77 :: U 78 :: U 79 :: U 80 :: U 81 :: U 82 :: U 83 :: U 84 :: U 85 :: U 86 :: U 87 :: U 88 :: U 89 :: U 90 :: U 91 :: U 92 :: U 93 :: U 94 :: U 95 :: U 96 :: U 97 :: U 98 :: U 99 :: U 100 :: U 101 :: U 102 :: undef :: undef :: undef :: undef :: undef :: undef :: undef :: undef :: undef :: undef :: undef :: undef :: undef :: undef :: undef :: undef :: undef :: undef :: undef :: undef :: undef :: undef :: undef :: undef :: undef :: undef :: undef :: undef :: undef :: undef :: undef :: []), defers := [] }
def FrG (A4 A5 : Option Addr) (c4 c5 : Nat) (a : Act) : Prop := a.eval (.tmp 3) = .int .i64 1099511627776 ∧ a.eval (.tmp 4) = .slice A4 7 c4 ∧ a.eval (.tmp 5) = .slice A5 8 c5
def CutA (w : World) (s4 s5 : Value) (wx : World) : Prop := ∃ A4 c4 A5 c5, s4 = .slice A4 7 c4 ∧ s5 = .slice A5 8 c5 ∧ Hid (Rd wx wx.heap.size A4 (List.replicate 7 (0 : Int)).length (iv (List.replicate 7 0)) ∧ (List.replicate 7 (0 : Int)).length ≤ c4 ∧ c4 ≤ maxLen) ∧ Hid (Rd wx wx.heap.size A5 (List.replicate 8 (0 : Int)).length (iv (List.replicate 8 0)) ∧ (List.replicate 8 (0 : Int)).length ≤ c5 ∧ c5 ≤ maxLen) ∧ Hid (Below w.heap.size w wx)
set_option maxHeartbeats 8000000 in
set_option maxRecDepth 100000 in
theorem mesgBounds_raw (n : Int) (w : World) :
    Calls Try.prog 3 #[.int .i64 n] w fun e w' => e = .returned (.bool true) ∧ Below w.heap.size w w' := by
  go_enter Try.func3, Try.ntmps3
  go_upto_region 2 with fail
  go_cut [4, 5] from 11 to 12 (fun s4 s5 wx => CutA w s4 s5 wx)
  case first =>
    refine region_invF (U0 := fun _ => undef) (frameA n) dstA depsA VA (fun _ => True) ?hm ?hb ?inj ?dst ?deps ?put ?ev ?fr VA.ext (Below.refl _ _) ?hok ?done
    case hok =>
      refine all_ops (AllFrom.cons ?s0 (AllFrom.cons ?s1 (AllFrom.cons ?s2 (AllFrom.cons ?s3 AllFrom.nil))))
      case s0 =>
        intro a w1 hF hB hdep K hK
        have q : (Instr.makeSlice 22 (.int .i64 7) (.int .i64 7)).run Try.prog w1 = .ok (.slice (some ⟨w1.heap.size, 0, none⟩) 7 7) (w1.alloc (.cells (madeCells #[.int .i64 0] (7 * 1)) 3)) := makeI_run w1 7 (by omega)
        go_simp
        exact hK.out _ _ (Ext.of_below ((Below.refl _ _).alloc (Nat.le_refl _) _)) (hB.alloc hB.size _) ⟨_, 7, rfl, rd_zerosI w1 7, by simp, by unfold maxLen; omega⟩
      case s1 =>
        intro a w1 hF hB hdep K hK
        have q : (Instr.makeSlice 22 (.int .i64 8) (.int .i64 8)).run Try.prog w1 = .ok (.slice (some ⟨w1.heap.size, 0, none⟩) 8 8) (w1.alloc (.cells (madeCells #[.int .i64 0] (8 * 1)) 3)) := makeI_run w1 8 (by omega)
        go_simp
        exact hK.out _ _ (Ext.of_below ((Below.refl _ _).alloc (Nat.le_refl _) _)) (hB.alloc hB.size _) ⟨_, 8, rfl, rd_zerosI w1 8, by simp, by unfold maxLen; omega⟩
      case s2 =>
        intro a w1 hF hB hdep K hK
        obtain ⟨A, c, e1, h2, h3⟩ := (show KindG.V (.isl (List.replicate 7 0)) (a.eval (.tmp 11)) w1 from hdep 0 (by decide))
        have e1 : a.tmps[11]?.getD undef = .slice A 7 c := ev_tmp e1
        go_simp
        exact hK.out _ _ (Ext.refl _) hB ⟨A, c, rfl, h2, h3⟩
      case s3 =>
        intro a w1 hF hB hdep K hK
        obtain ⟨A, c, e1, h2, h3⟩ := (show KindG.V (.isl (List.replicate 8 0)) (a.eval (.tmp 12)) w1 from hdep 1 (by decide))
        have e1 : a.tmps[12]?.getD undef = .slice A 8 c := ev_tmp e1
        go_simp
        exact hK.out _ _ (Ext.refl _) hB ⟨A, c, rfl, h2, h3⟩
    case hm => kernel_rfl
    case hb => kernel_rfl
    case inj =>
      intro i j hi hj h
      have h1 : ((List.range 4).all fun i => (List.range 4).all fun j => !(dstA i == dstA j) || (i == j)) = true := by kernel_rfl
      have h2 := List.all_eq_true.1 (List.all_eq_true.1 h1 i (List.mem_range.2 hi)) j (List.mem_range.2 hj)
      simpa [h] using h2
    case dst => exact all_ops (AllFrom.cons ⟨rfl, rfl⟩ (AllFrom.cons ⟨rfl, rfl⟩ (AllFrom.cons ⟨rfl, rfl⟩ (AllFrom.cons ⟨rfl, rfl⟩ AllFrom.nil))))
    case deps =>
      intro i hi j hj
      refine deps_of (deps := depsA) ?_ i hi j hj
      kernel_rfl
    case put => exact all_ops (AllFrom.cons (fun _ _ => by kernel_rfl) (AllFrom.cons (fun _ _ => by kernel_rfl) (AllFrom.cons (fun _ _ => by kernel_rfl) (AllFrom.cons (fun _ _ => by kernel_rfl) AllFrom.nil))))
    case ev => exact all_ops (AllFrom.cons (fun _ => by kernel_rfl) (AllFrom.cons (fun _ => by kernel_rfl) (AllFrom.cons (fun _ => by kernel_rfl) (AllFrom.cons (fun _ => by kernel_rfl) AllFrom.nil))))
    case fr => exact fun U => trivial
    case done =>
      intro U w' hB hV
      obtain ⟨A4, c4, e4, h4⟩ := (show KindG.V (.isl (List.replicate 7 0)) (U 4) w' from hV 2 (by decide))
      obtain ⟨A5, c5, e5, h5⟩ := (show KindG.V (.isl (List.replicate 8 0)) (U 5) w' from hV 3 (by decide))
      have HC := Lib.hid (show CutA w (U 4) (U 5) w' from ⟨A4, c4, A5, c5, e4, e5, Lib.hid h4, Lib.hid h5, Lib.hid hB⟩)
      clear hV e4 e5 h4 h5 hB
      unfold frameA
      go_wp2_with fail
      go_meet
      exact HC.out
  case rest =>
    obtain ⟨A4, c4, A5, c5, rfl, rfl, HR4, HR5, HB0⟩ := hcut
    rename World => w0
    go_upto_region 3 with fail
    go_cut [6] from 13 to 102 (fun s6 wx => ∃ b, s6 = .slice (some ⟨b, 0, none⟩) 30 30 ∧ Hid (TabG wx b) ∧ Hid (Below w.heap.size w wx))
    case first =>
      refine region_invF (U0 := fun _ => undef) (frameG n A4 A5 c4 c5 _ _) dstG depsG VG (FrG A4 A5 c4 c5) ?hm ?hb ?inj ?dst ?deps ?put ?ev ?fr VG.ext (Below.refl _ _) ?hok ?done
      case hok =>
        refine all_ops (AllFrom.cons ?s0 (AllFrom.cons ?s1 (AllFrom.cons ?s2 (AllFrom.cons ?s3 (AllFrom.cons ?s4 (AllFrom.cons ?s5 (AllFrom.cons ?s6 (AllFrom.cons ?s7 (AllFrom.cons ?s8 (AllFrom.cons ?s9 (AllFrom.cons ?s10 (AllFrom.cons ?s11 (AllFrom.cons ?s12 (AllFrom.cons ?s13 (AllFrom.cons ?s14 (AllFrom.cons ?s15 (AllFrom.cons ?s16 (AllFrom.cons ?s17 (AllFrom.cons ?s18 (AllFrom.cons ?s19 (AllFrom.cons ?s20 (AllFrom.cons ?s21 (AllFrom.cons ?s22 (AllFrom.cons ?s23 (AllFrom.cons ?s24 (AllFrom.cons ?s25 (AllFrom.cons ?s26 (AllFrom.cons ?s27 (AllFrom.cons ?s28 (AllFrom.cons ?s29 (AllFrom.cons ?s30 (AllFrom.cons ?s31 (AllFrom.cons ?s32 (AllFrom.cons ?s33 (AllFrom.cons ?s34 (AllFrom.cons ?s35 (AllFrom.cons ?s36 (AllFrom.cons ?s37 (AllFrom.cons ?s38 (AllFrom.cons ?s39 (AllFrom.cons ?s40 (AllFrom.cons ?s41 (AllFrom.cons ?s42 (AllFrom.cons ?s43 (AllFrom.cons ?s44 (AllFrom.cons ?s45 (AllFrom.cons ?s46 (AllFrom.cons ?s47 (AllFrom.cons ?s48 (AllFrom.cons ?s49 (AllFrom.cons ?s50 (AllFrom.cons ?s51 (AllFrom.cons ?s52 (AllFrom.cons ?s53 (AllFrom.cons ?s54 (AllFrom.cons ?s55 (AllFrom.cons ?s56 (AllFrom.cons ?s57 (AllFrom.cons ?s58 (AllFrom.cons ?s59 (AllFrom.cons ?s60 (AllFrom.cons ?s61 (AllFrom.cons ?s62 (AllFrom.cons ?s63 (AllFrom.cons ?s64 (AllFrom.cons ?s65 (AllFrom.cons ?s66 (AllFrom.cons ?s67 (AllFrom.cons ?s68 (AllFrom.cons ?s69 (AllFrom.cons ?s70 (AllFrom.cons ?s71 (AllFrom.cons ?s72 (AllFrom.cons ?s73 (AllFrom.cons ?s74 (AllFrom.cons ?s75 (AllFrom.cons ?s76 (AllFrom.cons ?s77 (AllFrom.cons ?s78 (AllFrom.cons ?s79 (AllFrom.cons ?s80 (AllFrom.cons ?s81 (AllFrom.cons ?s82 (AllFrom.cons ?s83 (AllFrom.cons ?s84 (AllFrom.cons ?s85 (AllFrom.cons ?s86 (AllFrom.cons ?s87 (AllFrom.cons ?s88 (AllFrom.cons ?s89 (AllFrom.cons ?s90 AllFrom.nil)))))))))))))))))))))))))))))))))))))))))))))))))))))))))))))))))))))))))))))))))))))))))))
        case s0 =>
          intro a w1 hF hB hdep K hK
          go_simp
          exact hK.out _ _ (Ext.refl _) hB ⟨⟨none, 0, none, 0, none, 0, ⟨none, 0, none, 0, none, 0⟩⟩, rfl, ⟨Rd.none_ _ _ _, Rd.none_ _ _ _, Rd.none_ _ _ _, ⟨Rd.none_ _ _ _, Rd.none_ _ _ _, Rd.none_ _ _ _⟩, ⟨Nat.le_refl _, Nat.zero_le _⟩, ⟨Nat.le_refl _, Nat.zero_le _⟩⟩⟩
        case s1 =>
          intro a w1 hF hB hdep K hK
          obtain ⟨ga, e1, h2⟩ := (show KindG.V (.mg ⟨0, 0, 0, 0, 0, 0, false, 0, 0, 0, 0, [], 0, 0, [], [], 0, En.zero⟩) (a.eval (.tmp 13)) w1 from hdep 0 (by decide))
          have e1 : a.tmps[13]?.getD undef = .agg #[.int .i64 0, .int .i64 0, .int .i64 0, .int .i64 0, .int .i64 0, .int .i64 0, .bool false, .int .i64 0, .int .i64 0, .int .i64 0, .int .i64 0, .slice ga.Ad 0 ga.cd, .int .i64 0, .int .i64 0, .slice ga.Ah 0 ga.ch, .slice ga.An 0 ga.cn, .int .i64 0, .int .i64 0, .int .i64 0, .int .i64 0, .int .i64 0, .slice ga.c.Ak 0 ga.c.ck, .slice ga.c.Av 0 ga.c.cv, .slice ga.c.Ao 0 ga.c.co] := ev_tmp e1
          go_simp
          exact hK.out _ _ (Ext.refl _) hB ⟨ga, rfl, h2⟩
        case s2 =>
          intro a w1 hF hB hdep K hK
          go_simp
          exact hK.out _ _ (Ext.refl _) hB ⟨⟨none, 0, none, 0, none, 0, ⟨none, 0, none, 0, none, 0⟩⟩, rfl, ⟨Rd.none_ _ _ _, Rd.none_ _ _ _, Rd.none_ _ _ _, ⟨Rd.none_ _ _ _, Rd.none_ _ _ _, Rd.none_ _ _ _⟩, ⟨Nat.le_refl _, Nat.zero_le _⟩, ⟨Nat.le_refl _, Nat.zero_le _⟩⟩⟩
        case s3 =>
          intro a w1 hF hB hdep K hK
          obtain ⟨ga, e1, h2⟩ := (show KindG.V (.mg ⟨1, 0, 0, 0, 0, 0, false, 0, 0, 0, 0, [], 0, 0, [], [], 0, En.zero⟩) (a.eval (.tmp 15)) w1 from hdep 2 (by decide))
          have e1 : a.tmps[15]?.getD undef = .agg #[.int .i64 1, .int .i64 0, .int .i64 0, .int .i64 0, .int .i64 0, .int .i64 0, .bool false, .int .i64 0, .int .i64 0, .int .i64 0, .int .i64 0, .slice ga.Ad 0 ga.cd, .int .i64 0, .int .i64 0, .slice ga.Ah 0 ga.ch, .slice ga.An 0 ga.cn, .int .i64 0, .int .i64 0, .int .i64 0, .int .i64 0, .int .i64 0, .slice ga.c.Ak 0 ga.c.ck, .slice ga.c.Av 0 ga.c.cv, .slice ga.c.Ao 0 ga.c.co] := ev_tmp e1
          go_simp
          exact hK.out _ _ (Ext.refl _) hB ⟨ga, rfl, h2⟩
        case s4 =>
          intro a w1 hF hB hdep K hK
          go_simp
          exact hK.out _ _ (Ext.refl _) hB ⟨⟨none, 0, none, 0, none, 0, ⟨none, 0, none, 0, none, 0⟩⟩, rfl, ⟨Rd.none_ _ _ _, Rd.none_ _ _ _, Rd.none_ _ _ _, ⟨Rd.none_ _ _ _, Rd.none_ _ _ _, Rd.none_ _ _ _⟩, ⟨Nat.le_refl _, Nat.zero_le _⟩, ⟨Nat.le_refl _, Nat.zero_le _⟩⟩⟩
        case s5 =>
          intro a w1 hF hB hdep K hK
          obtain ⟨ga, e1, h2⟩ := (show KindG.V (.mg ⟨9, 0, 0, 0, 0, 0, false, 0, 0, 0, 0, [], 0, 0, [], [], 0, En.zero⟩) (a.eval (.tmp 17)) w1 from hdep 4 (by decide))
          have e1 : a.tmps[17]?.getD undef = .agg #[.int .i64 9, .int .i64 0, .int .i64 0, .int .i64 0, .int .i64 0, .int .i64 0, .bool false, .int .i64 0, .int .i64 0, .int .i64 0, .int .i64 0, .slice ga.Ad 0 ga.cd, .int .i64 0, .int .i64 0, .slice ga.Ah 0 ga.ch, .slice ga.An 0 ga.cn, .int .i64 0, .int .i64 0, .int .i64 0, .int .i64 0, .int .i64 0, .slice ga.c.Ak 0 ga.c.ck, .slice ga.c.Av 0 ga.c.cv, .slice ga.c.Ao 0 ga.c.co] := ev_tmp e1
          go_simp
          exact hK.out _ _ (Ext.refl _) hB ⟨ga, rfl, h2⟩
        case s6 =>
          intro a w1 hF hB hdep K hK
          go_simp
          exact hK.out _ _ (Ext.refl _) hB ⟨⟨none, 0, none, 0, none, 0, ⟨none, 0, none, 0, none, 0⟩⟩, rfl, ⟨Rd.none_ _ _ _, Rd.none_ _ _ _, Rd.none_ _ _ _, ⟨Rd.none_ _ _ _, Rd.none_ _ _ _, Rd.none_ _ _ _⟩, ⟨Nat.le_refl _, Nat.zero_le _⟩, ⟨Nat.le_refl _, Nat.zero_le _⟩⟩⟩
        case s7 =>
          intro a w1 hF hB hdep K hK
          obtain ⟨ga, e1, h2⟩ := (show KindG.V (.mg ⟨(-1), 0, 0, 0, 0, 0, false, 0, 0, 0, 0, [], 0, 0, [], [], 0, En.zero⟩) (a.eval (.tmp 19)) w1 from hdep 6 (by decide))
          have e1 : a.tmps[19]?.getD undef = .agg #[.int .i64 (-1), .int .i64 0, .int .i64 0, .int .i64 0, .int .i64 0, .int .i64 0, .bool false, .int .i64 0, .int .i64 0, .int .i64 0, .int .i64 0, .slice ga.Ad 0 ga.cd, .int .i64 0, .int .i64 0, .slice ga.Ah 0 ga.ch, .slice ga.An 0 ga.cn, .int .i64 0, .int .i64 0, .int .i64 0, .int .i64 0, .int .i64 0, .slice ga.c.Ak 0 ga.c.ck, .slice ga.c.Av 0 ga.c.cv, .slice ga.c.Ao 0 ga.c.co] := ev_tmp e1
          go_simp
          exact hK.out _ _ (Ext.refl _) hB ⟨ga, rfl, h2⟩
        case s8 =>
          intro a w1 hF hB hdep K hK
          have e3 : a.tmps[3]?.getD undef = .int .i64 1099511627776 := ev_tmp hF.1
          go_simp
          exact hK.out _ _ (Ext.refl _) hB rfl
        case s9 =>
          intro a w1 hF hB hdep K hK
          have e1 : a.tmps[21]?.getD undef = .int .i64 1099511627776 := ev_tmp (show KindG.V (.num 1099511627776) (a.eval (.tmp 21)) w1 from hdep 8 (by decide))
          go_simp
          exact hK.out _ _ (Ext.refl _) hB ⟨⟨none, 0, none, 0, none, 0, ⟨none, 0, none, 0, none, 0⟩⟩, rfl, ⟨Rd.none_ _ _ _, Rd.none_ _ _ _, Rd.none_ _ _ _, ⟨Rd.none_ _ _ _, Rd.none_ _ _ _, Rd.none_ _ _ _⟩, ⟨Nat.le_refl _, Nat.zero_le _⟩, ⟨Nat.le_refl _, Nat.zero_le _⟩⟩⟩
        case s10 =>
          intro a w1 hF hB hdep K hK
          obtain ⟨ga, e1, h2⟩ := (show KindG.V (.mg ⟨1, 6, 6, 1099511627776, 0, 0, false, 0, 0, 0, 0, [], 0, 0, [], [], 0, En.zero⟩) (a.eval (.tmp 22)) w1 from hdep 9 (by decide))
          have e1 : a.tmps[22]?.getD undef = .agg #[.int .i64 1, .int .i64 6, .int .i64 6, .int .i64 1099511627776, .int .i64 0, .int .i64 0, .bool false, .int .i64 0, .int .i64 0, .int .i64 0, .int .i64 0, .slice ga.Ad 0 ga.cd, .int .i64 0, .int .i64 0, .slice ga.Ah 0 ga.ch, .slice ga.An 0 ga.cn, .int .i64 0, .int .i64 0, .int .i64 0, .int .i64 0, .int .i64 0, .slice ga.c.Ak 0 ga.c.ck, .slice ga.c.Av 0 ga.c.cv, .slice ga.c.Ao 0 ga.c.co] := ev_tmp e1
          go_simp
          exact hK.out _ _ (Ext.refl _) hB ⟨ga, rfl, h2⟩
        case s11 =>
          intro a w1 hF hB hdep K hK
          go_simp
          exact hK.out _ _ (Ext.refl _) hB ⟨⟨none, 0, none, 0, none, 0, ⟨none, 0, none, 0, none, 0⟩⟩, rfl, ⟨Rd.none_ _ _ _, Rd.none_ _ _ _, Rd.none_ _ _ _, ⟨Rd.none_ _ _ _, Rd.none_ _ _ _, Rd.none_ _ _ _⟩, ⟨Nat.le_refl _, Nat.zero_le _⟩, ⟨Nat.le_refl _, Nat.zero_le _⟩⟩⟩
        case s12 =>
          intro a w1 hF hB hdep K hK
          obtain ⟨ga, e1, h2⟩ := (show KindG.V (.mg ⟨1, 7, 0, 0, 0, 0, false, 0, 0, 0, 0, [], 0, 0, [], [], 0, En.zero⟩) (a.eval (.tmp 24)) w1 from hdep 11 (by decide))
          have e1 : a.tmps[24]?.getD undef = .agg #[.int .i64 1, .int .i64 7, .int .i64 0, .int .i64 0, .int .i64 0, .int .i64 0, .bool false, .int .i64 0, .int .i64 0, .int .i64 0, .int .i64 0, .slice ga.Ad 0 ga.cd, .int .i64 0, .int .i64 0, .slice ga.Ah 0 ga.ch, .slice ga.An 0 ga.cn, .int .i64 0, .int .i64 0, .int .i64 0, .int .i64 0, .int .i64 0, .slice ga.c.Ak 0 ga.c.ck, .slice ga.c.Av 0 ga.c.cv, .slice ga.c.Ao 0 ga.c.co] := ev_tmp e1
          go_simp
          exact hK.out _ _ (Ext.refl _) hB ⟨ga, rfl, h2⟩
        case s13 =>
          intro a w1 hF hB hdep K hK
          go_simp
          exact hK.out _ _ (Ext.refl _) hB ⟨⟨none, 0, none, 0, none, 0, ⟨none, 0, none, 0, none, 0⟩⟩, rfl, ⟨Rd.none_ _ _ _, Rd.none_ _ _ _, Rd.none_ _ _ _, ⟨Rd.none_ _ _ _, Rd.none_ _ _ _, Rd.none_ _ _ _⟩, ⟨Nat.le_refl _, Nat.zero_le _⟩, ⟨Nat.le_refl _, Nat.zero_le _⟩⟩⟩
        case s14 =>
          intro a w1 hF hB hdep K hK
          obtain ⟨ga, e1, h2⟩ := (show KindG.V (.mg ⟨1, 0, (-1), 0, 0, 0, false, 0, 0, 0, 0, [], 0, 0, [], [], 0, En.zero⟩) (a.eval (.tmp 26)) w1 from hdep 13 (by decide))
          have e1 : a.tmps[26]?.getD undef = .agg #[.int .i64 1, .int .i64 0, .int .i64 (-1), .int .i64 0, .int .i64 0, .int .i64 0, .bool false, .int .i64 0, .int .i64 0, .int .i64 0, .int .i64 0, .slice ga.Ad 0 ga.cd, .int .i64 0, .int .i64 0, .slice ga.Ah 0 ga.ch, .slice ga.An 0 ga.cn, .int .i64 0, .int .i64 0, .int .i64 0, .int .i64 0, .int .i64 0, .slice ga.c.Ak 0 ga.c.ck, .slice ga.c.Av 0 ga.c.cv, .slice ga.c.Ao 0 ga.c.co] := ev_tmp e1
          go_simp
          exact hK.out _ _ (Ext.refl _) hB ⟨ga, rfl, h2⟩
        case s15 =>
          intro a w1 hF hB hdep K hK
          have e3 : a.tmps[3]?.getD undef = .int .i64 1099511627776 := ev_tmp hF.1
          go_simp
          exact hK.out _ _ (Ext.refl _) hB rfl
        case s16 =>
          intro a w1 hF hB hdep K hK
          have e1 : a.tmps[28]?.getD undef = .int .i64 1099511627776 := ev_tmp (show KindG.V (.num 1099511627776) (a.eval (.tmp 28)) w1 from hdep 15 (by decide))
          go_simp
          exact hK.out _ _ (Ext.refl _) hB rfl
        case s17 =>
          intro a w1 hF hB hdep K hK
          have e1 : a.tmps[29]?.getD undef = .int .i64 1099511627777 := ev_tmp (show KindG.V (.num 1099511627777) (a.eval (.tmp 29)) w1 from hdep 16 (by decide))
          go_simp
          exact hK.out _ _ (Ext.refl _) hB ⟨⟨none, 0, none, 0, none, 0, ⟨none, 0, none, 0, none, 0⟩⟩, rfl, ⟨Rd.none_ _ _ _, Rd.none_ _ _ _, Rd.none_ _ _ _, ⟨Rd.none_ _ _ _, Rd.none_ _ _ _, Rd.none_ _ _ _⟩, ⟨Nat.le_refl _, Nat.zero_le _⟩, ⟨Nat.le_refl _, Nat.zero_le _⟩⟩⟩
        case s18 =>
          intro a w1 hF hB hdep K hK
          obtain ⟨ga, e1, h2⟩ := (show KindG.V (.mg ⟨1, 0, 0, 1099511627777, 0, 0, false, 0, 0, 0, 0, [], 0, 0, [], [], 0, En.zero⟩) (a.eval (.tmp 30)) w1 from hdep 17 (by decide))
          have e1 : a.tmps[30]?.getD undef = .agg #[.int .i64 1, .int .i64 0, .int .i64 0, .int .i64 1099511627777, .int .i64 0, .int .i64 0, .bool false, .int .i64 0, .int .i64 0, .int .i64 0, .int .i64 0, .slice ga.Ad 0 ga.cd, .int .i64 0, .int .i64 0, .slice ga.Ah 0 ga.ch, .slice ga.An 0 ga.cn, .int .i64 0, .int .i64 0, .int .i64 0, .int .i64 0, .int .i64 0, .slice ga.c.Ak 0 ga.c.ck, .slice ga.c.Av 0 ga.c.cv, .slice ga.c.Ao 0 ga.c.co] := ev_tmp e1
          go_simp
          exact hK.out _ _ (Ext.refl _) hB ⟨ga, rfl, h2⟩
        case s19 =>
          intro a w1 hF hB hdep K hK
          go_simp
          exact hK.out _ _ (Ext.refl _) hB ⟨⟨none, 0, none, 0, none, 0, ⟨none, 0, none, 0, none, 0⟩⟩, rfl, ⟨Rd.none_ _ _ _, Rd.none_ _ _ _, Rd.none_ _ _ _, ⟨Rd.none_ _ _ _, Rd.none_ _ _ _, Rd.none_ _ _ _⟩, ⟨Nat.le_refl _, Nat.zero_le _⟩, ⟨Nat.le_refl _, Nat.zero_le _⟩⟩⟩
        case s20 =>
          intro a w1 hF hB hdep K hK
          obtain ⟨ga, e1, h2⟩ := (show KindG.V (.mg ⟨1, 0, 0, (-1), 0, 0, false, 0, 0, 0, 0, [], 0, 0, [], [], 0, En.zero⟩) (a.eval (.tmp 32)) w1 from hdep 19 (by decide))
          have e1 : a.tmps[32]?.getD undef = .agg #[.int .i64 1, .int .i64 0, .int .i64 0, .int .i64 (-1), .int .i64 0, .int .i64 0, .bool false, .int .i64 0, .int .i64 0, .int .i64 0, .int .i64 0, .slice ga.Ad 0 ga.cd, .int .i64 0, .int .i64 0, .slice ga.Ah 0 ga.ch, .slice ga.An 0 ga.cn, .int .i64 0, .int .i64 0, .int .i64 0, .int .i64 0, .int .i64 0, .slice ga.c.Ak 0 ga.c.ck, .slice ga.c.Av 0 ga.c.cv, .slice ga.c.Ao 0 ga.c.co] := ev_tmp e1
          go_simp
          exact hK.out _ _ (Ext.refl _) hB ⟨ga, rfl, h2⟩
        case s21 =>
          intro a w1 hF hB hdep K hK
          have e3 : a.tmps[3]?.getD undef = .int .i64 1099511627776 := ev_tmp hF.1
          go_simp
          exact hK.out _ _ (Ext.refl _) hB rfl
        case s22 =>
          intro a w1 hF hB hdep K hK
          have e3 : a.tmps[3]?.getD undef = .int .i64 1099511627776 := ev_tmp hF.1
          go_simp
          exact hK.out _ _ (Ext.refl _) hB rfl
        case s23 =>
          intro a w1 hF hB hdep K hK
          have e1 : a.tmps[34]?.getD undef = .int .i64 1099511627776 := ev_tmp (show KindG.V (.num 1099511627776) (a.eval (.tmp 34)) w1 from hdep 21 (by decide))
          have e2 : a.tmps[35]?.getD undef = .int .i64 1099511627776 := ev_tmp (show KindG.V (.num 1099511627776) (a.eval (.tmp 35)) w1 from hdep 22 (by decide))
          go_simp
          exact hK.out _ _ (Ext.refl _) hB ⟨⟨none, 0, none, 0, none, 0, ⟨none, 0, none, 0, none, 0⟩⟩, rfl, ⟨Rd.none_ _ _ _, Rd.none_ _ _ _, Rd.none_ _ _ _, ⟨Rd.none_ _ _ _, Rd.none_ _ _ _, Rd.none_ _ _ _⟩, ⟨Nat.le_refl _, Nat.zero_le _⟩, ⟨Nat.le_refl _, Nat.zero_le _⟩⟩⟩
        case s24 =>
          intro a w1 hF hB hdep K hK
          obtain ⟨ga, e1, h2⟩ := (show KindG.V (.mg ⟨2, 0, 0, 0, 1099511627776, 1099511627776, false, 0, 0, 0, 0, [], 0, 0, [], [], 0, En.zero⟩) (a.eval (.tmp 36)) w1 from hdep 23 (by decide))
          have e1 : a.tmps[36]?.getD undef = .agg #[.int .i64 2, .int .i64 0, .int .i64 0, .int .i64 0, .int .i64 1099511627776, .int .i64 1099511627776, .bool false, .int .i64 0, .int .i64 0, .int .i64 0, .int .i64 0, .slice ga.Ad 0 ga.cd, .int .i64 0, .int .i64 0, .slice ga.Ah 0 ga.ch, .slice ga.An 0 ga.cn, .int .i64 0, .int .i64 0, .int .i64 0, .int .i64 0, .int .i64 0, .slice ga.c.Ak 0 ga.c.ck, .slice ga.c.Av 0 ga.c.cv, .slice ga.c.Ao 0 ga.c.co] := ev_tmp e1
          go_simp
          exact hK.out _ _ (Ext.refl _) hB ⟨ga, rfl, h2⟩
        case s25 =>
          intro a w1 hF hB hdep K hK
          have e3 : a.tmps[3]?.getD undef = .int .i64 1099511627776 := ev_tmp hF.1
          go_simp
          exact hK.out _ _ (Ext.refl _) hB rfl
        case s26 =>
          intro a w1 hF hB hdep K hK
          have e1 : a.tmps[38]?.getD undef = .int .i64 1099511627776 := ev_tmp (show KindG.V (.num 1099511627776) (a.eval (.tmp 38)) w1 from hdep 25 (by decide))
          go_simp
          exact hK.out _ _ (Ext.refl _) hB rfl
        case s27 =>
          intro a w1 hF hB hdep K hK
          have e1 : a.tmps[39]?.getD undef = .int .i64 1099511627777 := ev_tmp (show KindG.V (.num 1099511627777) (a.eval (.tmp 39)) w1 from hdep 26 (by decide))
          go_simp
          exact hK.out _ _ (Ext.refl _) hB ⟨⟨none, 0, none, 0, none, 0, ⟨none, 0, none, 0, none, 0⟩⟩, rfl, ⟨Rd.none_ _ _ _, Rd.none_ _ _ _, Rd.none_ _ _ _, ⟨Rd.none_ _ _ _, Rd.none_ _ _ _, Rd.none_ _ _ _⟩, ⟨Nat.le_refl _, Nat.zero_le _⟩, ⟨Nat.le_refl _, Nat.zero_le _⟩⟩⟩
        case s28 =>
          intro a w1 hF hB hdep K hK
          obtain ⟨ga, e1, h2⟩ := (show KindG.V (.mg ⟨2, 0, 0, 0, 1099511627777, 0, false, 0, 0, 0, 0, [], 0, 0, [], [], 0, En.zero⟩) (a.eval (.tmp 40)) w1 from hdep 27 (by decide))
          have e1 : a.tmps[40]?.getD undef = .agg #[.int .i64 2, .int .i64 0, .int .i64 0, .int .i64 0, .int .i64 1099511627777, .int .i64 0, .bool false, .int .i64 0, .int .i64 0, .int .i64 0, .int .i64 0, .slice ga.Ad 0 ga.cd, .int .i64 0, .int .i64 0, .slice ga.Ah 0 ga.ch, .slice ga.An 0 ga.cn, .int .i64 0, .int .i64 0, .int .i64 0, .int .i64 0, .int .i64 0, .slice ga.c.Ak 0 ga.c.ck, .slice ga.c.Av 0 ga.c.cv, .slice ga.c.Ao 0 ga.c.co] := ev_tmp e1
          go_simp
          exact hK.out _ _ (Ext.refl _) hB ⟨ga, rfl, h2⟩
        case s29 =>
          intro a w1 hF hB hdep K hK
          go_simp
          exact hK.out _ _ (Ext.refl _) hB ⟨⟨none, 0, none, 0, none, 0, ⟨none, 0, none, 0, none, 0⟩⟩, rfl, ⟨Rd.none_ _ _ _, Rd.none_ _ _ _, Rd.none_ _ _ _, ⟨Rd.none_ _ _ _, Rd.none_ _ _ _, Rd.none_ _ _ _⟩, ⟨Nat.le_refl _, Nat.zero_le _⟩, ⟨Nat.le_refl _, Nat.zero_le _⟩⟩⟩
        case s30 =>
          intro a w1 hF hB hdep K hK
          obtain ⟨ga, e1, h2⟩ := (show KindG.V (.mg ⟨2, 0, 0, 0, 0, (-1), false, 0, 0, 0, 0, [], 0, 0, [], [], 0, En.zero⟩) (a.eval (.tmp 42)) w1 from hdep 29 (by decide))
          have e1 : a.tmps[42]?.getD undef = .agg #[.int .i64 2, .int .i64 0, .int .i64 0, .int .i64 0, .int .i64 0, .int .i64 (-1), .bool false, .int .i64 0, .int .i64 0, .int .i64 0, .int .i64 0, .slice ga.Ad 0 ga.cd, .int .i64 0, .int .i64 0, .slice ga.Ah 0 ga.ch, .slice ga.An 0 ga.cn, .int .i64 0, .int .i64 0, .int .i64 0, .int .i64 0, .int .i64 0, .slice ga.c.Ak 0 ga.c.ck, .slice ga.c.Av 0 ga.c.cv, .slice ga.c.Ao 0 ga.c.co] := ev_tmp e1
          go_simp
          exact hK.out _ _ (Ext.refl _) hB ⟨ga, rfl, h2⟩
        case s31 =>
          intro a w1 hF hB hdep K hK
          have e3 : a.tmps[3]?.getD undef = .int .i64 1099511627776 := ev_tmp hF.1
          go_simp
          exact hK.out _ _ (Ext.refl _) hB rfl
        case s32 =>
          intro a w1 hF hB hdep K hK
          have e1 : a.tmps[44]?.getD undef = .int .i64 1099511627776 := ev_tmp (show KindG.V (.num 1099511627776) (a.eval (.tmp 44)) w1 from hdep 31 (by decide))
          go_simp
          exact hK.out _ _ (Ext.refl _) hB ⟨⟨none, 0, none, 0, none, 0, ⟨none, 0, none, 0, none, 0⟩⟩, rfl, ⟨Rd.none_ _ _ _, Rd.none_ _ _ _, Rd.none_ _ _ _, ⟨Rd.none_ _ _ _, Rd.none_ _ _ _, Rd.none_ _ _ _⟩, ⟨Nat.le_refl _, Nat.zero_le _⟩, ⟨Nat.le_refl _, Nat.zero_le _⟩⟩⟩
        case s33 =>
          intro a w1 hF hB hdep K hK
          obtain ⟨ga, e1, h2⟩ := (show KindG.V (.mg ⟨3, 0, 0, 0, 0, 1099511627776, false, 127, 6, 0, 0, [], 0, 0, [], [], 0, En.zero⟩) (a.eval (.tmp 45)) w1 from hdep 32 (by decide))
          have e1 : a.tmps[45]?.getD undef = .agg #[.int .i64 3, .int .i64 0, .int .i64 0, .int .i64 0, .int .i64 0, .int .i64 1099511627776, .bool false, .int .i64 127, .int .i64 6, .int .i64 0, .int .i64 0, .slice ga.Ad 0 ga.cd, .int .i64 0, .int .i64 0, .slice ga.Ah 0 ga.ch, .slice ga.An 0 ga.cn, .int .i64 0, .int .i64 0, .int .i64 0, .int .i64 0, .int .i64 0, .slice ga.c.Ak 0 ga.c.ck, .slice ga.c.Av 0 ga.c.cv, .slice ga.c.Ao 0 ga.c.co] := ev_tmp e1
          go_simp
          exact hK.out _ _ (Ext.refl _) hB ⟨ga, rfl, h2⟩
        case s34 =>
          intro a w1 hF hB hdep K hK
          go_simp
          exact hK.out _ _ (Ext.refl _) hB ⟨⟨none, 0, none, 0, none, 0, ⟨none, 0, none, 0, none, 0⟩⟩, rfl, ⟨Rd.none_ _ _ _, Rd.none_ _ _ _, Rd.none_ _ _ _, ⟨Rd.none_ _ _ _, Rd.none_ _ _ _, Rd.none_ _ _ _⟩, ⟨Nat.le_refl _, Nat.zero_le _⟩, ⟨Nat.le_refl _, Nat.zero_le _⟩⟩⟩
        case s35 =>
          intro a w1 hF hB hdep K hK
          obtain ⟨ga, e1, h2⟩ := (show KindG.V (.mg ⟨3, 0, 0, 0, 0, 0, false, 128, 0, 0, 0, [], 0, 0, [], [], 0, En.zero⟩) (a.eval (.tmp 47)) w1 from hdep 34 (by decide))
          have e1 : a.tmps[47]?.getD undef = .agg #[.int .i64 3, .int .i64 0, .int .i64 0, .int .i64 0, .int .i64 0, .int .i64 0, .bool false, .int .i64 128, .int .i64 0, .int .i64 0, .int .i64 0, .slice ga.Ad 0 ga.cd, .int .i64 0, .int .i64 0, .slice ga.Ah 0 ga.ch, .slice ga.An 0 ga.cn, .int .i64 0, .int .i64 0, .int .i64 0, .int .i64 0, .int .i64 0, .slice ga.c.Ak 0 ga.c.ck, .slice ga.c.Av 0 ga.c.cv, .slice ga.c.Ao 0 ga.c.co] := ev_tmp e1
          go_simp
          exact hK.out _ _ (Ext.refl _) hB ⟨ga, rfl, h2⟩
        case s36 =>
          intro a w1 hF hB hdep K hK
          go_simp
          exact hK.out _ _ (Ext.refl _) hB ⟨⟨none, 0, none, 0, none, 0, ⟨none, 0, none, 0, none, 0⟩⟩, rfl, ⟨Rd.none_ _ _ _, Rd.none_ _ _ _, Rd.none_ _ _ _, ⟨Rd.none_ _ _ _, Rd.none_ _ _ _, Rd.none_ _ _ _⟩, ⟨Nat.le_refl _, Nat.zero_le _⟩, ⟨Nat.le_refl _, Nat.zero_le _⟩⟩⟩
        case s37 =>
          intro a w1 hF hB hdep K hK
          obtain ⟨ga, e1, h2⟩ := (show KindG.V (.mg ⟨3, 0, 0, 0, 0, 0, false, 0, 7, 0, 0, [], 0, 0, [], [], 0, En.zero⟩) (a.eval (.tmp 49)) w1 from hdep 36 (by decide))
          have e1 : a.tmps[49]?.getD undef = .agg #[.int .i64 3, .int .i64 0, .int .i64 0, .int .i64 0, .int .i64 0, .int .i64 0, .bool false, .int .i64 0, .int .i64 7, .int .i64 0, .int .i64 0, .slice ga.Ad 0 ga.cd, .int .i64 0, .int .i64 0, .slice ga.Ah 0 ga.ch, .slice ga.An 0 ga.cn, .int .i64 0, .int .i64 0, .int .i64 0, .int .i64 0, .int .i64 0, .slice ga.c.Ak 0 ga.c.ck, .slice ga.c.Av 0 ga.c.cv, .slice ga.c.Ao 0 ga.c.co] := ev_tmp e1
          go_simp
          exact hK.out _ _ (Ext.refl _) hB ⟨ga, rfl, h2⟩
        case s38 =>
          intro a w1 hF hB hdep K hK
          have e3 : a.tmps[3]?.getD undef = .int .i64 1099511627776 := ev_tmp hF.1
          go_simp
          exact hK.out _ _ (Ext.refl _) hB rfl
        case s39 =>
          intro a w1 hF hB hdep K hK
          have e1 : a.tmps[51]?.getD undef = .int .i64 1099511627776 := ev_tmp (show KindG.V (.num 1099511627776) (a.eval (.tmp 51)) w1 from hdep 38 (by decide))
          go_simp
          exact hK.out _ _ (Ext.refl _) hB ⟨⟨none, 0, none, 0, none, 0, ⟨none, 0, none, 0, none, 0⟩⟩, rfl, ⟨Rd.none_ _ _ _, Rd.none_ _ _ _, Rd.none_ _ _ _, ⟨Rd.none_ _ _ _, Rd.none_ _ _ _, Rd.none_ _ _ _⟩, ⟨Nat.le_refl _, Nat.zero_le _⟩, ⟨Nat.le_refl _, Nat.zero_le _⟩⟩⟩
        case s40 =>
          intro a w1 hF hB hdep K hK
          obtain ⟨ga, e1, h2⟩ := (show KindG.V (.mg ⟨4, 0, 0, 0, 0, 0, false, 0, 0, 1099511627776, 0, [], 0, 0, [], [], 0, En.zero⟩) (a.eval (.tmp 52)) w1 from hdep 39 (by decide))
          have e1 : a.tmps[52]?.getD undef = .agg #[.int .i64 4, .int .i64 0, .int .i64 0, .int .i64 0, .int .i64 0, .int .i64 0, .bool false, .int .i64 0, .int .i64 0, .int .i64 1099511627776, .int .i64 0, .slice ga.Ad 0 ga.cd, .int .i64 0, .int .i64 0, .slice ga.Ah 0 ga.ch, .slice ga.An 0 ga.cn, .int .i64 0, .int .i64 0, .int .i64 0, .int .i64 0, .int .i64 0, .slice ga.c.Ak 0 ga.c.ck, .slice ga.c.Av 0 ga.c.cv, .slice ga.c.Ao 0 ga.c.co] := ev_tmp e1
          go_simp
          exact hK.out _ _ (Ext.refl _) hB ⟨ga, rfl, h2⟩
        case s41 =>
          intro a w1 hF hB hdep K hK
          have e3 : a.tmps[3]?.getD undef = .int .i64 1099511627776 := ev_tmp hF.1
          go_simp
          exact hK.out _ _ (Ext.refl _) hB rfl
        case s42 =>
          intro a w1 hF hB hdep K hK
          have e1 : a.tmps[54]?.getD undef = .int .i64 1099511627776 := ev_tmp (show KindG.V (.num 1099511627776) (a.eval (.tmp 54)) w1 from hdep 41 (by decide))
          go_simp
          exact hK.out _ _ (Ext.refl _) hB rfl
        case s43 =>
          intro a w1 hF hB hdep K hK
          have e1 : a.tmps[55]?.getD undef = .int .i64 1099511627777 := ev_tmp (show KindG.V (.num 1099511627777) (a.eval (.tmp 55)) w1 from hdep 42 (by decide))
          go_simp
          exact hK.out _ _ (Ext.refl _) hB ⟨⟨none, 0, none, 0, none, 0, ⟨none, 0, none, 0, none, 0⟩⟩, rfl, ⟨Rd.none_ _ _ _, Rd.none_ _ _ _, Rd.none_ _ _ _, ⟨Rd.none_ _ _ _, Rd.none_ _ _ _, Rd.none_ _ _ _⟩, ⟨Nat.le_refl _, Nat.zero_le _⟩, ⟨Nat.le_refl _, Nat.zero_le _⟩⟩⟩
        case s44 =>
          intro a w1 hF hB hdep K hK
          obtain ⟨ga, e1, h2⟩ := (show KindG.V (.mg ⟨4, 0, 0, 0, 0, 0, false, 0, 0, 1099511627777, 0, [], 0, 0, [], [], 0, En.zero⟩) (a.eval (.tmp 56)) w1 from hdep 43 (by decide))
          have e1 : a.tmps[56]?.getD undef = .agg #[.int .i64 4, .int .i64 0, .int .i64 0, .int .i64 0, .int .i64 0, .int .i64 0, .bool false, .int .i64 0, .int .i64 0, .int .i64 1099511627777, .int .i64 0, .slice ga.Ad 0 ga.cd, .int .i64 0, .int .i64 0, .slice ga.Ah 0 ga.ch, .slice ga.An 0 ga.cn, .int .i64 0, .int .i64 0, .int .i64 0, .int .i64 0, .int .i64 0, .slice ga.c.Ak 0 ga.c.ck, .slice ga.c.Av 0 ga.c.cv, .slice ga.c.Ao 0 ga.c.co] := ev_tmp e1
          go_simp
          exact hK.out _ _ (Ext.refl _) hB ⟨ga, rfl, h2⟩
        case s45 =>
          intro a w1 hF hB hdep K hK
          have q : (Instr.makeSlice 23 (.int .i64 64) (.int .i64 64)).run Try.prog w1 = .ok (.slice (some ⟨w1.heap.size, 0, none⟩) 64 64) (w1.alloc (.cells (madeCells #[.int .u8 0] (64 * 1)) 5)) := makeB_run w1 64 (by omega)
          go_simp
          exact hK.out _ _ (Ext.of_below ((Below.refl _ _).alloc (Nat.le_refl _) _)) (hB.alloc hB.size _) ⟨_, 64, rfl, rd_zerosB w1 64⟩
        case s46 =>
          intro a w1 hF hB hdep K hK
          obtain ⟨A1, c1, e1, h1⟩ := (show KindG.V (.sl (List.replicate 64 0)) (a.eval (.tmp 58)) w1 from hdep 45 (by decide))
          have e1 : a.tmps[58]?.getD undef = .slice A1 64 c1 := ev_tmp e1
          go_simp
          exact hK.out _ _ (Ext.refl _) hB ⟨⟨A1, c1, none, 0, none, 0, ⟨none, 0, none, 0, none, 0⟩⟩, rfl, ⟨h1, Rd.none_ _ _ _, Rd.none_ _ _ _, ⟨Rd.none_ _ _ _, Rd.none_ _ _ _, Rd.none_ _ _ _⟩, ⟨Nat.le_refl _, Nat.zero_le _⟩, ⟨Nat.le_refl _, Nat.zero_le _⟩⟩⟩
        case s47 =>
          intro a w1 hF hB hdep K hK
          obtain ⟨ga, e1, h2⟩ := (show KindG.V (.mg ⟨5, 0, 0, 0, 0, 0, false, 0, 0, 0, 0, (List.replicate 64 0), 0, 0, [], [], 0, En.zero⟩) (a.eval (.tmp 59)) w1 from hdep 46 (by decide))
          have e1 : a.tmps[59]?.getD undef = .agg #[.int .i64 5, .int .i64 0, .int .i64 0, .int .i64 0, .int .i64 0, .int .i64 0, .bool false, .int .i64 0, .int .i64 0, .int .i64 0, .int .i64 0, .slice ga.Ad 64 ga.cd, .int .i64 0, .int .i64 0, .slice ga.Ah 0 ga.ch, .slice ga.An 0 ga.cn, .int .i64 0, .int .i64 0, .int .i64 0, .int .i64 0, .int .i64 0, .slice ga.c.Ak 0 ga.c.ck, .slice ga.c.Av 0 ga.c.cv, .slice ga.c.Ao 0 ga.c.co] := ev_tmp e1
          go_simp
          exact hK.out _ _ (Ext.refl _) hB ⟨ga, rfl, h2⟩
        case s48 =>
          intro a w1 hF hB hdep K hK
          have q : (Instr.makeSlice 23 (.int .i64 65) (.int .i64 65)).run Try.prog w1 = .ok (.slice (some ⟨w1.heap.size, 0, none⟩) 65 65) (w1.alloc (.cells (madeCells #[.int .u8 0] (65 * 1)) 5)) := makeB_run w1 65 (by omega)
          go_simp
          exact hK.out _ _ (Ext.of_below ((Below.refl _ _).alloc (Nat.le_refl _) _)) (hB.alloc hB.size _) ⟨_, 65, rfl, rd_zerosB w1 65⟩
        case s49 =>
          intro a w1 hF hB hdep K hK
          obtain ⟨A1, c1, e1, h1⟩ := (show KindG.V (.sl (List.replicate 65 0)) (a.eval (.tmp 61)) w1 from hdep 48 (by decide))
          have e1 : a.tmps[61]?.getD undef = .slice A1 65 c1 := ev_tmp e1
          go_simp
          exact hK.out _ _ (Ext.refl _) hB ⟨⟨A1, c1, none, 0, none, 0, ⟨none, 0, none, 0, none, 0⟩⟩, rfl, ⟨h1, Rd.none_ _ _ _, Rd.none_ _ _ _, ⟨Rd.none_ _ _ _, Rd.none_ _ _ _, Rd.none_ _ _ _⟩, ⟨Nat.le_refl _, Nat.zero_le _⟩, ⟨Nat.le_refl _, Nat.zero_le _⟩⟩⟩
        case s50 =>
          intro a w1 hF hB hdep K hK
          obtain ⟨ga, e1, h2⟩ := (show KindG.V (.mg ⟨5, 0, 0, 0, 0, 0, false, 0, 0, 0, 0, (List.replicate 65 0), 0, 0, [], [], 0, En.zero⟩) (a.eval (.tmp 62)) w1 from hdep 49 (by decide))
          have e1 : a.tmps[62]?.getD undef = .agg #[.int .i64 5, .int .i64 0, .int .i64 0, .int .i64 0, .int .i64 0, .int .i64 0, .bool false, .int .i64 0, .int .i64 0, .int .i64 0, .int .i64 0, .slice ga.Ad 65 ga.cd, .int .i64 0, .int .i64 0, .slice ga.Ah 0 ga.ch, .slice ga.An 0 ga.cn, .int .i64 0, .int .i64 0, .int .i64 0, .int .i64 0, .int .i64 0, .slice ga.c.Ak 0 ga.c.ck, .slice ga.c.Av 0 ga.c.cv, .slice ga.c.Ao 0 ga.c.co] := ev_tmp e1
          go_simp
          exact hK.out _ _ (Ext.refl _) hB ⟨ga, rfl, h2⟩
        case s51 =>
          intro a w1 hF hB hdep K hK
          go_simp
          exact hK.out _ _ (Ext.refl _) hB ⟨⟨none, 0, none, 0, none, 0, ⟨none, 0, none, 0, none, 0⟩⟩, rfl, ⟨Rd.none_ _ _ _, Rd.none_ _ _ _, Rd.none_ _ _ _, ⟨Rd.none_ _ _ _, Rd.none_ _ _ _, Rd.none_ _ _ _⟩, ⟨Nat.le_refl _, Nat.zero_le _⟩, ⟨Nat.le_refl _, Nat.zero_le _⟩⟩⟩
        case s52 =>
          intro a w1 hF hB hdep K hK
          obtain ⟨ga, e1, h2⟩ := (show KindG.V (.mg ⟨5, 0, 0, 0, 0, 0, false, 0, 0, 0, (-1), [], 0, 0, [], [], 0, En.zero⟩) (a.eval (.tmp 64)) w1 from hdep 51 (by decide))
          have e1 : a.tmps[64]?.getD undef = .agg #[.int .i64 5, .int .i64 0, .int .i64 0, .int .i64 0, .int .i64 0, .int .i64 0, .bool false, .int .i64 0, .int .i64 0, .int .i64 0, .int .i64 (-1), .slice ga.Ad 0 ga.cd, .int .i64 0, .int .i64 0, .slice ga.Ah 0 ga.ch, .slice ga.An 0 ga.cn, .int .i64 0, .int .i64 0, .int .i64 0, .int .i64 0, .int .i64 0, .slice ga.c.Ak 0 ga.c.ck, .slice ga.c.Av 0 ga.c.cv, .slice ga.c.Ao 0 ga.c.co] := ev_tmp e1
          go_simp
          exact hK.out _ _ (Ext.refl _) hB ⟨ga, rfl, h2⟩
        case s53 =>
          intro a w1 hF hB hdep K hK
          have e1 : a.tmps[4]?.getD undef = .slice A4 7 c4 := ev_tmp hF.2.1
          go_simp
          exact hK.out _ _ (Ext.refl _) hB ⟨A4, c4, rfl, HR4.out.1.ext (Ext.of_below hB), HR4.out.2⟩
        case s54 =>
          intro a w1 hF hB hdep K hK
          have e1 : a.tmps[5]?.getD undef = .slice A5 8 c5 := ev_tmp hF.2.2
          go_simp
          exact hK.out _ _ (Ext.refl _) hB ⟨A5, c5, rfl, HR5.out.1.ext (Ext.of_below hB), HR5.out.2⟩
        case s55 =>
          intro a w1 hF hB hdep K hK
          obtain ⟨A1, c1, e1, h1, l1⟩ := (show KindG.V (.isl (List.replicate 7 0)) (a.eval (.tmp 66)) w1 from hdep 53 (by decide))
          have e1 : a.tmps[66]?.getD undef = .slice A1 7 c1 := ev_tmp e1
          obtain ⟨A2, c2, e2, h2, l2⟩ := (show KindG.V (.isl (List.replicate 8 0)) (a.eval (.tmp 67)) w1 from hdep 54 (by decide))
          have e2 : a.tmps[67]?.getD undef = .slice A2 8 c2 := ev_tmp e2
          go_simp
          exact hK.out _ _ (Ext.refl _) hB ⟨⟨none, 0, A1, c1, A2, c2, ⟨none, 0, none, 0, none, 0⟩⟩, rfl, ⟨Rd.none_ _ _ _, h1, h2, ⟨Rd.none_ _ _ _, Rd.none_ _ _ _, Rd.none_ _ _ _⟩, l1, l2⟩⟩
        case s56 =>
          intro a w1 hF hB hdep K hK
          obtain ⟨ga, e1, h2⟩ := (show KindG.V (.mg ⟨7, 0, 0, 0, 0, 0, false, 0, 0, 0, 0, [], 0, 0, (List.replicate 7 0), (List.replicate 8 0), 0, En.zero⟩) (a.eval (.tmp 68)) w1 from hdep 55 (by decide))
          have e1 : a.tmps[68]?.getD undef = .agg #[.int .i64 7, .int .i64 0, .int .i64 0, .int .i64 0, .int .i64 0, .int .i64 0, .bool false, .int .i64 0, .int .i64 0, .int .i64 0, .int .i64 0, .slice ga.Ad 0 ga.cd, .int .i64 0, .int .i64 0, .slice ga.Ah 7 ga.ch, .slice ga.An 8 ga.cn, .int .i64 0, .int .i64 0, .int .i64 0, .int .i64 0, .int .i64 0, .slice ga.c.Ak 0 ga.c.ck, .slice ga.c.Av 0 ga.c.cv, .slice ga.c.Ao 0 ga.c.co] := ev_tmp e1
          go_simp
          exact hK.out _ _ (Ext.refl _) hB ⟨ga, rfl, h2⟩
        case s57 =>
          intro a w1 hF hB hdep K hK
          have e1 : a.tmps[5]?.getD undef = .slice A5 8 c5 := ev_tmp hF.2.2
          go_simp
          exact hK.out _ _ (Ext.refl _) hB ⟨A5, c5, rfl, HR5.out.1.ext (Ext.of_below hB), HR5.out.2⟩
        case s58 =>
          intro a w1 hF hB hdep K hK
          obtain ⟨A1, c1, e1, h1, l1⟩ := (show KindG.V (.isl (List.replicate 8 0)) (a.eval (.tmp 70)) w1 from hdep 57 (by decide))
          have e1 : a.tmps[70]?.getD undef = .slice A1 8 c1 := ev_tmp e1
          go_simp
          exact hK.out _ _ (Ext.refl _) hB ⟨⟨none, 0, A1, c1, none, 0, ⟨none, 0, none, 0, none, 0⟩⟩, rfl, ⟨Rd.none_ _ _ _, h1, Rd.none_ _ _ _, ⟨Rd.none_ _ _ _, Rd.none_ _ _ _, Rd.none_ _ _ _⟩, l1, ⟨Nat.le_refl _, Nat.zero_le _⟩⟩⟩
        case s59 =>
          intro a w1 hF hB hdep K hK
          obtain ⟨ga, e1, h2⟩ := (show KindG.V (.mg ⟨7, 0, 0, 0, 0, 0, false, 0, 0, 0, 0, [], 0, 0, (List.replicate 8 0), [], 0, En.zero⟩) (a.eval (.tmp 71)) w1 from hdep 58 (by decide))
          have e1 : a.tmps[71]?.getD undef = .agg #[.int .i64 7, .int .i64 0, .int .i64 0, .int .i64 0, .int .i64 0, .int .i64 0, .bool false, .int .i64 0, .int .i64 0, .int .i64 0, .int .i64 0, .slice ga.Ad 0 ga.cd, .int .i64 0, .int .i64 0, .slice ga.Ah 8 ga.ch, .slice ga.An 0 ga.cn, .int .i64 0, .int .i64 0, .int .i64 0, .int .i64 0, .int .i64 0, .slice ga.c.Ak 0 ga.c.ck, .slice ga.c.Av 0 ga.c.cv, .slice ga.c.Ao 0 ga.c.co] := ev_tmp e1
          go_simp
          exact hK.out _ _ (Ext.refl _) hB ⟨ga, rfl, h2⟩
        case s60 =>
          intro a w1 hF hB hdep K hK
          have q : (Instr.makeSlice 22 (.int .i64 9) (.int .i64 9)).run Try.prog w1 = .ok (.slice (some ⟨w1.heap.size, 0, none⟩) 9 9) (w1.alloc (.cells (madeCells #[.int .i64 0] (9 * 1)) 3)) := makeI_run w1 9 (by omega)
          go_simp
          exact hK.out _ _ (Ext.of_below ((Below.refl _ _).alloc (Nat.le_refl _) _)) (hB.alloc hB.size _) ⟨_, 9, rfl, rd_zerosI w1 9, by simp, by unfold maxLen; omega⟩
        case s61 =>
          intro a w1 hF hB hdep K hK
          obtain ⟨A1, c1, e1, h1, l1⟩ := (show KindG.V (.isl (List.replicate 9 0)) (a.eval (.tmp 73)) w1 from hdep 60 (by decide))
          have e1 : a.tmps[73]?.getD undef = .slice A1 9 c1 := ev_tmp e1
          go_simp
          exact hK.out _ _ (Ext.refl _) hB ⟨⟨none, 0, none, 0, A1, c1, ⟨none, 0, none, 0, none, 0⟩⟩, rfl, ⟨Rd.none_ _ _ _, Rd.none_ _ _ _, h1, ⟨Rd.none_ _ _ _, Rd.none_ _ _ _, Rd.none_ _ _ _⟩, ⟨Nat.le_refl _, Nat.zero_le _⟩, l1⟩⟩
        case s62 =>
          intro a w1 hF hB hdep K hK
          obtain ⟨ga, e1, h2⟩ := (show KindG.V (.mg ⟨7, 0, 0, 0, 0, 0, false, 0, 0, 0, 0, [], 0, 0, [], (List.replicate 9 0), 0, En.zero⟩) (a.eval (.tmp 74)) w1 from hdep 61 (by decide))
          have e1 : a.tmps[74]?.getD undef = .agg #[.int .i64 7, .int .i64 0, .int .i64 0, .int .i64 0, .int .i64 0, .int .i64 0, .bool false, .int .i64 0, .int .i64 0, .int .i64 0, .int .i64 0, .slice ga.Ad 0 ga.cd, .int .i64 0, .int .i64 0, .slice ga.Ah 0 ga.ch, .slice ga.An 9 ga.cn, .int .i64 0, .int .i64 0, .int .i64 0, .int .i64 0, .int .i64 0, .slice ga.c.Ak 0 ga.c.ck, .slice ga.c.Av 0 ga.c.cv, .slice ga.c.Ao 0 ga.c.co] := ev_tmp e1
          go_simp
          exact hK.out _ _ (Ext.refl _) hB ⟨ga, rfl, h2⟩
        case s63 =>
          intro a w1 hF hB hdep K hK
          go_simp
          exact hK.out _ _ (Ext.of_below ((Below.refl _ _).alloc (Nat.le_refl _) _)) (hB.alloc hB.size _) ⟨_, 1, rfl, (Rd.oneV w1 _ _).fit, by simp, by unfold maxLen; omega⟩
        case s64 =>
          intro a w1 hF hB hdep K hK
          obtain ⟨A1, c1, e1, h1, l1⟩ := (show KindG.V (.isl [(-1)]) (a.eval (.tmp 76)) w1 from hdep 63 (by decide))
          have e1 : a.tmps[76]?.getD undef = .slice A1 1 c1 := ev_tmp e1
          go_simp
          exact hK.out _ _ (Ext.refl _) hB ⟨⟨none, 0, A1, c1, none, 0, ⟨none, 0, none, 0, none, 0⟩⟩, rfl, ⟨Rd.none_ _ _ _, h1, Rd.none_ _ _ _, ⟨Rd.none_ _ _ _, Rd.none_ _ _ _, Rd.none_ _ _ _⟩, l1, ⟨Nat.le_refl _, Nat.zero_le _⟩⟩⟩
        case s65 =>
          intro a w1 hF hB hdep K hK
          obtain ⟨ga, e1, h2⟩ := (show KindG.V (.mg ⟨7, 0, 0, 0, 0, 0, false, 0, 0, 0, 0, [], 0, 0, [(-1)], [], 0, En.zero⟩) (a.eval (.tmp 77)) w1 from hdep 64 (by decide))
          have e1 : a.tmps[77]?.getD undef = .agg #[.int .i64 7, .int .i64 0, .int .i64 0, .int .i64 0, .int .i64 0, .int .i64 0, .bool false, .int .i64 0, .int .i64 0, .int .i64 0, .int .i64 0, .slice ga.Ad 0 ga.cd, .int .i64 0, .int .i64 0, .slice ga.Ah 1 ga.ch, .slice ga.An 0 ga.cn, .int .i64 0, .int .i64 0, .int .i64 0, .int .i64 0, .int .i64 0, .slice ga.c.Ak 0 ga.c.ck, .slice ga.c.Av 0 ga.c.cv, .slice ga.c.Ao 0 ga.c.co] := ev_tmp e1
          go_simp
          exact hK.out _ _ (Ext.refl _) hB ⟨ga, rfl, h2⟩
        case s66 =>
          intro a w1 hF hB hdep K hK
          have e3 : a.tmps[3]?.getD undef = .int .i64 1099511627776 := ev_tmp hF.1
          go_simp
          exact hK.out _ _ (Ext.refl _) hB rfl
        case s67 =>
          intro a w1 hF hB hdep K hK
          have e1 : a.tmps[79]?.getD undef = .int .i64 1099511627776 := ev_tmp (show KindG.V (.num 1099511627776) (a.eval (.tmp 79)) w1 from hdep 66 (by decide))
          go_simp
          exact hK.out _ _ (Ext.refl _) hB rfl
        case s68 =>
          intro a w1 hF hB hdep K hK
          have e1 : a.tmps[80]?.getD undef = .int .i64 1099511627777 := ev_tmp (show KindG.V (.num 1099511627777) (a.eval (.tmp 80)) w1 from hdep 67 (by decide))
          go_simp
          exact hK.out _ _ (Ext.refl _) hB ⟨⟨none, 0, none, 0, none, 0, ⟨none, 0, none, 0, none, 0⟩⟩, rfl, ⟨Rd.none_ _ _ _, Rd.none_ _ _ _, Rd.none_ _ _ _, ⟨Rd.none_ _ _ _, Rd.none_ _ _ _, Rd.none_ _ _ _⟩, ⟨Nat.le_refl _, Nat.zero_le _⟩, ⟨Nat.le_refl _, Nat.zero_le _⟩⟩⟩
        case s69 =>
          intro a w1 hF hB hdep K hK
          obtain ⟨ga, e1, h2⟩ := (show KindG.V (.mg ⟨7, 0, 0, 0, 0, 0, false, 0, 0, 0, 0, [], 1099511627777, 0, [], [], 0, En.zero⟩) (a.eval (.tmp 81)) w1 from hdep 68 (by decide))
          have e1 : a.tmps[81]?.getD undef = .agg #[.int .i64 7, .int .i64 0, .int .i64 0, .int .i64 0, .int .i64 0, .int .i64 0, .bool false, .int .i64 0, .int .i64 0, .int .i64 0, .int .i64 0, .slice ga.Ad 0 ga.cd, .int .i64 1099511627777, .int .i64 0, .slice ga.Ah 0 ga.ch, .slice ga.An 0 ga.cn, .int .i64 0, .int .i64 0, .int .i64 0, .int .i64 0, .int .i64 0, .slice ga.c.Ak 0 ga.c.ck, .slice ga.c.Av 0 ga.c.cv, .slice ga.c.Ao 0 ga.c.co] := ev_tmp e1
          go_simp
          exact hK.out _ _ (Ext.refl _) hB ⟨ga, rfl, h2⟩
        case s70 =>
          intro a w1 hF hB hdep K hK
          have e3 : a.tmps[3]?.getD undef = .int .i64 1099511627776 := ev_tmp hF.1
          go_simp
          exact hK.out _ _ (Ext.refl _) hB rfl
        case s71 =>
          intro a w1 hF hB hdep K hK
          have e1 : a.tmps[83]?.getD undef = .int .i64 1099511627776 := ev_tmp (show KindG.V (.num 1099511627776) (a.eval (.tmp 83)) w1 from hdep 70 (by decide))
          go_simp
          exact hK.out _ _ (Ext.refl _) hB ⟨⟨none, 0, none, 0, none, 0, ⟨none, 0, none, 0, none, 0⟩⟩, rfl, ⟨Rd.none_ _ _ _, Rd.none_ _ _ _, Rd.none_ _ _ _, ⟨Rd.none_ _ _ _, Rd.none_ _ _ _, Rd.none_ _ _ _⟩, ⟨Nat.le_refl _, Nat.zero_le _⟩, ⟨Nat.le_refl _, Nat.zero_le _⟩⟩⟩
        case s72 =>
          intro a w1 hF hB hdep K hK
          obtain ⟨ga, e1, h2⟩ := (show KindG.V (.mg ⟨8, 0, 0, 0, 0, 0, false, 0, 0, 0, 0, [], 0, 0, [], [], 1099511627776, En.zero⟩) (a.eval (.tmp 84)) w1 from hdep 71 (by decide))
          have e1 : a.tmps[84]?.getD undef = .agg #[.int .i64 8, .int .i64 0, .int .i64 0, .int .i64 0, .int .i64 0, .int .i64 0, .bool false, .int .i64 0, .int .i64 0, .int .i64 0, .int .i64 0, .slice ga.Ad 0 ga.cd, .int .i64 0, .int .i64 0, .slice ga.Ah 0 ga.ch, .slice ga.An 0 ga.cn, .int .i64 1099511627776, .int .i64 0, .int .i64 0, .int .i64 0, .int .i64 0, .slice ga.c.Ak 0 ga.c.ck, .slice ga.c.Av 0 ga.c.cv, .slice ga.c.Ao 0 ga.c.co] := ev_tmp e1
          go_simp
          exact hK.out _ _ (Ext.refl _) hB ⟨ga, rfl, h2⟩
        case s73 =>
          intro a w1 hF hB hdep K hK
          have q : (Instr.makeSlice 23 (.int .i64 32) (.int .i64 32)).run Try.prog w1 = .ok (.slice (some ⟨w1.heap.size, 0, none⟩) 32 32) (w1.alloc (.cells (madeCells #[.int .u8 0] (32 * 1)) 5)) := makeB_run w1 32 (by omega)
          go_simp
          exact hK.out _ _ (Ext.of_below ((Below.refl _ _).alloc (Nat.le_refl _) _)) (hB.alloc hB.size _) ⟨_, 32, rfl, rd_zerosB w1 32⟩
        case s74 =>
          intro a w1 hF hB hdep K hK
          obtain ⟨A, c, e1, h2⟩ := (show KindG.V (.sl (List.replicate 32 0)) (a.eval (.tmp 86)) w1 from hdep 73 (by decide))
          have e1 : a.tmps[86]?.getD undef = .slice A 32 c := ev_tmp e1
          go_simp
          exact hK.out _ _ (Ext.refl _) hB ⟨⟨A, c, none, 0, none, 0⟩, rfl, ⟨h2, Rd.none_ _ _ _, Rd.none_ _ _ _⟩⟩
        case s75 =>
          intro a w1 hF hB hdep K hK
          obtain ⟨ca, e1, h2⟩ := (show KindG.V (.cm ⟨1073741824, 1073741824, (List.replicate 32 0), [], []⟩) (a.eval (.tmp 87)) w1 from hdep 74 (by decide))
          have e1 : a.tmps[87]?.getD undef = .agg #[.int .i64 1073741824, .int .i64 1073741824, .slice ca.Ak 32 ca.ck, .slice ca.Av 0 ca.cv, .slice ca.Ao 0 ca.co] := ev_tmp e1
          go_simp
          exact hK.out _ _ (Ext.refl _) hB ⟨ca, rfl, h2⟩
        case s76 =>
          intro a w1 hF hB hdep K hK
          obtain ⟨ca, e1, hc⟩ := (show KindG.V (.en ⟨1073741824, 1073741824, ⟨1073741824, 1073741824, (List.replicate 32 0), [], []⟩⟩) (a.eval (.tmp 88)) w1 from hdep 75 (by decide))
          have e1 : a.tmps[88]?.getD undef = .agg #[.int .i64 1073741824, .int .i64 1073741824, .int .i64 1073741824, .int .i64 1073741824, .slice ca.Ak 32 ca.ck, .slice ca.Av 0 ca.cv, .slice ca.Ao 0 ca.co] := ev_tmp e1
          go_simp
          exact hK.out _ _ (Ext.refl _) hB ⟨⟨none, 0, none, 0, none, 0, ca⟩, rfl, ⟨Rd.none_ _ _ _, Rd.none_ _ _ _, Rd.none_ _ _ _, hc, ⟨Nat.le_refl _, Nat.zero_le _⟩, ⟨Nat.le_refl _, Nat.zero_le _⟩⟩⟩
        case s77 =>
          intro a w1 hF hB hdep K hK
          obtain ⟨ga, e1, h2⟩ := (show KindG.V (.mg ⟨8, 0, 0, 0, 0, 0, false, 0, 0, 0, 0, [], 0, 0, [], [], 0, ⟨1073741824, 1073741824, ⟨1073741824, 1073741824, (List.replicate 32 0), [], []⟩⟩⟩) (a.eval (.tmp 89)) w1 from hdep 76 (by decide))
          have e1 : a.tmps[89]?.getD undef = .agg #[.int .i64 8, .int .i64 0, .int .i64 0, .int .i64 0, .int .i64 0, .int .i64 0, .bool false, .int .i64 0, .int .i64 0, .int .i64 0, .int .i64 0, .slice ga.Ad 0 ga.cd, .int .i64 0, .int .i64 0, .slice ga.Ah 0 ga.ch, .slice ga.An 0 ga.cn, .int .i64 0, .int .i64 1073741824, .int .i64 1073741824, .int .i64 1073741824, .int .i64 1073741824, .slice ga.c.Ak 32 ga.c.ck, .slice ga.c.Av 0 ga.c.cv, .slice ga.c.Ao 0 ga.c.co] := ev_tmp e1
          go_simp
          exact hK.out _ _ (Ext.refl _) hB ⟨ga, rfl, h2⟩
        case s78 =>
          intro a w1 hF hB hdep K hK
          go_simp
          exact hK.out _ _ (Ext.refl _) hB ⟨⟨none, 0, none, 0, none, 0⟩, rfl, ⟨Rd.none_ _ _ _, Rd.none_ _ _ _, Rd.none_ _ _ _⟩⟩
        case s79 =>
          intro a w1 hF hB hdep K hK
          obtain ⟨ca, e1, hc⟩ := (show KindG.V (.en ⟨1073741825, 0, ⟨0, 0, [], [], []⟩⟩) (a.eval (.tmp 91)) w1 from hdep 78 (by decide))
          have e1 : a.tmps[91]?.getD undef = .agg #[.int .i64 1073741825, .int .i64 0, .int .i64 0, .int .i64 0, .slice ca.Ak 0 ca.ck, .slice ca.Av 0 ca.cv, .slice ca.Ao 0 ca.co] := ev_tmp e1
          go_simp
          exact hK.out _ _ (Ext.refl _) hB ⟨⟨none, 0, none, 0, none, 0, ca⟩, rfl, ⟨Rd.none_ _ _ _, Rd.none_ _ _ _, Rd.none_ _ _ _, hc, ⟨Nat.le_refl _, Nat.zero_le _⟩, ⟨Nat.le_refl _, Nat.zero_le _⟩⟩⟩
        case s80 =>
          intro a w1 hF hB hdep K hK
          obtain ⟨ga, e1, h2⟩ := (show KindG.V (.mg ⟨8, 0, 0, 0, 0, 0, false, 0, 0, 0, 0, [], 0, 0, [], [], 0, ⟨1073741825, 0, ⟨0, 0, [], [], []⟩⟩⟩) (a.eval (.tmp 92)) w1 from hdep 79 (by decide))
          have e1 : a.tmps[92]?.getD undef = .agg #[.int .i64 8, .int .i64 0, .int .i64 0, .int .i64 0, .int .i64 0, .int .i64 0, .bool false, .int .i64 0, .int .i64 0, .int .i64 0, .int .i64 0, .slice ga.Ad 0 ga.cd, .int .i64 0, .int .i64 0, .slice ga.Ah 0 ga.ch, .slice ga.An 0 ga.cn, .int .i64 0, .int .i64 1073741825, .int .i64 0, .int .i64 0, .int .i64 0, .slice ga.c.Ak 0 ga.c.ck, .slice ga.c.Av 0 ga.c.cv, .slice ga.c.Ao 0 ga.c.co] := ev_tmp e1
          go_simp
          exact hK.out _ _ (Ext.refl _) hB ⟨ga, rfl, h2⟩
        case s81 =>
          intro a w1 hF hB hdep K hK
          have q : (Instr.makeSlice 23 (.int .i64 33) (.int .i64 33)).run Try.prog w1 = .ok (.slice (some ⟨w1.heap.size, 0, none⟩) 33 33) (w1.alloc (.cells (madeCells #[.int .u8 0] (33 * 1)) 5)) := makeB_run w1 33 (by omega)
          go_simp
          exact hK.out _ _ (Ext.of_below ((Below.refl _ _).alloc (Nat.le_refl _) _)) (hB.alloc hB.size _) ⟨_, 33, rfl, rd_zerosB w1 33⟩
        case s82 =>
          intro a w1 hF hB hdep K hK
          obtain ⟨A, c, e1, h2⟩ := (show KindG.V (.sl (List.replicate 33 0)) (a.eval (.tmp 94)) w1 from hdep 81 (by decide))
          have e1 : a.tmps[94]?.getD undef = .slice A 33 c := ev_tmp e1
          go_simp
          exact hK.out _ _ (Ext.refl _) hB ⟨⟨none, 0, A, c, none, 0⟩, rfl, ⟨Rd.none_ _ _ _, h2, Rd.none_ _ _ _⟩⟩
        case s83 =>
          intro a w1 hF hB hdep K hK
          obtain ⟨ca, e1, h2⟩ := (show KindG.V (.cm ⟨0, 0, [], (List.replicate 33 0), []⟩) (a.eval (.tmp 95)) w1 from hdep 82 (by decide))
          have e1 : a.tmps[95]?.getD undef = .agg #[.int .i64 0, .int .i64 0, .slice ca.Ak 0 ca.ck, .slice ca.Av 33 ca.cv, .slice ca.Ao 0 ca.co] := ev_tmp e1
          go_simp
          exact hK.out _ _ (Ext.refl _) hB ⟨ca, rfl, h2⟩
        case s84 =>
          intro a w1 hF hB hdep K hK
          obtain ⟨ca, e1, hc⟩ := (show KindG.V (.en ⟨0, 0, ⟨0, 0, [], (List.replicate 33 0), []⟩⟩) (a.eval (.tmp 96)) w1 from hdep 83 (by decide))
          have e1 : a.tmps[96]?.getD undef = .agg #[.int .i64 0, .int .i64 0, .int .i64 0, .int .i64 0, .slice ca.Ak 0 ca.ck, .slice ca.Av 33 ca.cv, .slice ca.Ao 0 ca.co] := ev_tmp e1
          go_simp
          exact hK.out _ _ (Ext.refl _) hB ⟨⟨none, 0, none, 0, none, 0, ca⟩, rfl, ⟨Rd.none_ _ _ _, Rd.none_ _ _ _, Rd.none_ _ _ _, hc, ⟨Nat.le_refl _, Nat.zero_le _⟩, ⟨Nat.le_refl _, Nat.zero_le _⟩⟩⟩
        case s85 =>
          intro a w1 hF hB hdep K hK
          obtain ⟨ga, e1, h2⟩ := (show KindG.V (.mg ⟨8, 0, 0, 0, 0, 0, false, 0, 0, 0, 0, [], 0, 0, [], [], 0, ⟨0, 0, ⟨0, 0, [], (List.replicate 33 0), []⟩⟩⟩) (a.eval (.tmp 97)) w1 from hdep 84 (by decide))
          have e1 : a.tmps[97]?.getD undef = .agg #[.int .i64 8, .int .i64 0, .int .i64 0, .int .i64 0, .int .i64 0, .int .i64 0, .bool false, .int .i64 0, .int .i64 0, .int .i64 0, .int .i64 0, .slice ga.Ad 0 ga.cd, .int .i64 0, .int .i64 0, .slice ga.Ah 0 ga.ch, .slice ga.An 0 ga.cn, .int .i64 0, .int .i64 0, .int .i64 0, .int .i64 0, .int .i64 0, .slice ga.c.Ak 0 ga.c.ck, .slice ga.c.Av 33 ga.c.cv, .slice ga.c.Ao 0 ga.c.co] := ev_tmp e1
          go_simp
          exact hK.out _ _ (Ext.refl _) hB ⟨ga, rfl, h2⟩
        case s86 =>
          intro a w1 hF hB hdep K hK
          have e1 : a.tmps[5]?.getD undef = .slice A5 8 c5 := ev_tmp hF.2.2
          go_simp
          exact hK.out _ _ (Ext.refl _) hB ⟨A5, c5, rfl, HR5.out.1.ext (Ext.of_below hB), HR5.out.2⟩
        case s87 =>
          intro a w1 hF hB hdep K hK
          obtain ⟨A1, c1, e1, h1, l1⟩ := (show KindG.V (.isl (List.replicate 8 0)) (a.eval (.tmp 99)) w1 from hdep 86 (by decide))
          have e1 : a.tmps[99]?.getD undef = .slice A1 8 c1 := ev_tmp e1
          go_simp
          exact hK.out _ _ (Ext.refl _) hB ⟨⟨none, 0, A1, c1, none, 0, ⟨none, 0, none, 0, none, 0⟩⟩, rfl, ⟨Rd.none_ _ _ _, h1, Rd.none_ _ _ _, ⟨Rd.none_ _ _ _, Rd.none_ _ _ _, Rd.none_ _ _ _⟩, l1, ⟨Nat.le_refl _, Nat.zero_le _⟩⟩⟩
        case s88 =>
          intro a w1 hF hB hdep K hK
          obtain ⟨ga, e1, h2⟩ := (show KindG.V (.mg ⟨6, 0, 0, 0, 0, 0, false, 999, 0, 0, 0, [], 0, 0, (List.replicate 8 0), [], 0, En.zero⟩) (a.eval (.tmp 100)) w1 from hdep 87 (by decide))
          have e1 : a.tmps[100]?.getD undef = .agg #[.int .i64 6, .int .i64 0, .int .i64 0, .int .i64 0, .int .i64 0, .int .i64 0, .bool false, .int .i64 999, .int .i64 0, .int .i64 0, .int .i64 0, .slice ga.Ad 0 ga.cd, .int .i64 0, .int .i64 0, .slice ga.Ah 8 ga.ch, .slice ga.An 0 ga.cn, .int .i64 0, .int .i64 0, .int .i64 0, .int .i64 0, .int .i64 0, .slice ga.c.Ak 0 ga.c.ck, .slice ga.c.Av 0 ga.c.cv, .slice ga.c.Ao 0 ga.c.co] := ev_tmp e1
          go_simp
          exact hK.out _ _ (Ext.refl _) hB ⟨ga, rfl, h2⟩
        case s89 => exact step_big _ rfl
        case s90 =>
          intro a w1 hF hB hdep K hK
          obtain ⟨b, e1, h2⟩ := (show KindG.V (.big) (a.eval (.tmp 102)) w1 from hdep 89 (by decide))
          have e1 : a.tmps[102]?.getD undef = .slice (some ⟨b, 0, none⟩) 30 30 := ev_tmp e1
          go_simp
          exact hK.out _ _ (Ext.refl _) hB ⟨b, rfl, h2⟩
      case hm => kernel_rfl
      case hb => kernel_rfl
      case inj =>
        intro i j hi hj h
        have h1 : ((List.range 91).all fun i => (List.range 91).all fun j => !(dstG i == dstG j) || (i == j)) = true := by kernel_rfl
        have h2 := List.all_eq_true.1 (List.all_eq_true.1 h1 i (List.mem_range.2 hi)) j (List.mem_range.2 hj)
        simpa [h] using h2
      case dst => exact all_ops (AllFrom.cons ⟨rfl, rfl⟩ (AllFrom.cons ⟨rfl, rfl⟩ (AllFrom.cons ⟨rfl, rfl⟩ (AllFrom.cons ⟨rfl, rfl⟩ (AllFrom.cons ⟨rfl, rfl⟩ (AllFrom.cons ⟨rfl, rfl⟩ (AllFrom.cons ⟨rfl, rfl⟩ (AllFrom.cons ⟨rfl, rfl⟩ (AllFrom.cons ⟨rfl, rfl⟩ (AllFrom.cons ⟨rfl, rfl⟩ (AllFrom.cons ⟨rfl, rfl⟩ (AllFrom.cons ⟨rfl, rfl⟩ (AllFrom.cons ⟨rfl, rfl⟩ (AllFrom.cons ⟨rfl, rfl⟩ (AllFrom.cons ⟨rfl, rfl⟩ (AllFrom.cons ⟨rfl, rfl⟩ (AllFrom.cons ⟨rfl, rfl⟩ (AllFrom.cons ⟨rfl, rfl⟩ (AllFrom.cons ⟨rfl, rfl⟩ (AllFrom.cons ⟨rfl, rfl⟩ (AllFrom.cons ⟨rfl, rfl⟩ (AllFrom.cons ⟨rfl, rfl⟩ (AllFrom.cons ⟨rfl, rfl⟩ (AllFrom.cons ⟨rfl, rfl⟩ (AllFrom.cons ⟨rfl, rfl⟩ (AllFrom.cons ⟨rfl, rfl⟩ (AllFrom.cons ⟨rfl, rfl⟩ (AllFrom.cons ⟨rfl, rfl⟩ (AllFrom.cons ⟨rfl, rfl⟩ (AllFrom.cons ⟨rfl, rfl⟩ (AllFrom.cons ⟨rfl, rfl⟩ (AllFrom.cons ⟨rfl, rfl⟩ (AllFrom.cons ⟨rfl, rfl⟩ (AllFrom.cons ⟨rfl, rfl⟩ (AllFrom.cons ⟨rfl, rfl⟩ (AllFrom.cons ⟨rfl, rfl⟩ (AllFrom.cons ⟨rfl, rfl⟩ (AllFrom.cons ⟨rfl, rfl⟩ (AllFrom.cons ⟨rfl, rfl⟩ (AllFrom.cons ⟨rfl, rfl⟩ (AllFrom.cons ⟨rfl, rfl⟩ (AllFrom.cons ⟨rfl, rfl⟩ (AllFrom.cons ⟨rfl, rfl⟩ (AllFrom.cons ⟨rfl, rfl⟩ (AllFrom.cons ⟨rfl, rfl⟩ (AllFrom.cons ⟨rfl, rfl⟩ (AllFrom.cons ⟨rfl, rfl⟩ (AllFrom.cons ⟨rfl, rfl⟩ (AllFrom.cons ⟨rfl, rfl⟩ (AllFrom.cons ⟨rfl, rfl⟩ (AllFrom.cons ⟨rfl, rfl⟩ (AllFrom.cons ⟨rfl, rfl⟩ (AllFrom.cons ⟨rfl, rfl⟩ (AllFrom.cons ⟨rfl, rfl⟩ (AllFrom.cons ⟨rfl, rfl⟩ (AllFrom.cons ⟨rfl, rfl⟩ (AllFrom.cons ⟨rfl, rfl⟩ (AllFrom.cons ⟨rfl, rfl⟩ (AllFrom.cons ⟨rfl, rfl⟩ (AllFrom.cons ⟨rfl, rfl⟩ (AllFrom.cons ⟨rfl, rfl⟩ (AllFrom.cons ⟨rfl, rfl⟩ (AllFrom.cons ⟨rfl, rfl⟩ (AllFrom.cons ⟨rfl, rfl⟩ (AllFrom.cons ⟨rfl, rfl⟩ (AllFrom.cons ⟨rfl, rfl⟩ (AllFrom.cons ⟨rfl, rfl⟩ (AllFrom.cons ⟨rfl, rfl⟩ (AllFrom.cons ⟨rfl, rfl⟩ (AllFrom.cons ⟨rfl, rfl⟩ (AllFrom.cons ⟨rfl, rfl⟩ (AllFrom.cons ⟨rfl, rfl⟩ (AllFrom.cons ⟨rfl, rfl⟩ (AllFrom.cons ⟨rfl, rfl⟩ (AllFrom.cons ⟨rfl, rfl⟩ (AllFrom.cons ⟨rfl, rfl⟩ (AllFrom.cons ⟨rfl, rfl⟩ (AllFrom.cons ⟨rfl, rfl⟩ (AllFrom.cons ⟨rfl, rfl⟩ (AllFrom.cons ⟨rfl, rfl⟩ (AllFrom.cons ⟨rfl, rfl⟩ (AllFrom.cons ⟨rfl, rfl⟩ (AllFrom.cons ⟨rfl, rfl⟩ (AllFrom.cons ⟨rfl, rfl⟩ (AllFrom.cons ⟨rfl, rfl⟩ (AllFrom.cons ⟨rfl, rfl⟩ (AllFrom.cons ⟨rfl, rfl⟩ (AllFrom.cons ⟨rfl, rfl⟩ (AllFrom.cons ⟨rfl, rfl⟩ (AllFrom.cons ⟨rfl, rfl⟩ (AllFrom.cons ⟨rfl, rfl⟩ AllFrom.nil)))))))))))))))))))))))))))))))))))))))))))))))))))))))))))))))))))))))))))))))))))))))))))
      case deps =>
        intro i hi j hj
        refine deps_of (deps := depsG) ?_ i hi j hj
        kernel_rfl
      case put => exact all_ops (AllFrom.cons (fun _ _ => by kernel_rfl) (AllFrom.cons (fun _ _ => by kernel_rfl) (AllFrom.cons (fun _ _ => by kernel_rfl) (AllFrom.cons (fun _ _ => by kernel_rfl) (AllFrom.cons (fun _ _ => by kernel_rfl) (AllFrom.cons (fun _ _ => by kernel_rfl) (AllFrom.cons (fun _ _ => by kernel_rfl) (AllFrom.cons (fun _ _ => by kernel_rfl) (AllFrom.cons (fun _ _ => by kernel_rfl) (AllFrom.cons (fun _ _ => by kernel_rfl) (AllFrom.cons (fun _ _ => by kernel_rfl) (AllFrom.cons (fun _ _ => by kernel_rfl) (AllFrom.cons (fun _ _ => by kernel_rfl) (AllFrom.cons (fun _ _ => by kernel_rfl) (AllFrom.cons (fun _ _ => by kernel_rfl) (AllFrom.cons (fun _ _ => by kernel_rfl) (AllFrom.cons (fun _ _ => by kernel_rfl) (AllFrom.cons (fun _ _ => by kernel_rfl) (AllFrom.cons (fun _ _ => by kernel_rfl) (AllFrom.cons (fun _ _ => by kernel_rfl) (AllFrom.cons (fun _ _ => by kernel_rfl) (AllFrom.cons (fun _ _ => by kernel_rfl) (AllFrom.cons (fun _ _ => by kernel_rfl) (AllFrom.cons (fun _ _ => by kernel_rfl) (AllFrom.cons (fun _ _ => by kernel_rfl) (AllFrom.cons (fun _ _ => by kernel_rfl) (AllFrom.cons (fun _ _ => by kernel_rfl) (AllFrom.cons (fun _ _ => by kernel_rfl) (AllFrom.cons (fun _ _ => by kernel_rfl) (AllFrom.cons (fun _ _ => by kernel_rfl) (AllFrom.cons (fun _ _ => by kernel_rfl) (AllFrom.cons (fun _ _ => by kernel_rfl) (AllFrom.cons (fun _ _ => by kernel_rfl) (AllFrom.cons (fun _ _ => by kernel_rfl) (AllFrom.cons (fun _ _ => by kernel_rfl) (AllFrom.cons (fun _ _ => by kernel_rfl) (AllFrom.cons (fun _ _ => by kernel_rfl) (AllFrom.cons (fun _ _ => by kernel_rfl) (AllFrom.cons (fun _ _ => by kernel_rfl) (AllFrom.cons (fun _ _ => by kernel_rfl) (AllFrom.cons (fun _ _ => by kernel_rfl) (AllFrom.cons (fun _ _ => by kernel_rfl) (AllFrom.cons (fun _ _ => by kernel_rfl) (AllFrom.cons (fun _ _ => by kernel_rfl) (AllFrom.cons (fun _ _ => by kernel_rfl) (AllFrom.cons (fun _ _ => by kernel_rfl) (AllFrom.cons (fun _ _ => by kernel_rfl) (AllFrom.cons (fun _ _ => by kernel_rfl) (AllFrom.cons (fun _ _ => by kernel_rfl) (AllFrom.cons (fun _ _ => by kernel_rfl) (AllFrom.cons (fun _ _ => by kernel_rfl) (AllFrom.cons (fun _ _ => by kernel_rfl) (AllFrom.cons (fun _ _ => by kernel_rfl) (AllFrom.cons (fun _ _ => by kernel_rfl) (AllFrom.cons (fun _ _ => by kernel_rfl) (AllFrom.cons (fun _ _ => by kernel_rfl) (AllFrom.cons (fun _ _ => by kernel_rfl) (AllFrom.cons (fun _ _ => by kernel_rfl) (AllFrom.cons (fun _ _ => by kernel_rfl) (AllFrom.cons (fun _ _ => by kernel_rfl) (AllFrom.cons (fun _ _ => by kernel_rfl) (AllFrom.cons (fun _ _ => by kernel_rfl) (AllFrom.cons (fun _ _ => by kernel_rfl) (AllFrom.cons (fun _ _ => by kernel_rfl) (AllFrom.cons (fun _ _ => by kernel_rfl) (AllFrom.cons (fun _ _ => by kernel_rfl) (AllFrom.cons (fun _ _ => by kernel_rfl) (AllFrom.cons (fun _ _ => by kernel_rfl) (AllFrom.cons (fun _ _ => by kernel_rfl) (AllFrom.cons (fun _ _ => by kernel_rfl) (AllFrom.cons (fun _ _ => by kernel_rfl) (AllFrom.cons (fun _ _ => by kernel_rfl) (AllFrom.cons (fun _ _ => by kernel_rfl) (AllFrom.cons (fun _ _ => by kernel_rfl) (AllFrom.cons (fun _ _ => by kernel_rfl) (AllFrom.cons (fun _ _ => by kernel_rfl) (AllFrom.cons (fun _ _ => by kernel_rfl) (AllFrom.cons (fun _ _ => by kernel_rfl) (AllFrom.cons (fun _ _ => by kernel_rfl) (AllFrom.cons (fun _ _ => by kernel_rfl) (AllFrom.cons (fun _ _ => by kernel_rfl) (AllFrom.cons (fun _ _ => by kernel_rfl) (AllFrom.cons (fun _ _ => by kernel_rfl) (AllFrom.cons (fun _ _ => by kernel_rfl) (AllFrom.cons (fun _ _ => by kernel_rfl) (AllFrom.cons (fun _ _ => by kernel_rfl) (AllFrom.cons (fun _ _ => by kernel_rfl) (AllFrom.cons (fun _ _ => by kernel_rfl) (AllFrom.cons (fun _ _ => by kernel_rfl) (AllFrom.cons (fun _ _ => by kernel_rfl) (AllFrom.cons (fun _ _ => by kernel_rfl) AllFrom.nil)))))))))))))))))))))))))))))))))))))))))))))))))))))))))))))))))))))))))))))))))))))))))))
      case ev => exact all_ops (AllFrom.cons (fun _ => by kernel_rfl) (AllFrom.cons (fun _ => by kernel_rfl) (AllFrom.cons (fun _ => by kernel_rfl) (AllFrom.cons (fun _ => by kernel_rfl) (AllFrom.cons (fun _ => by kernel_rfl) (AllFrom.cons (fun _ => by kernel_rfl) (AllFrom.cons (fun _ => by kernel_rfl) (AllFrom.cons (fun _ => by kernel_rfl) (AllFrom.cons (fun _ => by kernel_rfl) (AllFrom.cons (fun _ => by kernel_rfl) (AllFrom.cons (fun _ => by kernel_rfl) (AllFrom.cons (fun _ => by kernel_rfl) (AllFrom.cons (fun _ => by kernel_rfl) (AllFrom.cons (fun _ => by kernel_rfl) (AllFrom.cons (fun _ => by kernel_rfl) (AllFrom.cons (fun _ => by kernel_rfl) (AllFrom.cons (fun _ => by kernel_rfl) (AllFrom.cons (fun _ => by kernel_rfl) (AllFrom.cons (fun _ => by kernel_rfl) (AllFrom.cons (fun _ => by kernel_rfl) (AllFrom.cons (fun _ => by kernel_rfl) (AllFrom.cons (fun _ => by kernel_rfl) (AllFrom.cons (fun _ => by kernel_rfl) (AllFrom.cons (fun _ => by kernel_rfl) (AllFrom.cons (fun _ => by kernel_rfl) (AllFrom.cons (fun _ => by kernel_rfl) (AllFrom.cons (fun _ => by kernel_rfl) (AllFrom.cons (fun _ => by kernel_rfl) (AllFrom.cons (fun _ => by kernel_rfl) (AllFrom.cons (fun _ => by kernel_rfl) (AllFrom.cons (fun _ => by kernel_rfl) (AllFrom.cons (fun _ => by kernel_rfl) (AllFrom.cons (fun _ => by kernel_rfl) (AllFrom.cons (fun _ => by kernel_rfl) (AllFrom.cons (fun _ => by kernel_rfl) (AllFrom.cons (fun _ => by kernel_rfl) (AllFrom.cons (fun _ => by kernel_rfl) (AllFrom.cons (fun _ => by kernel_rfl) (AllFrom.cons (fun _ => by kernel_rfl) (AllFrom.cons (fun _ => by kernel_rfl) (AllFrom.cons (fun _ => by kernel_rfl) (AllFrom.cons (fun _ => by kernel_rfl) (AllFrom.cons (fun _ => by kernel_rfl) (AllFrom.cons (fun _ => by kernel_rfl) (AllFrom.cons (fun _ => by kernel_rfl) (AllFrom.cons (fun _ => by kernel_rfl) (AllFrom.cons (fun _ => by kernel_rfl) (AllFrom.cons (fun _ => by kernel_rfl) (AllFrom.cons (fun _ => by kernel_rfl) (AllFrom.cons (fun _ => by kernel_rfl) (AllFrom.cons (fun _ => by kernel_rfl) (AllFrom.cons (fun _ => by kernel_rfl) (AllFrom.cons (fun _ => by kernel_rfl) (AllFrom.cons (fun _ => by kernel_rfl) (AllFrom.cons (fun _ => by kernel_rfl) (AllFrom.cons (fun _ => by kernel_rfl) (AllFrom.cons (fun _ => by kernel_rfl) (AllFrom.cons (fun _ => by kernel_rfl) (AllFrom.cons (fun _ => by kernel_rfl) (AllFrom.cons (fun _ => by kernel_rfl) (AllFrom.cons (fun _ => by kernel_rfl) (AllFrom.cons (fun _ => by kernel_rfl) (AllFrom.cons (fun _ => by kernel_rfl) (AllFrom.cons (fun _ => by kernel_rfl) (AllFrom.cons (fun _ => by kernel_rfl) (AllFrom.cons (fun _ => by kernel_rfl) (AllFrom.cons (fun _ => by kernel_rfl) (AllFrom.cons (fun _ => by kernel_rfl) (AllFrom.cons (fun _ => by kernel_rfl) (AllFrom.cons (fun _ => by kernel_rfl) (AllFrom.cons (fun _ => by kernel_rfl) (AllFrom.cons (fun _ => by kernel_rfl) (AllFrom.cons (fun _ => by kernel_rfl) (AllFrom.cons (fun _ => by kernel_rfl) (AllFrom.cons (fun _ => by kernel_rfl) (AllFrom.cons (fun _ => by kernel_rfl) (AllFrom.cons (fun _ => by kernel_rfl) (AllFrom.cons (fun _ => by kernel_rfl) (AllFrom.cons (fun _ => by kernel_rfl) (AllFrom.cons (fun _ => by kernel_rfl) (AllFrom.cons (fun _ => by kernel_rfl) (AllFrom.cons (fun _ => by kernel_rfl) (AllFrom.cons (fun _ => by kernel_rfl) (AllFrom.cons (fun _ => by kernel_rfl) (AllFrom.cons (fun _ => by kernel_rfl) (AllFrom.cons (fun _ => by kernel_rfl) (AllFrom.cons (fun _ => by kernel_rfl) (AllFrom.cons (fun _ => by kernel_rfl) (AllFrom.cons (fun _ => by kernel_rfl) (AllFrom.cons (fun _ => by kernel_rfl) (AllFrom.cons (fun _ => by kernel_rfl) AllFrom.nil)))))))))))))))))))))))))))))))))))))))))))))))))))))))))))))))))))))))))))))))))))))))))))
      case fr => exact fun U => ⟨by kernel_rfl, by kernel_rfl, by kernel_rfl⟩
      case done =>
        intro U w' hB hV
        obtain ⟨b, e1, h2⟩ := (show KindG.V (.big) (U 6) w' from hV 90 (by decide))
        unfold frameG
        rw [e1]
        have HT2 := Lib.hid h2
        have HB2 := Lib.hid (HB0.out.trans (hB.mono HB0.out.size))
        clear hV e1 h2 hB
        go_wp2_with fail
        go_meet
        exact ⟨b, rfl, HT2, HB2⟩
    case rest =>
      obtain ⟨b, rfl, HT, HB⟩ := hcut
      rename World => w1
      have e1 := and_255 n
      obtain ⟨j, hj, hj30⟩ : ∃ j : Nat, (n % 256).tmod 30 = (j : Int) ∧ j < 30 := by
        rw [Int.tmod_eq_emod_of_nonneg (by omega)]
        have h1 := Int.emod_nonneg (n % 256) (show (30 : Int) ≠ 0 by omega)
        have h2 := Int.emod_lt_of_pos (n % 256) (show (0 : Int) < 30 by omega)
        exact ⟨(n % 256 % 30).toNat, by omega, by omega⟩
      have hji : (j : Int) < 30 := by omega
      obtain ⟨r, hr⟩ : ∃ r, rowsG[j]? = some r := ⟨_, List.getElem?_eq_getElem (by rw [rowsG_length]; exact hj30)⟩
      have HG := Lib.hid (rowsG_at hr)
      obtain ⟨a, hcells, hrc⟩ := HT.out.2 j r hr
      have HQ := Lib.hid (show w1.rangeAt b (j * 25) [.int .i64 r.m.kind, .int .i64 r.m.frm, .int .i64 r.m.dst, .int .i64 r.m.view, .int .i64 r.m.inst, .int .i64 r.m.len, .bool r.m.has, .int .i64 r.m.mem, .int .i64 r.m.src, .int .i64 r.m.pos, .int .i64 r.m.tot, .slice a.Ad r.m.data.length a.cd, .int .i64 r.m.hop, .int .i64 r.m.seq, .slice a.Ah r.m.hav.length a.ch, .slice a.An r.m.nee.length a.cn, .int .i64 r.m.idx, .int .i64 r.m.ent.s, .int .i64 r.m.ent.q, .int .i64 r.m.ent.c.kind, .int .i64 r.m.ent.c.who, .slice a.c.Ak r.m.ent.c.key.length a.c.ck, .slice a.c.Av r.m.ent.c.val.length a.c.cv, .slice a.c.Ao r.m.ent.c.old.length a.c.co, .bool r.ok] from fun t v h => hcells t v (by rw [← Array.getElem?_toList]; exact h))
      have HRC := Lib.hid hrc
      have HZ := Lib.hid (Blk.new w1 30 #[.int .i64 0, .int .i64 0, .int .i64 0, .int .i64 0, .int .i64 0, .int .i64 0, .bool false, .int .i64 0, .int .i64 0, .int .i64 0, .int .i64 0, .slice none 0 0, .int .i64 0, .int .i64 0, .slice none 0 0, .slice none 0 0, .int .i64 0, .int .i64 0, .int .i64 0, .int .i64 0, .int .i64 0, .slice none 0 0, .slice none 0 0, .slice none 0 0, .bool false])
      clear hcells hrc hr HT
      go_upto_region 5 with (first
        | (refine wpList_load_mid rfl 30 (.tmp 109) rfl b (j * 25) rfl [.int .i64 r.m.kind, .int .i64 r.m.frm, .int .i64 r.m.dst, .int .i64 r.m.view, .int .i64 r.m.inst, .int .i64 r.m.len, .bool r.m.has, .int .i64 r.m.mem, .int .i64 r.m.src, .int .i64 r.m.pos, .int .i64 r.m.tot, .slice a.Ad r.m.data.length a.cd, .int .i64 r.m.hop, .int .i64 r.m.seq, .slice a.Ah r.m.hav.length a.ch, .slice a.An r.m.nee.length a.cn, .int .i64 r.m.idx, .int .i64 r.m.ent.s, .int .i64 r.m.ent.q, .int .i64 r.m.ent.c.kind, .int .i64 r.m.ent.c.who, .slice a.c.Ak r.m.ent.c.key.length a.c.ck, .slice a.c.Av r.m.ent.c.val.length a.c.cv, .slice a.c.Ao r.m.ent.c.old.length a.c.co, .bool r.ok] _ HQ.out rfl rfl rfl ?_)
        | (refine wpList_store_row rfl 30 (.tmp 7) (.tmp 110) rfl w1.heap.size #[.int .i64 r.m.kind, .int .i64 r.m.frm, .int .i64 r.m.dst, .int .i64 r.m.view, .int .i64 r.m.inst, .int .i64 r.m.len, .bool r.m.has, .int .i64 r.m.mem, .int .i64 r.m.src, .int .i64 r.m.pos, .int .i64 r.m.tot, .slice a.Ad r.m.data.length a.cd, .int .i64 r.m.hop, .int .i64 r.m.seq, .slice a.Ah r.m.hav.length a.ch, .slice a.An r.m.nee.length a.cn, .int .i64 r.m.idx, .int .i64 r.m.ent.s, .int .i64 r.m.ent.q, .int .i64 r.m.ent.c.kind, .int .i64 r.m.ent.c.who, .slice a.c.Ak r.m.ent.c.key.length a.c.ck, .slice a.c.Av r.m.ent.c.val.length a.c.cv, .slice a.c.Ao r.m.ent.c.old.length a.c.co, .bool r.ok] rfl rfl 30 #[.int .i64 0, .int .i64 0, .int .i64 0, .int .i64 0, .int .i64 0, .int .i64 0, .bool false, .int .i64 0, .int .i64 0, .int .i64 0, .int .i64 0, .slice none 0 0, .int .i64 0, .int .i64 0, .slice none 0 0, .slice none 0 0, .int .i64 0, .int .i64 0, .int .i64 0, .int .i64 0, .int .i64 0, .slice none 0 0, .slice none 0 0, .slice none 0 0, .bool false] HZ.out (by kernel_rfl) rfl (by kernel_rfl) ?_)
        | fail)
      have b2 : Below w1.heap.size w1 ((w1.alloc (.cells #[.int .i64 0, .int .i64 0, .int .i64 0, .int .i64 0, .int .i64 0, .int .i64 0, .bool false, .int .i64 0, .int .i64 0, .int .i64 0, .int .i64 0, .slice none 0 0, .int .i64 0, .int .i64 0, .slice none 0 0, .slice none 0 0, .int .i64 0, .int .i64 0, .int .i64 0, .int .i64 0, .int .i64 0, .slice none 0 0, .slice none 0 0, .slice none 0 0, .bool false] 30)).setRow w1.heap.size #[.int .i64 r.m.kind, .int .i64 r.m.frm, .int .i64 r.m.dst, .int .i64 r.m.view, .int .i64 r.m.inst, .int .i64 r.m.len, .bool r.m.has, .int .i64 r.m.mem, .int .i64 r.m.src, .int .i64 r.m.pos, .int .i64 r.m.tot, .slice a.Ad r.m.data.length a.cd, .int .i64 r.m.hop, .int .i64 r.m.seq, .slice a.Ah r.m.hav.length a.ch, .slice a.An r.m.nee.length a.cn, .int .i64 r.m.idx, .int .i64 r.m.ent.s, .int .i64 r.m.ent.q, .int .i64 r.m.ent.c.kind, .int .i64 r.m.ent.c.who, .slice a.c.Ak r.m.ent.c.key.length a.c.ck, .slice a.c.Av r.m.ent.c.val.length a.c.cv, .slice a.c.Ao r.m.ent.c.old.length a.c.co, .bool r.ok]) := below_setRow ((Below.refl _ _).alloc (Nat.le_refl _) _) (Nat.le_refl _) _
      have hx2 := HZ.out.row #[.int .i64 r.m.kind, .int .i64 r.m.frm, .int .i64 r.m.dst, .int .i64 r.m.view, .int .i64 r.m.inst, .int .i64 r.m.len, .bool r.m.has, .int .i64 r.m.mem, .int .i64 r.m.src, .int .i64 r.m.pos, .int .i64 r.m.tot, .slice a.Ad r.m.data.length a.cd, .int .i64 r.m.hop, .int .i64 r.m.seq, .slice a.Ah r.m.hav.length a.ch, .slice a.An r.m.nee.length a.cn, .int .i64 r.m.idx, .int .i64 r.m.ent.s, .int .i64 r.m.ent.q, .int .i64 r.m.ent.c.kind, .int .i64 r.m.ent.c.who, .slice a.c.Ak r.m.ent.c.key.length a.c.ck, .slice a.c.Av r.m.ent.c.val.length a.c.cv, .slice a.c.Ao r.m.ent.c.old.length a.c.co, .bool r.ok]
      obtain ⟨g, hg⟩ : ∃ g, w1.heap.size = g := ⟨_, rfl⟩
      generalize (w1.alloc (.cells #[.int .i64 0, .int .i64 0, .int .i64 0, .int .i64 0, .int .i64 0, .int .i64 0, .bool false, .int .i64 0, .int .i64 0, .int .i64 0, .int .i64 0, .slice none 0 0, .int .i64 0, .int .i64 0, .slice none 0 0, .slice none 0 0, .int .i64 0, .int .i64 0, .int .i64 0, .int .i64 0, .int .i64 0, .slice none 0 0, .slice none 0 0, .slice none 0 0, .bool false] 30)).setRow w1.heap.size #[.int .i64 r.m.kind, .int .i64 r.m.frm, .int .i64 r.m.dst, .int .i64 r.m.view, .int .i64 r.m.inst, .int .i64 r.m.len, .bool r.m.has, .int .i64 r.m.mem, .int .i64 r.m.src, .int .i64 r.m.pos, .int .i64 r.m.tot, .slice a.Ad r.m.data.length a.cd, .int .i64 r.m.hop, .int .i64 r.m.seq, .slice a.Ah r.m.hav.length a.ch, .slice a.An r.m.nee.length a.cn, .int .i64 r.m.idx, .int .i64 r.m.ent.s, .int .i64 r.m.ent.q, .int .i64 r.m.ent.c.kind, .int .i64 r.m.ent.c.who, .slice a.c.Ak r.m.ent.c.key.length a.c.ck, .slice a.c.Av r.m.ent.c.val.length a.c.cv, .slice a.c.Ao r.m.ent.c.old.length a.c.co, .bool r.ok] = w2 at b2 hx2 ⊢
      have HB2 := Lib.hid (HB.out.trans (b2.mono HB.out.size))
      have HRC2 := Lib.hid (HRC.out.below' b2)
      rw [hg] at hx2 ⊢
      have HX := Lib.hid hx2
      clear hg b2 hx2 HRC HB HZ HQ hj hji hj30 e1
      have HY := Lib.hid (show w2.rangeAt g 0 [.int .i64 r.m.kind, .int .i64 r.m.frm, .int .i64 r.m.dst, .int .i64 r.m.view, .int .i64 r.m.inst, .int .i64 r.m.len, .bool r.m.has, .int .i64 r.m.mem, .int .i64 r.m.src, .int .i64 r.m.pos, .int .i64 r.m.tot, .slice a.Ad r.m.data.length a.cd, .int .i64 r.m.hop, .int .i64 r.m.seq, .slice a.Ah r.m.hav.length a.ch, .slice a.An r.m.nee.length a.cn, .int .i64 r.m.idx, .int .i64 r.m.ent.s, .int .i64 r.m.ent.q, .int .i64 r.m.ent.c.kind, .int .i64 r.m.ent.c.who, .slice a.c.Ak r.m.ent.c.key.length a.c.ck, .slice a.c.Av r.m.ent.c.val.length a.c.cv, .slice a.c.Ao r.m.ent.c.old.length a.c.co] from range_blk HX.out (chunk (A := #[.int .i64 r.m.kind, .int .i64 r.m.frm, .int .i64 r.m.dst, .int .i64 r.m.view, .int .i64 r.m.inst, .int .i64 r.m.len, .bool r.m.has, .int .i64 r.m.mem, .int .i64 r.m.src, .int .i64 r.m.pos, .int .i64 r.m.tot, .slice a.Ad r.m.data.length a.cd, .int .i64 r.m.hop, .int .i64 r.m.seq, .slice a.Ah r.m.hav.length a.ch, .slice a.An r.m.nee.length a.cn, .int .i64 r.m.idx, .int .i64 r.m.ent.s, .int .i64 r.m.ent.q, .int .i64 r.m.ent.c.kind, .int .i64 r.m.ent.c.who, .slice a.c.Ak r.m.ent.c.key.length a.c.ck, .slice a.c.Av r.m.ent.c.val.length a.c.cv, .slice a.c.Ao r.m.ent.c.old.length a.c.co]) (k := 24) (by kernel_rfl)))
      obtain ⟨L, hL⟩ : ∃ L, r.m.enc = L := ⟨_, rfl⟩
      have C2 : Hid (Calls Try.prog 7 #[.agg #[.int .i64 r.m.kind, .int .i64 r.m.frm, .int .i64 r.m.dst, .int .i64 r.m.view, .int .i64 r.m.inst, .int .i64 r.m.len, .bool r.m.has, .int .i64 r.m.mem, .int .i64 r.m.src, .int .i64 r.m.pos, .int .i64 r.m.tot, .slice a.Ad r.m.data.length a.cd, .int .i64 r.m.hop, .int .i64 r.m.seq, .slice a.Ah r.m.hav.length a.ch, .slice a.An r.m.nee.length a.cn, .int .i64 r.m.idx, .int .i64 r.m.ent.s, .int .i64 r.m.ent.q, .int .i64 r.m.ent.c.kind, .int .i64 r.m.ent.c.who, .slice a.c.Ak r.m.ent.c.key.length a.c.ck, .slice a.c.Av r.m.ent.c.val.length a.c.cv, .slice a.c.Ao r.m.ent.c.old.length a.c.co]] w2 (GotIn w2 w2 L)) := Lib.hid (encode11.is (a := a) (m := r.m) hL HG.out.w HRC2.out (Below.refl _ _))
      have HL := Lib.hid hL
      clear hL
      go_upto_region 6 with (first
        | (refine wpList_load_mid rfl 29 (.tmp 111) rfl g 0 rfl [.int .i64 r.m.kind, .int .i64 r.m.frm, .int .i64 r.m.dst, .int .i64 r.m.view, .int .i64 r.m.inst, .int .i64 r.m.len, .bool r.m.has, .int .i64 r.m.mem, .int .i64 r.m.src, .int .i64 r.m.pos, .int .i64 r.m.tot, .slice a.Ad r.m.data.length a.cd, .int .i64 r.m.hop, .int .i64 r.m.seq, .slice a.Ah r.m.hav.length a.ch, .slice a.An r.m.nee.length a.cn, .int .i64 r.m.idx, .int .i64 r.m.ent.s, .int .i64 r.m.ent.q, .int .i64 r.m.ent.c.kind, .int .i64 r.m.ent.c.who, .slice a.c.Ak r.m.ent.c.key.length a.c.ck, .slice a.c.Av r.m.ent.c.val.length a.c.cv, .slice a.c.Ao r.m.ent.c.old.length a.c.co] _ HY.out rfl rfl rfl ?_)
        | (go_at_call 7; refine C2.out.mono ?_; rintro e w3 ⟨A3, c3, rfl, ho3, hB3, hb3⟩
           have HO3 := Lib.hid ho3
           have HX := Lib.hid (HX.out.below hb3)
           have HB3 := Lib.hid (HB2.out.trans (hb3.mono HB2.out.size))
           clear ho3 hB3 hb3 C2)
        | fail)
      clear HY
      cases hro : r.ok with
      | true =>
        have hok : r.m.ok = true := HG.out.ok.trans hro
        have HDEC : Hid (Mg.dec L = some r.m.bare) := Lib.hid (by rw [← HL.out]; exact Mg.dec_enc hok)
        have HLEN : Hid (L.length ≤ 1000) := Lib.hid (by rw [← HL.out]; exact Mg.enc_len hok)
        have HLT : Hid (∀ x ∈ L, x < 256) := Lib.hid (by rw [← HL.out]; exact Mg.enc_lt hok HG.out.w)
        have hpos : (0 : Int) < (L.length : Int) := by
          have : L ≠ [] := by
            intro h0
            have h1 := HDEC.out
            rw [h0] at h1
            have h2 : Mg.dec [] = none := by decide +kernel
            rw [h2] at h1; cases h1
          have := List.length_pos_iff.2 this
          omega
        clear hok
        have C3 : Hid (Calls Try.prog 8 #[.slice A3 L.length c3] w3 (GotG w3 w3 (some r.m.bare))) := Lib.hid (decode11.is HDEC.out (by have := HLEN.out; omega) HLT.out (Rd.own_ HO3.out) (Below.refl _ _))
        obtain ⟨MB, hMB⟩ : ∃ x, ((some r.m.bare)).getD Mg.zero = x := ⟨_, rfl⟩
        have HMB := Lib.hid hMB
        clear hMB
        go_upto_region 7 with (first
          | (go_at_call 8; refine C3.out.mono ?_; rintro e w4 ⟨az, he, ho4, hB4, hb4⟩
             have he2 : e = .returned (.tuple #[.agg #[.int .i64 MB.kind, .int .i64 MB.frm, .int .i64 MB.dst, .int .i64 MB.view, .int .i64 MB.inst, .int .i64 MB.len, .bool MB.has, .int .i64 MB.mem, .int .i64 MB.src, .int .i64 MB.pos, .int .i64 MB.tot, .slice az.Ad MB.data.length az.cd, .int .i64 MB.hop, .int .i64 MB.seq, .slice az.Ah MB.hav.length az.ch, .slice az.An MB.nee.length az.cn, .int .i64 MB.idx, .int .i64 MB.ent.s, .int .i64 MB.ent.q, .int .i64 MB.ent.c.kind, .int .i64 MB.ent.c.who, .slice az.c.Ak MB.ent.c.key.length az.c.ck, .slice az.c.Av MB.ent.c.val.length az.c.cv, .slice az.c.Ao MB.ent.c.old.length az.c.co], .bool true]) := by rw [he, HMB.out]; rfl
             clear he
             subst he2
             have HX := Lib.hid (HX.out.below hb4)
             have HB4 := Lib.hid hb4
             have Z9 := Lib.hid (Blk.new w4 29 #[.int .i64 0, .int .i64 0, .int .i64 0, .int .i64 0, .int .i64 0, .int .i64 0, .bool false, .int .i64 0, .int .i64 0, .int .i64 0, .int .i64 0, .slice none 0 0, .int .i64 0, .int .i64 0, .slice none 0 0, .slice none 0 0, .int .i64 0, .int .i64 0, .int .i64 0, .int .i64 0, .int .i64 0, .slice none 0 0, .slice none 0 0, .slice none 0 0])
             clear ho4 hB4 hb4 C3)
          | (refine wpList_store_row rfl 29 (.tmp 9) (.tmp 117) rfl w4.heap.size #[.int .i64 MB.kind, .int .i64 MB.frm, .int .i64 MB.dst, .int .i64 MB.view, .int .i64 MB.inst, .int .i64 MB.len, .bool MB.has, .int .i64 MB.mem, .int .i64 MB.src, .int .i64 MB.pos, .int .i64 MB.tot, .slice az.Ad MB.data.length az.cd, .int .i64 MB.hop, .int .i64 MB.seq, .slice az.Ah MB.hav.length az.ch, .slice az.An MB.nee.length az.cn, .int .i64 MB.idx, .int .i64 MB.ent.s, .int .i64 MB.ent.q, .int .i64 MB.ent.c.kind, .int .i64 MB.ent.c.who, .slice az.c.Ak MB.ent.c.key.length az.c.ck, .slice az.c.Av MB.ent.c.val.length az.c.cv, .slice az.c.Ao MB.ent.c.old.length az.c.co] rfl rfl 29 #[.int .i64 0, .int .i64 0, .int .i64 0, .int .i64 0, .int .i64 0, .int .i64 0, .bool false, .int .i64 0, .int .i64 0, .int .i64 0, .int .i64 0, .slice none 0 0, .int .i64 0, .int .i64 0, .slice none 0 0, .slice none 0 0, .int .i64 0, .int .i64 0, .int .i64 0, .int .i64 0, .int .i64 0, .slice none 0 0, .slice none 0 0, .slice none 0 0] Z9.out (by kernel_rfl) rfl (by kernel_rfl) ?_)
          | fail)
        have b45 : Below w4.heap.size w4 ((w4.alloc (.cells #[.int .i64 0, .int .i64 0, .int .i64 0, .int .i64 0, .int .i64 0, .int .i64 0, .bool false, .int .i64 0, .int .i64 0, .int .i64 0, .int .i64 0, .slice none 0 0, .int .i64 0, .int .i64 0, .slice none 0 0, .slice none 0 0, .int .i64 0, .int .i64 0, .int .i64 0, .int .i64 0, .int .i64 0, .slice none 0 0, .slice none 0 0, .slice none 0 0] 29)).setRow w4.heap.size #[.int .i64 MB.kind, .int .i64 MB.frm, .int .i64 MB.dst, .int .i64 MB.view, .int .i64 MB.inst, .int .i64 MB.len, .bool MB.has, .int .i64 MB.mem, .int .i64 MB.src, .int .i64 MB.pos, .int .i64 MB.tot, .slice az.Ad MB.data.length az.cd, .int .i64 MB.hop, .int .i64 MB.seq, .slice az.Ah MB.hav.length az.ch, .slice az.An MB.nee.length az.cn, .int .i64 MB.idx, .int .i64 MB.ent.s, .int .i64 MB.ent.q, .int .i64 MB.ent.c.kind, .int .i64 MB.ent.c.who, .slice az.c.Ak MB.ent.c.key.length az.c.ck, .slice az.c.Av MB.ent.c.val.length az.c.cv, .slice az.c.Ao MB.ent.c.old.length az.c.co]) := below_setRow ((Below.refl _ _).alloc (Nat.le_refl _) _) (Nat.le_refl _) _
        generalize (w4.alloc (.cells #[.int .i64 0, .int .i64 0, .int .i64 0, .int .i64 0, .int .i64 0, .int .i64 0, .bool false, .int .i64 0, .int .i64 0, .int .i64 0, .int .i64 0, .slice none 0 0, .int .i64 0, .int .i64 0, .slice none 0 0, .slice none 0 0, .int .i64 0, .int .i64 0, .int .i64 0, .int .i64 0, .int .i64 0, .slice none 0 0, .slice none 0 0, .slice none 0 0] 29)).setRow w4.heap.size #[.int .i64 MB.kind, .int .i64 MB.frm, .int .i64 MB.dst, .int .i64 MB.view, .int .i64 MB.inst, .int .i64 MB.len, .bool MB.has, .int .i64 MB.mem, .int .i64 MB.src, .int .i64 MB.pos, .int .i64 MB.tot, .slice az.Ad MB.data.length az.cd, .int .i64 MB.hop, .int .i64 MB.seq, .slice az.Ah MB.hav.length az.ch, .slice az.An MB.nee.length az.cn, .int .i64 MB.idx, .int .i64 MB.ent.s, .int .i64 MB.ent.q, .int .i64 MB.ent.c.kind, .int .i64 MB.ent.c.who, .slice az.c.Ak MB.ent.c.key.length az.c.ck, .slice az.c.Av MB.ent.c.val.length az.c.cv, .slice az.c.Ao MB.ent.c.old.length az.c.co] = w5 at b45 ⊢
        have HX := Lib.hid (HX.out.below b45)
        have hb5 : Below w.heap.size w w5 := HB3.out.trans ((HB4.out.trans (b45.mono HB4.out.size)).mono HB3.out.size)
        have HB5 := Lib.hid hb5
        have AW : Hid (∀ wx, Calls Try.prog 9 #[] wx fun e w' => e = .returned (.bool true) ∧ Below wx.heap.size wx w') := Lib.hid (mesgAwake encode11 decode11 (fun w _ _ _ _ _ _ h1 h2 h3 h4 => same11 w h1 h2 h3 h4))
        have y24 : w5.cell? ⟨g, 24, none⟩ = some (.bool r.ok) := HX.out.cell 24
        rw [hro] at y24
        clear b45 hb5
        go_wp2_with (first
          | (go_at_call 9; refine (AW.out _).mono ?_; rintro e w6 ⟨rfl, hb6⟩)
          | fail)
        go_ret
        exact ⟨rfl, HB5.out.trans (hb6.mono HB5.out.size)⟩
      | false =>
        have hok : r.m.ok = false := HG.out.ok.trans hro
        have h0 : L = [] := by rw [← HL.out]; unfold Mg.enc; rw [hok]; simp
        subst h0
        clear hok
        have C3 : Hid (Calls Try.prog 8 #[.slice A3 ([] : List Nat).length c3] w3 (GotG w3 w3 (none : Option Mg))) := Lib.hid (decode11.is (by decide +kernel : Mg.dec [] = none) (by simp) (by simp) (Rd.own_ HO3.out) (Below.refl _ _))
        obtain ⟨MB, hMB⟩ : ∃ x, ((none : Option Mg)).getD Mg.zero = x := ⟨_, rfl⟩
        have HMB := Lib.hid hMB
        clear hMB
        go_upto_region 7 with (first
          | (go_at_call 8; refine C3.out.mono ?_; rintro e w4 ⟨az, he, ho4, hB4, hb4⟩
             have he2 : e = .returned (.tuple #[.agg #[.int .i64 MB.kind, .int .i64 MB.frm, .int .i64 MB.dst, .int .i64 MB.view, .int .i64 MB.inst, .int .i64 MB.len, .bool MB.has, .int .i64 MB.mem, .int .i64 MB.src, .int .i64 MB.pos, .int .i64 MB.tot, .slice az.Ad MB.data.length az.cd, .int .i64 MB.hop, .int .i64 MB.seq, .slice az.Ah MB.hav.length az.ch, .slice az.An MB.nee.length az.cn, .int .i64 MB.idx, .int .i64 MB.ent.s, .int .i64 MB.ent.q, .int .i64 MB.ent.c.kind, .int .i64 MB.ent.c.who, .slice az.c.Ak MB.ent.c.key.length az.c.ck, .slice az.c.Av MB.ent.c.val.length az.c.cv, .slice az.c.Ao MB.ent.c.old.length az.c.co], .bool false]) := by rw [he, HMB.out]; rfl
             clear he
             subst he2
             have HX := Lib.hid (HX.out.below hb4)
             have HB4 := Lib.hid hb4
             have Z9 := Lib.hid (Blk.new w4 29 #[.int .i64 0, .int .i64 0, .int .i64 0, .int .i64 0, .int .i64 0, .int .i64 0, .bool false, .int .i64 0, .int .i64 0, .int .i64 0, .int .i64 0, .slice none 0 0, .int .i64 0, .int .i64 0, .slice none 0 0, .slice none 0 0, .int .i64 0, .int .i64 0, .int .i64 0, .int .i64 0, .int .i64 0, .slice none 0 0, .slice none 0 0, .slice none 0 0])
             clear ho4 hB4 hb4 C3)
          | (refine wpList_store_row rfl 29 (.tmp 9) (.tmp 117) rfl w4.heap.size #[.int .i64 MB.kind, .int .i64 MB.frm, .int .i64 MB.dst, .int .i64 MB.view, .int .i64 MB.inst, .int .i64 MB.len, .bool MB.has, .int .i64 MB.mem, .int .i64 MB.src, .int .i64 MB.pos, .int .i64 MB.tot, .slice az.Ad MB.data.length az.cd, .int .i64 MB.hop, .int .i64 MB.seq, .slice az.Ah MB.hav.length az.ch, .slice az.An MB.nee.length az.cn, .int .i64 MB.idx, .int .i64 MB.ent.s, .int .i64 MB.ent.q, .int .i64 MB.ent.c.kind, .int .i64 MB.ent.c.who, .slice az.c.Ak MB.ent.c.key.length az.c.ck, .slice az.c.Av MB.ent.c.val.length az.c.cv, .slice az.c.Ao MB.ent.c.old.length az.c.co] rfl rfl 29 #[.int .i64 0, .int .i64 0, .int .i64 0, .int .i64 0, .int .i64 0, .int .i64 0, .bool false, .int .i64 0, .int .i64 0, .int .i64 0, .int .i64 0, .slice none 0 0, .int .i64 0, .int .i64 0, .slice none 0 0, .slice none 0 0, .int .i64 0, .int .i64 0, .int .i64 0, .int .i64 0, .int .i64 0, .slice none 0 0, .slice none 0 0, .slice none 0 0] Z9.out (by kernel_rfl) rfl (by kernel_rfl) ?_)
          | fail)
        have b45 : Below w4.heap.size w4 ((w4.alloc (.cells #[.int .i64 0, .int .i64 0, .int .i64 0, .int .i64 0, .int .i64 0, .int .i64 0, .bool false, .int .i64 0, .int .i64 0, .int .i64 0, .int .i64 0, .slice none 0 0, .int .i64 0, .int .i64 0, .slice none 0 0, .slice none 0 0, .int .i64 0, .int .i64 0, .int .i64 0, .int .i64 0, .int .i64 0, .slice none 0 0, .slice none 0 0, .slice none 0 0] 29)).setRow w4.heap.size #[.int .i64 MB.kind, .int .i64 MB.frm, .int .i64 MB.dst, .int .i64 MB.view, .int .i64 MB.inst, .int .i64 MB.len, .bool MB.has, .int .i64 MB.mem, .int .i64 MB.src, .int .i64 MB.pos, .int .i64 MB.tot, .slice az.Ad MB.data.length az.cd, .int .i64 MB.hop, .int .i64 MB.seq, .slice az.Ah MB.hav.length az.ch, .slice az.An MB.nee.length az.cn, .int .i64 MB.idx, .int .i64 MB.ent.s, .int .i64 MB.ent.q, .int .i64 MB.ent.c.kind, .int .i64 MB.ent.c.who, .slice az.c.Ak MB.ent.c.key.length az.c.ck, .slice az.c.Av MB.ent.c.val.length az.c.cv, .slice az.c.Ao MB.ent.c.old.length az.c.co]) := below_setRow ((Below.refl _ _).alloc (Nat.le_refl _) _) (Nat.le_refl _) _
        generalize (w4.alloc (.cells #[.int .i64 0, .int .i64 0, .int .i64 0, .int .i64 0, .int .i64 0, .int .i64 0, .bool false, .int .i64 0, .int .i64 0, .int .i64 0, .int .i64 0, .slice none 0 0, .int .i64 0, .int .i64 0, .slice none 0 0, .slice none 0 0, .int .i64 0, .int .i64 0, .int .i64 0, .int .i64 0, .int .i64 0, .slice none 0 0, .slice none 0 0, .slice none 0 0] 29)).setRow w4.heap.size #[.int .i64 MB.kind, .int .i64 MB.frm, .int .i64 MB.dst, .int .i64 MB.view, .int .i64 MB.inst, .int .i64 MB.len, .bool MB.has, .int .i64 MB.mem, .int .i64 MB.src, .int .i64 MB.pos, .int .i64 MB.tot, .slice az.Ad MB.data.length az.cd, .int .i64 MB.hop, .int .i64 MB.seq, .slice az.Ah MB.hav.length az.ch, .slice az.An MB.nee.length az.cn, .int .i64 MB.idx, .int .i64 MB.ent.s, .int .i64 MB.ent.q, .int .i64 MB.ent.c.kind, .int .i64 MB.ent.c.who, .slice az.c.Ak MB.ent.c.key.length az.c.ck, .slice az.c.Av MB.ent.c.val.length az.c.cv, .slice az.c.Ao MB.ent.c.old.length az.c.co] = w5 at b45 ⊢
        have HX := Lib.hid (HX.out.below b45)
        have hb5 : Below w.heap.size w w5 := HB3.out.trans ((HB4.out.trans (b45.mono HB4.out.size)).mono HB3.out.size)
        have HB5 := Lib.hid hb5
        have AW : Hid (∀ wx, Calls Try.prog 9 #[] wx fun e w' => e = .returned (.bool true) ∧ Below wx.heap.size wx w') := Lib.hid (mesgAwake encode11 decode11 (fun w _ _ _ _ _ _ h1 h2 h3 h4 => same11 w h1 h2 h3 h4))
        have y24 : w5.cell? ⟨g, 24, none⟩ = some (.bool r.ok) := HX.out.cell 24
        rw [hro] at y24
        clear b45 hb5
        go_wp2_with (first
          | (go_at_call 9; refine (AW.out _).mono ?_; rintro e w6 ⟨rfl, hb6⟩)
          | fail)
        go_ret
        exact ⟨rfl, HB5.out.trans (hb6.mono HB5.out.size)⟩
theorem mesgBounds_walk (a0 : Int) (w : World) (w0 : (Lit.int .i64 a0).wf = true) : Calls Try.prog 3 #[.int .i64 a0] w fun e w' => e = .returned (.bool true) ∧ Below w.heap.size w w' := mesgBounds_raw a0 w
end Go.Proofs.Ytijcbbommaeejaa

