/- MesgRow RefFour -/
import Derived.Test.YtmekamgohonffaaBF02
import Derived.Test.YtmekamgohonffaaBF07
import Derived.Test.YtmekamgohonffaaBF13
import Derived.Test.YtmekamgohonffaaBF14
import Derived.Test.YtmekamgohonffaaBF15
import Derived.Test.YtmekamgohonffaaBF21
import Derived.Test.YtmekamgohonffaaBF23
import Derived.Test.YtmekamgohonffaaBF26
import Derived.Test.YtmekamgohonffaaBF28
import Derived.Test.YtmekamgohonffaaBF29
import Derived.Test.YtmekamgohonffaaBF32
import Derived.Test.YtmekamgohonffaaBF34
import Derived.Test.YtmekamgohonffaaBF36
import Derived.Test.YtmekamgohonffaaBF37
import Derived.BigQuiet
import Derived.Deep.QuietTactic
import Derived.Laws.CopyOwn
import Derived.WalkSmall
import Derived.Deep.CutBlock
import Derived.Deep.DeepCutAuto
import Derived.Deep.RegionHeld
import Derived.Deep.RegionHeld3
import Derived.Laws.DeepStrings4
import Derived.OwnWalk
import Derived.StillTail
import Derived.WalkSpells
namespace Go.Proofs.Ytmekamgohonffaa
open Go.RowKit
set_option linter.unusedVariables false
section
variable {W w wx : World} {b g k : Nat} {t e : TypeId} {old cs c : Array Value}
theorem only_row (w : World) (g : Nat) (cs : Array Value) : Only g w (w.setRow g cs) :=
  ⟨rfl, rfl, rfl, by simp, fun k hk hne => setRow_other w g k cs (by rintro rfl; exact hne rfl)⟩
theorem Blk.row (h : Blk w g t old) (cs : Array Value) : Blk (w.setRow g cs) g t cs := setRow_heap w g old cs t (0, 0) h
end
end Go.Proofs.Ytmekamgohonffaa

namespace Go.Proofs.Ytmekamgohonffaa
open Go.RowKit
set_option linter.unusedVariables false
set_option maxHeartbeats 1000000 in
set_option maxRecDepth 100000 in
theorem refFour {W w : World} {A : Option Addr} {n c B : Nat} {l : List Nat} (hl : ∀ x ∈ l, x < 256) (hn : l.length ≤ 2000000) (h : Rd w B A n (bv l)) (hB : Below W.heap.size W w) : Calls Try.prog 6 #[.slice A n c] w (GotIn W w (Fr.four (Crc.sum l) ++ l)) := by
  have hln := h.length
  have C := Lib.hid (refsum_any l hl A n c B (by unfold maxLen; omega) w h)
  have HB := Lib.hid hB
  have HH := Lib.hid h.fit
  have HN : Hid (n ≤ 2000000) := Lib.hid (by omega)
  obtain ⟨s, hs⟩ : ∃ s, Crc.sum l = s := ⟨_, rfl⟩
  rw [hs] at C ⊢
  have HLL : Hid (4 + n = (Fr.four s ++ l).length) := Lib.hid (by rw [List.length_append, Fr.four_len, hln])
  clear hl hn h hB hs hln
  go_enter Try.func6, Try.ntmps6
  go_upto_region 2 with (first
    | (go_at_call 20; refine C.out.mono ?_; rintro e w' ⟨rfl, rfl⟩)
    | fail)
  have hown : (w.alloc (.cells #[.int .u8 ((s : Int) % 256), .int .u8 ((s : Int) / 256 % 256), .int .u8 ((s : Int) / 65536 % 256), .int .u8 ((s : Int) / 16777216 % 256)] 5)).ownsRow w.heap.size 5 1 (.slice (some ⟨w.heap.size, 0, none⟩) 4 4) 4 (bv (Fr.four s)) := World.ownsRow_lit w _ 4 (Nat.le_refl _) (by decide) rfl
  have hbw : Below w.heap.size w (w.alloc (.cells #[.int .u8 ((s : Int) % 256), .int .u8 ((s : Int) / 256 % 256), .int .u8 ((s : Int) / 65536 % 256), .int .u8 ((s : Int) / 16777216 % 256)] 5)) := (Below.refl _ _).alloc (Nat.le_refl _) _
  have HO := Lib.hid hown
  have HBW := Lib.hid hbw
  have HH := Lib.hid (HH.out.below hbw)
  clear hown hbw
  go_wp2_with (first
    | (at_builtin
       refine wpList_append_bytes (W := w) byteT (.tmp 17) (.tmp 18) rfl (by rfl) rfl HO.out rfl HH.out (by have := HN.out; omega) HBW.out ?_
       intro A3 c3 w3 ho3 hr3 hB3
       have HO3 := Lib.hid ho3
       have HB3 := Lib.hid hB3
       clear ho3 hr3 hB3)
    | fail)
  go_ret
  refine ⟨A3, c3, by rw [← HLL.out]; rfl, ?_, HB.out.trans (HB3.out.mono HB.out.size), HB3.out⟩
  rw [← HLL.out]
  exact own_of HB.out.size HO3.out
end Go.Proofs.Ytmekamgohonffaa

