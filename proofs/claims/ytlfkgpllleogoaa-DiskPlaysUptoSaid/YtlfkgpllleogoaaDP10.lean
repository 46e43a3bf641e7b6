/- FramSum -/
import Derived.Test.YtlfkgpllleogoaaDP05
import Derived.Test.YtlfkgpllleogoaaDP06
import Derived.Test.YtlfkgpllleogoaaDP09
import Derived.Laws.OwnMore
namespace Go.Proofs.Ytlfkgpllleogoaa
open Go.RowKit
set_option linter.unusedVariables false
theorem frsum_any {W w : World} {A : Option Addr} {n c B : Nat} {l : List Nat} (hl : ∀ x ∈ l, x < 256) (hn : n ≤ maxLen) (h : Rd w B A n (bv l)) (hB : Below W.heap.size W w) : Calls Try.prog 71 #[.slice A n c] w (GotIn W w (Fr.four (Crc.sum l))) := by
  have C := Lib.hid (sum_any l hl A n c B hn w h)
  have HB := Lib.hid hB
  obtain ⟨s, hs⟩ : ∃ s, Crc.sum l = s := ⟨_, rfl⟩
  rw [hs] at C ⊢
  clear hl hn h hB hs
  go_enter Try.func71, Try.ntmps71
  go_wp2_with (go_at_call 76; refine C.out.mono ?_; rintro e w' ⟨rfl, rfl⟩)
  go_ret
  have e : (#[.int .u8 ((s : Int) % 256), .int .u8 ((s : Int) / 256 % 256), .int .u8 ((s : Int) / 65536 % 256), .int .u8 ((s : Int) / 16777216 % 256)] : Array Value) = #[.int .u8 ((s % 256 : Nat) : Int), .int .u8 ((s / 256 % 256 : Nat) : Int), .int .u8 ((s / 65536 % 256 : Nat) : Int), .int .u8 ((s / 16777216 % 256 : Nat) : Int)] := rfl
  exact ⟨some ⟨w.heap.size, 0, none⟩, 4, rfl, World.ownsRow_lit w _ 4 HB.out.size (by decide) rfl, HB.out.alloc HB.out.size _, (Below.refl _ _).alloc (Nat.le_refl _) _⟩
end Go.Proofs.Ytlfkgpllleogoaa

