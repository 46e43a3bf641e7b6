/- EqualKit FramSum -/
import Derived.Test.YtmekamgohonffaaGreatBT00
import Derived.Test.YtmekamgohonffaaGreatBT01
import Derived.Test.YtmekamgohonffaaGreatBT02
import Derived.Test.YtmekamgohonffaaGreatBT19
import Derived.Laws.OwnMore
namespace Go.Proofs.YtmekamgohonffaaGreat
open Go.RowKit
set_option linter.unusedVariables false
theorem equal_any (w : World) (A A' : Option Addr) (n c n' c' B B' : Nat) (l l' : List Nat) (hl : ∀ x ∈ l, x < 256) (hl' : ∀ x ∈ l', x < 256) (h : Rd w B A n (bv l)) (h' : Rd w B' A' n' (bv l')) :
 Calls Tryz.prog 48 #[.slice A n c, .slice A' n' c'] w fun e w' => e = .returned (.bool (decide (l = l'))) /\ w' = w := by
 have k1 := str_of (c := c) h
 have k2 := str_of (c := c') h'
 have k3 := strL_eq hl hl'
 clear h h'
 go_enter Tryz.func48, Tryz.ntmps48
 go_wp2
 go_ret
 exact ⟨by first | exact ret_bool k3 | rfl | (rw [<- k3]; rfl), rfl⟩
theorem frsum_any {W w : World} {A : Option Addr} {n c B : Nat} {l : List Nat} (hl : ∀ x ∈ l, x < 256) (hn : n <= maxLen) (h : Rd w B A n (bv l)) (hB : Below W.heap.size W w) : Calls Tryz.prog 49 #[.slice A n c] w (GotIn W w (Fr.four (Crc.sum l))) := by
 have C := hD (sum_any l hl A n c B hn w h)
 have HB := hD hB
 obtain ⟨s, hs⟩ : ∃ s, Crc.sum l = s := ⟨_, rfl⟩
 rw [hs] at C |-
 clear hl hn h hB hs
 go_enter Tryz.func49, Tryz.ntmps49
 go_wp2_with (go_at_call 89; refine C.out.mono ?_; rintro e w' ⟨rfl, rfl⟩)
 go_ret
 have e : (#[.int .u8 ((s : Int) % 256), .int .u8 ((s : Int) / 256 % 256), .int .u8 ((s : Int) / 65536 % 256), .int .u8 ((s : Int) / 16777216 % 256)] : Array Value) = #[.int .u8 ((s % 256 : Nat) : Int), .int .u8 ((s / 256 % 256 : Nat) : Int), .int .u8 ((s / 65536 % 256 : Nat) : Int), .int .u8 ((s / 16777216 % 256 : Nat) : Int)] := rfl
 exact ⟨some ⟨w.heap.size, 0, none⟩, 4, rfl, World.ownsRow_lit w _ 4 HB.out.size (by decide) rfl, HB.out.alloc HB.out.size _, (Below.refl _ _).alloc lR _⟩
end Go.Proofs.YtmekamgohonffaaGreat
