/- What the code of a lock owes (three contracts), and 'awake' over them. -/
import Derived.Test.YtkmkejmpdjefgaaLockRef
import Derived.Test.YtkmkejmpdjefgaaSameInts
import Derived.Test.YtkmkejmpdjefgaaBitsKit
import Derived.Test.YtkmkejmpdjefgaaConstKit
import Derived.Deep.CutBlock
namespace Go.Proofs.Ytkmkejmpdjefgaa
open Go.RowKit
set_option linter.unusedVariables false
def TakeC : Prop := ∀ {W w : World} {zs : List Int} {A : Option Addr} {n c B : Nat} (x : Int), n ≤ 100000 → n ≤ c → Rd w B A n (iv zs) → Below W.heap.size W w →
    Calls Try.prog 9 #[.slice A n c, .int .i64 x] w (GotIR W w (takeS zs x) (takeE zs x) (takeN zs x))
def FreeC : Prop := ∀ {W w : World} {zs : List Int} {A : Option Addr} {n c B : Nat} (x : Int), n ≤ 100000 → n ≤ c → zs.Nodup → Rd w B A n (iv zs) → Below W.heap.size W w →
    Calls Try.prog 8 #[.slice A n c, .int .i64 x] w (GotIR W w (zs.erase x) (freeE zs x) (freeN zs x))
def OwnerC : Prop := ∀ {W w : World} {zs : List Int} {A : Option Addr} {n c B : Nat}, n ≤ 100000 → n ≤ c → Rd w B A n (iv zs) → Below W.heap.size W w →
    Calls Try.prog 12 #[.slice A n c] w (GotR W w (ownerE zs) [] (ownerN zs))
def AwakeC6 : Prop := ∀ w : World, Calls Try.prog 11 #[] w fun e w' => e = .returned (.bool true) ∧ Below w.heap.size w w'
theorem refOwner_got {W w : World} {zs : List Int} {A : Option Addr} {n c B : Nat} (hr : Rd w B A n (iv zs)) (hB : Below W.heap.size W w) :
    Calls Try.prog 16 #[.slice A n c] w (GotR W w (ownerE zs) [] (ownerN zs)) :=
  (refOwner_any w hr).mono fun e w' h => ⟨none, 0, h.1, own_nil _ _, hB.trans (h.2.mono hB.size), h.2⟩
theorem belowN {B : Nat} {a w : World} (h : Below B a w) (k : Nat) : Below B a (w.drewN k) := h.trans ⟨rfl, rfl, rfl, Nat.le_refl _, fun _ _ => rfl⟩
theorem sameI_is (w : World) {A A' : Option Addr} {n c n' c' B B' : Nat} {zs : List Int} (h : Rd w B A n (iv zs)) (h' : Rd w B' A' n' (iv zs)) (hn : n ≤ maxLen) :
    Calls Try.prog 10 #[.slice A n c, .slice A' n' c'] w fun e w' => e = .returned (.bool true) ∧ Below w.heap.size w w' := by
  have h1 : zs.length = n := by have := h.1; rwa [iv_length] at this
  have h2 : zs.length = n' := by have := h'.1; rwa [iv_length] at this
  refine (same_any w A A' n c n' c' B B' zs zs h h' hn (by omega)).mono ?_
  rintro e w' ⟨rfl, k, rfl⟩
  exact ⟨by simp, belowN (Below.refl _ _) k⟩
theorem ownI_cap {W w : World} {A : Option Addr} {n c : Nat} {l : List Int} (h : OwnI W w A n c l) : n ≤ c := (own_cap h).1
set_option maxHeartbeats 2000000 in
set_option maxRecDepth 100000 in
theorem lockAwake (hT : TakeC) (hF : FreeC) (hO : OwnerC) : AwakeC6 := by
  intro w
  have hB0 := Below.refl w.heap.size w
  go_enter Try.func11, Try.ntmps11
  go_wp2_with fail
  refine (hT (W := w) (zs := []) (A := none) (n := 0) (c := 0) 7 (by omega) (by omega) (Rd.none_ _ 0 _) hB0).mono ?_
  rw [show takeS [] 7 = [7] by decide, show takeE [] 7 = 0 by decide, show takeN [] 7 = 0 by decide]
  rintro e w1 ⟨A1, c1, A2, c2, rfl, hq1, hv1, hB1, hb1⟩
  unfold resV
  have b1 : Below w1.heap.size w1 (w1.alloc (.cells #[.int .i64 0, .slice A2 0 c2, .int .i64 0] 28)) := (Below.refl _ _).alloc (Nat.le_refl _) _
  go_wp2_with fail
  refine (hT (W := w) (zs := [7]) (A := A1) (n := 1) (c := c1) 3 (by omega) (ownI_cap hq1) ((Rd.own_ hq1).below b1) (hB1.alloc hB1.size _)).mono ?_
  rw [show takeS [7] 3 = [7, 3] by decide, show takeE [7] 3 = 0 by decide, show takeN [7] 3 = 1 by decide]
  rintro e w2 ⟨A3, c3, A4, c4, rfl, hq2, hv2, hB2, hb2⟩
  unfold resV
  have b2 : Below w2.heap.size w2 (w2.alloc (.cells #[.int .i64 0, .slice A4 0 c4, .int .i64 1] 28)) := (Below.refl _ _).alloc (Nat.le_refl _) _
  have hV1 := Lib.hid ((Blk.new w1 28 #[.int .i64 0, .slice A2 0 c2, .int .i64 0]).below hb2)
  clear hq1 hv1 hb1 hb2 b1
  go_wp2_with fail
  refine (hT (W := w) (zs := [7, 3]) (A := A3) (n := 2) (c := c3) 7 (by omega) (ownI_cap hq2) ((Rd.own_ hq2).below b2) (hB2.alloc hB2.size _)).mono ?_
  rw [show takeS [7, 3] 7 = [7, 3] by decide, show takeE [7, 3] 7 = 6 by decide, show takeN [7, 3] 7 = 0 by decide]
  rintro e w3 ⟨A5, c5, A6, c6, rfl, hq3, hv3, hB3, hb3⟩
  unfold resV
  have b3 : Below w3.heap.size w3 (w3.alloc (.cells #[.int .i64 6, .slice A6 0 c6, .int .i64 0] 28)) := (Below.refl _ _).alloc (Nat.le_refl _) _
  have hV12 := Lib.hid ((hV1.out.alloc (.cells #[.int .i64 0, .slice A4 0 c4, .int .i64 1] 28)).below hb3)
  have hV2 := Lib.hid ((Blk.new w2 28 #[.int .i64 0, .slice A4 0 c4, .int .i64 1]).below hb3)
  have hq2' := Lib.hid ((Rd.own_ hq2).below (b2.trans (hb3.mono b2.size)))
  have hcap2 := ownI_cap hq2
  clear hq2 hv2 hq3 hv3 hb3 b2 hV1
  go_wp2_with fail
  refine (hF (W := w) (zs := [7, 3]) (A := A3) (n := 2) (c := c3) 7 (by omega) hcap2 (by decide) (hq2'.out.fit.below b3) (hB3.alloc hB3.size _)).mono ?_
  rw [show List.erase [7, 3] (7 : Int) = [3] by decide, show freeE [7, 3] 7 = 0 by decide, show freeN [7, 3] 7 = 3 by decide]
  rintro e w4 ⟨A7, c7, A8, c8, rfl, hq4, hv4, hB4, hb4⟩
  unfold resV
  have b4 : Below w4.heap.size w4 (w4.alloc (.cells #[.int .i64 0, .slice A8 0 c8, .int .i64 3] 28)) := (Below.refl _ _).alloc (Nat.le_refl _) _
  have hV13 := Lib.hid (((hV12.out.alloc (.cells #[.int .i64 6, .slice A6 0 c6, .int .i64 0] 28)).below hb4).below b4)
  have hV22 := Lib.hid (((hV2.out.alloc (.cells #[.int .i64 6, .slice A6 0 c6, .int .i64 0] 28)).below hb4).below b4)
  have hV3 := Lib.hid (((Blk.new w3 28 #[.int .i64 6, .slice A6 0 c6, .int .i64 0]).below hb4).below b4)
  obtain ⟨x0, x1, x2, _, _, _⟩ := three hV13.out
  obtain ⟨y0, y1, y2, _, _, _⟩ := three hV22.out
  obtain ⟨z0, z1, z2, _, _, _⟩ := three hV3.out
  have hq5 := Lib.hid ((Rd.own_ hq4).below b4)
  have hcap4 := ownI_cap hq4
  have hB5 := hB4.alloc hB4.size (.cells #[.int .i64 0, .slice A8 0 c8, .int .i64 3] 28)
  clear hq4 hv4 hb4 hq2' hV12 hV2
  go_wp2_with fail
  have b5 : Below w4.heap.size (w4.alloc (.cells #[.int .i64 0, .slice A8 0 c8, .int .i64 3] 28)) ((w4.alloc (.cells #[.int .i64 0, .slice A8 0 c8, .int .i64 3] 28)).alloc (.cells #[.int .i64 3] 3)) := (Below.refl _ _).alloc (by simp) _
  refine (sameI_is _ (c := c7) (c' := 1) (zs := [3]) (hq5.out.below b5) (Rd.made1 w4 _ #[.int .i64 3] 3 (0, 0) 1 rfl) (by show 1 ≤ maxLen; unfold maxLen; omega)).mono ?_
  rintro e w5 ⟨rfl, hb5⟩
  have b6 := b5.trans (hb5.mono (show w4.heap.size ≤ _ by simp; omega))
  have hB6 := hB5.trans (b6.mono hB4.size)
  clear x0 x1 x2 y0 y1 y2 z0 z1 z2
  have kf : ∀ (e N : Int) (A : Option Addr) (n c : Nat) (w : World), (Instr.field 28 (.agg #[.int .i64 e, .slice A n c, .int .i64 N]) 2).run Try.prog w = .ok (.int .i64 N) w := fun _ _ _ _ _ _ => rfl
  have kf0 : ∀ (e N : Int) (A : Option Addr) (n c : Nat) (w : World), (Instr.field 28 (.agg #[.int .i64 e, .slice A n c, .int .i64 N]) 0).run Try.prog w = .ok (.int .i64 e) w := fun _ _ _ _ _ _ => rfl
  go_wp2_with fail
  refine (hO (W := w) (zs := [3]) (A := A7) (n := 1) (c := c7) (by omega) hcap4 (hq5.out.below b6) hB6).mono ?_
  rw [show ownerE [3] = 0 by decide, show ownerN [3] = 3 by decide]
  rintro e w6 ⟨A9, c9, rfl, hv9, hB7, hb7⟩
  unfold resV
  clear hv9
  go_wp2_with fail
  refine (hO (W := w) (zs := []) (A := none) (n := 0) (c := 0) (by omega) (by omega) (Rd.none_ _ 0 _) hB7).mono ?_
  rw [show ownerE [] = 5 by decide, show ownerN [] = 0 by decide]
  rintro e w8 ⟨A10, c10, rfl, hv10, hB8, hb8⟩
  unfold resV
  clear hv10
  go_wp2_with fail
  go_ret
  exact ⟨rfl, hB8⟩
end Go.Proofs.Ytkmkejmpdjefgaa
