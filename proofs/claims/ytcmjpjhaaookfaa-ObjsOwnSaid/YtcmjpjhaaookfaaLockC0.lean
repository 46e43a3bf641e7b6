/- What the code of a lock owes (three contracts). -/
import Derived.Test.YtcmjpjhaaookfaaLockRef
import Derived.Test.YtcmjpjhaaookfaaSameInts
namespace Go.Proofs.Ytcmjpjhaaookfaa
open Go.RowKit
set_option linter.unusedVariables false
def TakeC : Prop := ∀ {W w : World} {zs : List Int} {A : Option Addr} {n c B : Nat} (x : Int), n ≤ 100000 → n ≤ c → Rd w B A n (iv zs) → Below W.heap.size W w →
    Calls Try.prog 37 #[.slice A n c, .int .i64 x] w (GotIR W w (takeS zs x) (takeE zs x) (takeN zs x))
def FreeC : Prop := ∀ {W w : World} {zs : List Int} {A : Option Addr} {n c B : Nat} (x : Int), n ≤ 100000 → n ≤ c → zs.Nodup → Rd w B A n (iv zs) → Below W.heap.size W w →
    Calls Try.prog 38 #[.slice A n c, .int .i64 x] w (GotIR W w (zs.erase x) (freeE zs x) (freeN zs x))
def OwnerC : Prop := ∀ {W w : World} {zs : List Int} {A : Option Addr} {n c B : Nat}, n ≤ 100000 → n ≤ c → Rd w B A n (iv zs) → Below W.heap.size W w →
    Calls Try.prog 39 #[.slice A n c] w (GotR W w (ownerE zs) [] (ownerN zs))
theorem refOwner_got {W w : World} {zs : List Int} {A : Option Addr} {n c B : Nat} (hr : Rd w B A n (iv zs)) (hB : Below W.heap.size W w) :
    Calls Try.prog 57 #[.slice A n c] w (GotR W w (ownerE zs) [] (ownerN zs)) :=
  (refOwner_any w hr).mono fun e w' h => ⟨none, 0, h.1, own_nil _ _, hB.trans (h.2.mono hB.size), h.2⟩
theorem belowN {B : Nat} {a w : World} (h : Below B a w) (k : Nat) : Below B a (w.drewN k) := h.trans ⟨rfl, rfl, rfl, Nat.le_refl _, fun _ _ => rfl⟩
theorem sameI_is (w : World) {A A' : Option Addr} {n c n' c' B B' : Nat} {zs : List Int} (h : Rd w B A n (iv zs)) (h' : Rd w B' A' n' (iv zs)) (hn : n ≤ maxLen) :
    Calls Try.prog 61 #[.slice A n c, .slice A' n' c'] w fun e w' => e = .returned (.bool true) ∧ Below w.heap.size w w' := by
  have h1 : zs.length = n := by have := h.1; rwa [iv_length] at this
  have h2 : zs.length = n' := by have := h'.1; rwa [iv_length] at this
  refine (same_any w A A' n c n' c' B B' zs zs h h' hn (by omega)).mono ?_
  rintro e w' ⟨rfl, k, rfl⟩
  exact ⟨by simp, belowN (Below.refl _ _) k⟩
theorem ownI_cap {W w : World} {A : Option Addr} {n c : Nat} {l : List Int} (h : OwnI W w A n c l) : n ≤ c := (own_cap h).1
end Go.Proofs.Ytcmjpjhaaookfaa
