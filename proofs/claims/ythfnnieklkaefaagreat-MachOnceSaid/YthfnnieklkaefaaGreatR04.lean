/- MapsC0 -/
import Derived.Test.YthfnnieklkaefaaGreatR01
import Derived.Test.YthfnnieklkaefaaGreatR03
import Derived.Laws.DeepStrings4
namespace Go.Proofs.YthfnnieklkaefaaGreat
open Go.RowKit
set_option linter.unusedVariables false
def PutC7 : Prop := ∀ {W w : World} {ps : List Pr} {k v : List Nat} {A A' A'' : Option Addr} {n c n' c' n'' c'' B B' B'' : Nat}, n ≤ c → Mp.Inv ps → (∀ x ∈ k, x < 256) → (∀ x ∈ v, x < 256) → n' ≤ 100000 → n'' ≤ 100000 →
    RdP w B A n ps → Rd w B' A' n' (bv k) → Rd w B'' A'' n'' (bv v) → Below W.heap.size W w →
    Calls Tryz.prog 96 #[.slice A n c, .slice A' n' c', .slice A'' n'' c''] w (GotPR W w (Mp.putS ps k v) (Mp.putE ps k v) (Mp.putV ps k v) (Mp.putN ps k v))
def GetC7 : Prop := ∀ {W w : World} {ps : List Pr} {k : List Nat} {A A' : Option Addr} {n c n' c' B B' : Nat}, n ≤ c → Mp.Inv ps → (∀ x ∈ k, x < 256) → n' ≤ 100000 →
    RdP w B A n ps → Rd w B' A' n' (bv k) → Below W.heap.size W w →
    Calls Tryz.prog 97 #[.slice A n c, .slice A' n' c'] w (GotR W w (Mp.getE ps k) (Mp.getV ps k) 0)
def DelC7 : Prop := ∀ {W w : World} {ps : List Pr} {k : List Nat} {A A' : Option Addr} {n c n' c' B B' : Nat}, n ≤ c → Mp.Inv ps → (∀ x ∈ k, x < 256) → n' ≤ 100000 →
    RdP w B A n ps → Rd w B' A' n' (bv k) → Below W.heap.size W w →
    Calls Tryz.prog 98 #[.slice A n c, .slice A' n' c'] w (GotPR W w (Mp.delS ps k) (Mp.getE ps k) (Mp.getV ps k) 0)
theorem inv_lim {ps : List Pr} (h : Mp.Inv ps) : LimP ps := fun p hp => by
  have := h.len p hp
  unfold Lim
  exact ⟨by omega, by omega⟩
theorem sb_len (s : ByteArray) : (sb s).length = s.size := by unfold sb; rw [List.length_map, Array.length_toList]; rfl
end Go.Proofs.YthfnnieklkaefaaGreat

