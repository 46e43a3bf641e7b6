/- BitsKit ConstKit MapsC0 -/
import Derived.Test.YtlgpglhbbkikpaaGreatT01
import Derived.Test.YtlgpglhbbkikpaaGreatT05
import Derived.IntWalk
import Derived.Laws.BitsAllLaws
import Derived.Laws.DeepStrings4
namespace Go.Proofs.YtlgpglhbbkikpaaGreat
theorem and_mask (n : Int) (j : Nat) (hj : j < 62) : bits .and .i64 n ((2 ^ j - 1 : Nat) : Int) = n % ((2 ^ j : Nat) : Int) := by
 have hp : 2 ^ j < 2 ^ 62 := Nat.pow_lt_pow_right (by omega) hj
 have hp0 : 0 < 2 ^ j := Nat.two_pow_pos j
 show IntKind.i64.wrap ((BitVec.ofInt 64 n &&& BitVec.ofInt 64 ((2 ^ j - 1 : Nat) : Int)).toNat : Int) = _
 have h1 : (BitVec.ofInt 64 ((2 ^ j - 1 : Nat) : Int)).toNat = 2 ^ j - 1 := by
  rw [BitVec.toNat_ofInt]
  have : (((2 ^ j - 1 : Nat) : Int) % ((2 ^ 64 : Nat) : Int)) = ((2 ^ j - 1 : Nat) : Int) := Int.emod_eq_of_lt (by omega) (by omega)
  rw [this]; simp
 have e : (BitVec.ofInt 64 n &&& BitVec.ofInt 64 ((2 ^ j - 1 : Nat) : Int)).toNat = (n % ((2 ^ j : Nat) : Int)).toNat := by
  rw [BitVec.toNat_and, h1, Nat.and_two_pow_sub_one_eq_mod, BitVec.toNat_ofInt]
  have hd : ((2 ^ j : Nat) : Int) ∣ ((2 ^ 64 : Nat) : Int) := by
   refine ⟨((2 ^ (64 - j) : Nat) : Int), ?_⟩
   rw [<- Int.natCast_mul, <- Nat.pow_add, show j + (64 - j) = 64 by omega]
  have h2 := Int.emod_emod_of_dvd n hd
  have h3 := Int.emod_nonneg n (show ((2 ^ 64 : Nat) : Int) ≠ 0 by omega)
  have h4 := Int.emod_nonneg n (show ((2 ^ j : Nat) : Int) ≠ 0 by omega)
  have h5 : (((n % ((2 ^ 64 : Nat) : Int)).toNat % 2 ^ j : Nat) : Int) = n % ((2 ^ j : Nat) : Int) := by
   rw [Int.natCast_emod, Int.toNat_of_nonneg h3, h2]
  omega
 rw [e, IntKind.wrap_i64]
 have h4 := Int.emod_nonneg n (show ((2 ^ j : Nat) : Int) ≠ 0 by omega)
 have h5 := Int.emod_lt_of_pos n (show 0 < ((2 ^ j : Nat) : Int) by omega)
 omega
theorem and_3 (n : Int) : bits .and .i64 n 3 = n % 4 := by simpa using and_mask n 2 (by omega)
theorem and_7 (n : Int) : bits .and .i64 n 7 = n % 8 := by simpa using and_mask n 3 (by omega)
theorem and_15 (n : Int) : bits .and .i64 n 15 = n % 16 := by simpa using and_mask n 4 (by omega)
theorem and_31 (n : Int) : bits .and .i64 n 31 = n % 32 := by simpa using and_mask n 5 (by omega)
theorem and_ffff (n : Int) : bits .and .i64 n 65535 = n % 65536 := by simpa using and_mask n 16 (by omega)
open Go.RowKit
set_option linter.unusedVariables false
theorem const1 (w : World) (C : Array Value) (n c : Nat) : (convert 24 24 (.slice (some ⟨w.heap.size, 0, none⟩) n c)).run Tryz.prog (w.alloc (.cells C 5)) = .ok (.slice (some ⟨w.heap.size, 0, none⟩) n c) (w.alloc (.cells C 5 (C.size, C.size + 1))) :=
 Lib.run_convert_bytes_const (P := Tryz.prog) w 24 5 C n c Tryz.underlying24 Tryz.underlying5
def PutC7 : Prop := ∀ {W w : World} {ps : List Pr} {k v : List Nat} {A A' A'' : Option Addr} {n c n' c' n'' c'' B B' B'' : Nat}, n <= c -> Mp.Inv ps -> (∀ x ∈ k, x < 256) -> (∀ x ∈ v, x < 256) -> n' <= 100000 -> n'' <= 100000 →
 RdP w B A n ps -> Rd w B' A' n' (bv k) -> Rd w B'' A'' n'' (bv v) -> Below W.heap.size W w →
 Calls Tryz.prog 88 #[.slice A n c, .slice A' n' c', .slice A'' n'' c''] w (GotPR W w (Mp.putS ps k v) (Mp.putE ps k v) (Mp.putV ps k v) (Mp.putN ps k v))
def GetC7 : Prop := ∀ {W w : World} {ps : List Pr} {k : List Nat} {A A' : Option Addr} {n c n' c' B B' : Nat}, n <= c -> Mp.Inv ps -> (∀ x ∈ k, x < 256) -> n' <= 100000 →
 RdP w B A n ps -> Rd w B' A' n' (bv k) -> Below W.heap.size W w →
 Calls Tryz.prog 89 #[.slice A n c, .slice A' n' c'] w (GotR W w (Mp.getE ps k) (Mp.getV ps k) 0)
def DelC7 : Prop := ∀ {W w : World} {ps : List Pr} {k : List Nat} {A A' : Option Addr} {n c n' c' B B' : Nat}, n <= c -> Mp.Inv ps -> (∀ x ∈ k, x < 256) -> n' <= 100000 →
 RdP w B A n ps -> Rd w B' A' n' (bv k) -> Below W.heap.size W w →
 Calls Tryz.prog 90 #[.slice A n c, .slice A' n' c'] w (GotPR W w (Mp.delS ps k) (Mp.getE ps k) (Mp.getV ps k) 0)
theorem inv_lim {ps : List Pr} (h : Mp.Inv ps) : LimP ps := fun p hp => by
 have := h.len p hp
 unfold Lim
 exact ⟨by omega, by omega⟩
theorem sb_len (s : ByteArray) : (sb s).length = s.size := by unfold sb; rw [List.length_map, Array.length_toList]; rfl
end Go.Proofs.YtlgpglhbbkikpaaGreat
