/- FramSum CompareKit -/
import Derived.Test.YtmekamgohonffaaBF01
import Derived.Test.YtmekamgohonffaaBF02
import Derived.Test.YtmekamgohonffaaBF06
import Derived.Test.YtmekamgohonffaaBF13
import Derived.Test.YtmekamgohonffaaBF20
import Derived.Laws.OwnMore
import Derived.Laws.Externs
import Derived.Lib.BytesEntry
namespace Go.Proofs.Ytmekamgohonffaa
open Go.RowKit
set_option linter.unusedVariables false
theorem frsum_any {W w : World} {A : Option Addr} {n c B : Nat} {l : List Nat} (hl : ∀ x ∈ l, x < 256) (hn : n ≤ maxLen) (h : Rd w B A n (bv l)) (hB : Below W.heap.size W w) : Calls Try.prog 34 #[.slice A n c] w (GotIn W w (Fr.four (Crc.sum l))) := by
  have C := Lib.hid (sum_any l hl A n c B hn w h)
  have HB := Lib.hid hB
  obtain ⟨s, hs⟩ : ∃ s, Crc.sum l = s := ⟨_, rfl⟩
  rw [hs] at C ⊢
  clear hl hn h hB hs
  go_enter Try.func34, Try.ntmps34
  go_wp2_with (go_at_call 56; refine C.out.mono ?_; rintro e w' ⟨rfl, rfl⟩)
  go_ret
  have e : (#[.int .u8 ((s : Int) % 256), .int .u8 ((s : Int) / 256 % 256), .int .u8 ((s : Int) / 65536 % 256), .int .u8 ((s : Int) / 16777216 % 256)] : Array Value) = #[.int .u8 ((s % 256 : Nat) : Int), .int .u8 ((s / 256 % 256 : Nat) : Int), .int .u8 ((s / 65536 % 256 : Nat) : Int), .int .u8 ((s / 16777216 % 256 : Nat) : Int)] := rfl
  exact ⟨some ⟨w.heap.size, 0, none⟩, 4, rfl, World.ownsRow_lit w _ 4 HB.out.size (by decide) rfl, HB.out.alloc HB.out.size _, (Below.refl _ _).alloc (Nat.le_refl _) _⟩
end Go.Proofs.Ytmekamgohonffaa

namespace Go.Proofs.Ytmekamgohonffaa
open Go.RowKit
set_option linter.unusedVariables false
theorem run_bytesOf_rd {P : Program} {w : World} {B n c : Nat} {A : Option Addr} {l : List Nat} (h : Rd w B A n (bv l)) : (Extern.Bytes.bytesOf (.slice A n c)).run P w = .ok ⟨(l.map UInt8.ofNat).toArray⟩ w := by
  have hl := h.length
  rcases Nat.eq_zero_or_pos n with h0 | h0
  · subst h0
    have : l = [] := List.eq_nil_of_length_eq_zero hl
    subst this
    cases A with
    | none => rfl
    | some a => rfl
  · obtain ⟨b, o, rfl, _, hc⟩ := h.2 h0
    have hld := Lib.run_loadBytesX (P := P) w (l.map fun (x : Nat) => (x : Int)) ⟨b, o, none⟩ .empty (fun j x hj => by
      have hjl : j < l.length := by
        have := (List.getElem?_eq_some_iff.1 hj).1; simpa using this
      have e : (⟨b, o, none⟩ : Addr).add j = ⟨b, o + j, none⟩ := by unfold Addr.add; split <;> simp_all
      rw [e, hc j (by omega), bv_get hjl]
      rw [List.getElem?_map, List.getElem?_eq_getElem hjl] at hj
      injection hj with hj
      rw [← hj])
    rw [List.length_map, hl] at hld
    have e2 : Lib.bytesOf (l.map fun (x : Nat) => (x : Int)) = l.map UInt8.ofNat := by
      unfold Lib.bytesOf; rw [List.map_map]; apply List.map_congr_left; intro x _; simp
    rw [e2] at hld
    have he : (⟨ByteArray.empty.data ++ (l.map UInt8.ofNat).toArray⟩ : ByteArray) = ⟨(l.map UInt8.ofNat).toArray⟩ := by
      apply ByteArray.ext
      show (#[] : Array UInt8) ++ (l.map UInt8.ofNat).toArray = (l.map UInt8.ofNat).toArray
      simp
    rw [he] at hld
    exact hld
/-- bytes compared -/
def cmpB (l m : List Nat) : Int := Lib.compareBytes (l.map UInt8.ofNat) (m.map UInt8.ofNat)
theorem run_compare_rd {P : Program} {w : World} {B n c B' n' c' : Nat} {A A' : Option Addr} {l l' : List Nat} (h : Rd w B A n (bv l)) (h' : Rd w B' A' n' (bv l')) :
    (Extern.BytealgCompare.compare #[.slice A n c, .slice A' n' c']).run P w = .ok (.int .i64 (cmpB l l')) w := by
  change Sem.run P (do pure (goInt (Extern.BytealgCompare.cmp (← Extern.Bytes.bytesOf (.slice A n c)) (← Extern.Bytes.bytesOf (.slice A' n' c'))))) w = _
  simp only [Sem.run_bind, Sem.run_pure, Result.andThen, run_bytesOf_rd h, run_bytesOf_rd h']
  rw [Lib.cmp_eq]
  rfl
set_option maxRecDepth 100000 in
theorem compare_any (w : World) (A A' : Option Addr) (n c n' c' B B' : Nat) (l l' : List Nat) (h : Rd w B A n (bv l)) (h' : Rd w B' A' n' (bv l')) :
    Calls Try.prog 58 #[.slice A n c, .slice A' n' c'] w fun e w' => e = .returned (.int .i64 (cmpB l l')) ∧ w' = w := by
  have hr := run_compare_rd (P := Try.prog) (c := c) (c' := c') h h'
  clear h h'
  go_enter Try.func58, Try.ntmps58
  go_wp2
  rw [run_callFunc_extern Try.func68 (by kernel_rfl) (by kernel_rfl) (by kernel_rfl) (e := Extern.BytealgCompare.compare) (by kernel_rfl), hr]
  simp only [Result.andThen]
  rw [Oper.upon_value]
  go_wp2
  go_ret
  exact ⟨rfl, rfl⟩
end Go.Proofs.Ytmekamgohonffaa

