/- EqualKit CompareKit -/
import Derived.Test.YtaknfmionkkdjaaGreatFO02
import Derived.Test.YtaknfmionkkdjaaGreatFO09
import Derived.Laws.Externs
import Derived.Lib.BytesEntry
namespace Go.Proofs.YtaknfmionkkdjaaGreat
open Go.RowKit
set_option linter.unusedVariables false
/-- two rows of bytes alike -/
theorem equal_any (w : World) (A A' : Option Addr) (n c n' c' B B' : Nat) (l l' : List Nat) (hl : ∀ x ∈ l, x < 256) (hl' : ∀ x ∈ l', x < 256) (h : Rd w B A n (bv l)) (h' : Rd w B' A' n' (bv l')) :
    Calls Tryz.prog 115 #[.slice A n c, .slice A' n' c'] w fun e w' => e = .returned (.bool (decide (l = l'))) ∧ w' = w := by
  have k1 := str_of (c := c) h
  have k2 := str_of (c := c') h'
  have k3 := strL_eq hl hl'
  clear h h'
  go_enter Tryz.func115, Tryz.ntmps115
  go_wp2
  go_ret
  exact ⟨by first | exact ret_bool k3 | rfl | (rw [← k3]; rfl), rfl⟩
end Go.Proofs.YtaknfmionkkdjaaGreat

namespace Go.Proofs.YtaknfmionkkdjaaGreat
open Go.RowKit
set_option linter.unusedVariables false
theorem run_bytesOf_rd {P : Program} {w : World} {B n c : Nat} {A : Option Addr} {l : List Nat} (h : Rd w B A n (bv l)) : (Extern.Bytes.bytesOf (.slice A n c)).run P w = .ok ⟨(l.map UInt8.ofNat).toArray⟩ w := by
  have hl := h.length
  rcases Nat.eq_zero_or_pos n with h0 | h0
  · subst h0
    have : l = [] := List.eq_nil_of_length_eq_zero hl
    subst this
    cases A with
    | none => rfl
    | some a => rfl
  · obtain ⟨b, o, rfl, _, hc⟩ := h.2 h0
    have hld := Lib.run_loadBytesX (P := P) w (l.map fun (x : Nat) => (x : Int)) ⟨b, o, none⟩ .empty (fun j x hj => by
      have hjl : j < l.length := by
        have := (List.getElem?_eq_some_iff.1 hj).1; simpa using this
      have e : (⟨b, o, none⟩ : Addr).add j = ⟨b, o + j, none⟩ := by unfold Addr.add; split <;> simp_all
      rw [e, hc j (by omega), bv_get hjl]
      rw [List.getElem?_map, List.getElem?_eq_getElem hjl] at hj
      injection hj with hj
      rw [← hj])
    rw [List.length_map, hl] at hld
    have e2 : Lib.bytesOf (l.map fun (x : Nat) => (x : Int)) = l.map UInt8.ofNat := by
      unfold Lib.bytesOf; rw [List.map_map]; apply List.map_congr_left; intro x _; simp
    rw [e2] at hld
    have he : (⟨ByteArray.empty.data ++ (l.map UInt8.ofNat).toArray⟩ : ByteArray) = ⟨(l.map UInt8.ofNat).toArray⟩ := by
      apply ByteArray.ext
      show (#[] : Array UInt8) ++ (l.map UInt8.ofNat).toArray = (l.map UInt8.ofNat).toArray
      simp
    rw [he] at hld
    exact hld
/-- bytes compared -/
def cmpB (l m : List Nat) : Int := Lib.compareBytes (l.map UInt8.ofNat) (m.map UInt8.ofNat)
theorem run_compare_rd {P : Program} {w : World} {B n c B' n' c' : Nat} {A A' : Option Addr} {l l' : List Nat} (h : Rd w B A n (bv l)) (h' : Rd w B' A' n' (bv l')) :
    (Extern.BytealgCompare.compare #[.slice A n c, .slice A' n' c']).run P w = .ok (.int .i64 (cmpB l l')) w := by
  change Sem.run P (do pure (goInt (Extern.BytealgCompare.cmp (← Extern.Bytes.bytesOf (.slice A n c)) (← Extern.Bytes.bytesOf (.slice A' n' c'))))) w = _
  simp only [Sem.run_bind, Sem.run_pure, Result.andThen, run_bytesOf_rd h, run_bytesOf_rd h']
  rw [Lib.cmp_eq]
  rfl
theorem cmpB_pos {l m : List Nat} (hl : ∀ x ∈ l, x < 256) (hm : ∀ x ∈ m, x < 256) : (0 < cmpB l m) ↔ Mp.ltB m l = true := by
  unfold cmpB
  induction l generalizing m with
  | nil => cases m <;> simp [Lib.compareBytes, Mp.ltB]
  | cons a l ih =>
    cases m with
    | nil => simp [Lib.compareBytes, Mp.ltB]
    | cons b m =>
      have ha := hl a (by simp)
      have hb := hm b (by simp)
      have ih' := ih (m := m) (fun x hx => hl x (by simp [hx])) (fun x hx => hm x (by simp [hx]))
      have lt1 : ∀ a b : Nat, a < 256 → b < 256 → ((UInt8.ofNat a < UInt8.ofNat b) ↔ a < b) := fun a b ha hb => by
        rw [UInt8.lt_iff_toNat_lt]; simp; omega
      simp only [List.map_cons, Lib.compareBytes, Mp.ltB, Bool.or_eq_true, decide_eq_true_eq, Bool.and_eq_true]
      by_cases h1 : a < b
      · rw [if_pos ((lt1 a b ha hb).2 h1)]
        constructor
        · intro h; omega
        · rintro (h | ⟨h, _⟩) <;> omega
      · rw [if_neg (fun h => h1 ((lt1 a b ha hb).1 h))]
        by_cases h2 : b < a
        · rw [if_pos ((lt1 b a hb ha).2 h2)]
          exact ⟨fun _ => .inl h2, fun _ => by omega⟩
        · rw [if_neg (fun h => h2 ((lt1 b a hb ha).1 h))]
          have : b = a := by omega
          rw [ih']
          exact ⟨fun h => .inr ⟨this, h⟩, fun h => h.elim (fun h => absurd h h2) (·.2)⟩
set_option maxRecDepth 100000 in
theorem compare_any (w : World) (A A' : Option Addr) (n c n' c' B B' : Nat) (l l' : List Nat) (h : Rd w B A n (bv l)) (h' : Rd w B' A' n' (bv l')) :
    Calls Tryz.prog 130 #[.slice A n c, .slice A' n' c'] w fun e w' => e = .returned (.int .i64 (cmpB l l')) ∧ w' = w := by
  have hr := run_compare_rd (P := Tryz.prog) (c := c) (c' := c') h h'
  clear h h'
  go_enter Tryz.func130, Tryz.ntmps130
  go_wp2
  rw [run_callFunc_extern Tryz.func134 (by kernel_rfl) (by kernel_rfl) (by kernel_rfl) (e := Extern.BytealgCompare.compare) (by kernel_rfl), hr]
  simp only [Result.andThen]
  rw [Oper.upon_value]
  go_wp2
  go_ret
  exact ⟨rfl, rfl⟩
end Go.Proofs.YtaknfmionkkdjaaGreat

