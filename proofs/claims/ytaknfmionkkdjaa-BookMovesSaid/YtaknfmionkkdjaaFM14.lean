/- CloneKit CompareKit -/
import Derived.Test.YtaknfmionkkdjaaFM02
import Derived.Test.YtaknfmionkkdjaaFM07
import Derived.Laws.Externs
import Derived.Lib.BytesEntry
namespace Go.Proofs.Ytaknfmionkkdjaa
open Go.RowKit
set_option linter.unusedVariables false

set_option maxRecDepth 100000 in
theorem clone_raw (l : List Nat) (A : Option Addr) (n c B : Nat) (hn : Lim 0 n) (w : World) (hr : Rd w B A n (bv l)) :
    Calls Try.prog 49 #[.slice A n c] w (GotB w l) := by
  have hn := hn.out
  have H := Lib.hid hr.fit
  have hB0 : Below w.heap.size w w := Below.refl _ _
  cases A with
  | none =>
    have h0 : n = 0 := by
      rcases Nat.eq_zero_or_pos n with h | h
      · exact h
      · obtain ⟨b, o, h1, _⟩ := hr.2 h
        cases h1
    subst h0
    have hl : l = [] := List.eq_nil_of_length_eq_zero hr.length
    subst hl
    clear hr H
    have he : ∀ w : World, (binOp .eql 26 (.slice none 0 c) (.slice none 0 0)).run Try.prog w = .ok (.bool true) w := fun _ => rfl
    go_enter Try.func49, Try.ntmps49
    go_wp2
    go_ret
    exact ⟨none, 0, 0, rfl, ⟨rfl, .inl ⟨rfl, rfl⟩⟩, hB0⟩
  | some a =>
    clear hr
    have he : ∀ w : World, (binOp .eql 26 (.slice (some a) n c) (.slice none 0 0)).run Try.prog w = .ok (.bool false) w := fun _ => rfl
    go_enter Try.func49, Try.ntmps49
    go_wp2_with (first
      | (at_builtin
         refine wpList_append_bytes (W := w) byteT (.tmp 5) (.tmp 6) rfl (by rfl) rfl (own_empty hB0 5) rfl ((H.out).alloc (Nat.le_refl _) _) (by omega) (hB0.alloc (Nat.le_refl _) _) ?_
         intro A1 c1 w1 hown1 hr1 hB1
         simp only [Nat.zero_add, List.nil_append] at hown1 hr1)
      | fail)
    go_ret
    exact ⟨_, _, _, rfl, hown1, hB1⟩
theorem clone_any {W w : World} {l : List Nat} {A : Option Addr} {n c B : Nat} (hn : Lim 0 n) (hr : Rd w B A n (bv l)) (hB : Below W.heap.size W w) :
    Calls Try.prog 49 #[.slice A n c] w (GotIn W w l) :=
  (clone_raw l A n c B hn w hr).mono fun e w' h => GotIn.of hB h
end Go.Proofs.Ytaknfmionkkdjaa

namespace Go.Proofs.Ytaknfmionkkdjaa
open Go.RowKit
set_option linter.unusedVariables false
theorem run_bytesOf_rd {P : Program} {w : World} {B n c : Nat} {A : Option Addr} {l : List Nat} (h : Rd w B A n (bv l)) : (Extern.Bytes.bytesOf (.slice A n c)).run P w = .ok ⟨(l.map UInt8.ofNat).toArray⟩ w := by
  have hl := h.length
  rcases Nat.eq_zero_or_pos n with h0 | h0
  · subst h0
    have : l = [] := List.eq_nil_of_length_eq_zero hl
    subst this
    cases A with
    | none => rfl
    | some a => rfl
  · obtain ⟨b, o, rfl, _, hc⟩ := h.2 h0
    have hld := Lib.run_loadBytesX (P := P) w (l.map fun (x : Nat) => (x : Int)) ⟨b, o, none⟩ .empty (fun j x hj => by
      have hjl : j < l.length := by
        have := (List.getElem?_eq_some_iff.1 hj).1; simpa using this
      have e : (⟨b, o, none⟩ : Addr).add j = ⟨b, o + j, none⟩ := by unfold Addr.add; split <;> simp_all
      rw [e, hc j (by omega), bv_get hjl]
      rw [List.getElem?_map, List.getElem?_eq_getElem hjl] at hj
      injection hj with hj
      rw [← hj])
    rw [List.length_map, hl] at hld
    have e2 : Lib.bytesOf (l.map fun (x : Nat) => (x : Int)) = l.map UInt8.ofNat := by
      unfold Lib.bytesOf; rw [List.map_map]; apply List.map_congr_left; intro x _; simp
    rw [e2] at hld
    have he : (⟨ByteArray.empty.data ++ (l.map UInt8.ofNat).toArray⟩ : ByteArray) = ⟨(l.map UInt8.ofNat).toArray⟩ := by
      apply ByteArray.ext
      show (#[] : Array UInt8) ++ (l.map UInt8.ofNat).toArray = (l.map UInt8.ofNat).toArray
      simp
    rw [he] at hld
    exact hld
/-- bytes compared -/
def cmpB (l m : List Nat) : Int := Lib.compareBytes (l.map UInt8.ofNat) (m.map UInt8.ofNat)
theorem run_compare_rd {P : Program} {w : World} {B n c B' n' c' : Nat} {A A' : Option Addr} {l l' : List Nat} (h : Rd w B A n (bv l)) (h' : Rd w B' A' n' (bv l')) :
    (Extern.BytealgCompare.compare #[.slice A n c, .slice A' n' c']).run P w = .ok (.int .i64 (cmpB l l')) w := by
  change Sem.run P (do pure (goInt (Extern.BytealgCompare.cmp (← Extern.Bytes.bytesOf (.slice A n c)) (← Extern.Bytes.bytesOf (.slice A' n' c'))))) w = _
  simp only [Sem.run_bind, Sem.run_pure, Result.andThen, run_bytesOf_rd h, run_bytesOf_rd h']
  rw [Lib.cmp_eq]
  rfl
theorem cmpB_pos {l m : List Nat} (hl : ∀ x ∈ l, x < 256) (hm : ∀ x ∈ m, x < 256) : (0 < cmpB l m) ↔ Mp.ltB m l = true := by
  unfold cmpB
  induction l generalizing m with
  | nil => cases m <;> simp [Lib.compareBytes, Mp.ltB]
  | cons a l ih =>
    cases m with
    | nil => simp [Lib.compareBytes, Mp.ltB]
    | cons b m =>
      have ha := hl a (by simp)
      have hb := hm b (by simp)
      have ih' := ih (m := m) (fun x hx => hl x (by simp [hx])) (fun x hx => hm x (by simp [hx]))
      have lt1 : ∀ a b : Nat, a < 256 → b < 256 → ((UInt8.ofNat a < UInt8.ofNat b) ↔ a < b) := fun a b ha hb => by
        rw [UInt8.lt_iff_toNat_lt]; simp; omega
      simp only [List.map_cons, Lib.compareBytes, Mp.ltB, Bool.or_eq_true, decide_eq_true_eq, Bool.and_eq_true]
      by_cases h1 : a < b
      · rw [if_pos ((lt1 a b ha hb).2 h1)]
        constructor
        · intro h; omega
        · rintro (h | ⟨h, _⟩) <;> omega
      · rw [if_neg (fun h => h1 ((lt1 a b ha hb).1 h))]
        by_cases h2 : b < a
        · rw [if_pos ((lt1 b a hb ha).2 h2)]
          exact ⟨fun _ => .inl h2, fun _ => by omega⟩
        · rw [if_neg (fun h => h2 ((lt1 b a hb ha).1 h))]
          have : b = a := by omega
          rw [ih']
          exact ⟨fun h => .inr ⟨this, h⟩, fun h => h.elim (fun h => absurd h h2) (·.2)⟩
set_option maxRecDepth 100000 in
theorem compare_any (w : World) (A A' : Option Addr) (n c n' c' B B' : Nat) (l l' : List Nat) (h : Rd w B A n (bv l)) (h' : Rd w B' A' n' (bv l')) :
    Calls Try.prog 95 #[.slice A n c, .slice A' n' c'] w fun e w' => e = .returned (.int .i64 (cmpB l l')) ∧ w' = w := by
  have hr := run_compare_rd (P := Try.prog) (c := c) (c' := c') h h'
  clear h h'
  go_enter Try.func95, Try.ntmps95
  go_wp2
  rw [run_callFunc_extern Try.func99 (by kernel_rfl) (by kernel_rfl) (by kernel_rfl) (e := Extern.BytealgCompare.compare) (by kernel_rfl), hr]
  simp only [Result.andThen]
  rw [Oper.upon_value]
  go_wp2
  go_ret
  exact ⟨rfl, rfl⟩
end Go.Proofs.Ytaknfmionkkdjaa

