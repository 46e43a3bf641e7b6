/- MachBytes2 MachC0 MachPut MachPut2 -/
import Derived.Test.YtlfkgpllleogoaaMT05
import Derived.Test.YtlfkgpllleogoaaMT10
import Derived.Test.YtlfkgpllleogoaaMT11
import Derived.Deep.RegionHeld3
import Derived.Deep.RegionLaw
namespace Go.Proofs.Ytlfkgpllleogoaa
set_option linter.unusedVariables false
/-- all that is left are bytes -/
def BytesSt (s : Pk.St) : Prop := ∀ l, s = some l → ∀ x ∈ l, x < 256
theorem numN_cases (s : Pk.St) (m : Int) : (Pk.numV s m = 0 ∧ Pk.numS s m = none) ∨ ∃ l, s = some l ∧ Pk.numV s m = (Pk.first l).1 ∧ Pk.numV s m ≤ Pk.held m ∧ Pk.numS s m = some (l.drop (Pk.first l).2) := by
  cases s with
  | none => left; exact ⟨rfl, rfl⟩
  | some l =>
    by_cases h : (Pk.first l).2 = 0 ∨ Pk.held m < (Pk.first l).1
    · left
      refine Pk.numV_no ?_
      show Pk.rNum l (Pk.held m) = none
      unfold Pk.rNum; rw [if_pos h]
    · right
      have := Pk.numV_is (s := some l) (m := m) (n := (Pk.first l).1) (l := l.drop (Pk.first l).2) (by show Pk.rNum l (Pk.held m) = _; unfold Pk.rNum; rw [if_neg h])
      refine ⟨l, rfl, this.1, ?_, this.2⟩
      rw [this.1]
      omega
theorem numV_le (s : Pk.St) {m : Int} (hm : 0 ≤ m) : (Pk.numV s m : Int) ≤ m := by
  have hh : (Pk.held m : Int) ≤ m := by unfold Pk.held Pk.top; omega
  rcases numN_cases s m with h | ⟨l, _, _, h, _⟩
  · rw [h.1]; exact hm
  · omega
theorem numS_bytes {s : Pk.St} (h : BytesSt s) (m : Int) : BytesSt (Pk.numS s m) := by
  rcases numN_cases s m with h1 | ⟨l, h1, _, _, h2⟩
  · rw [h1.2]; intro l hl; cases hl
  · rw [h2]
    intro l' hl'
    injection hl' with hl'
    subst hl'
    exact fun x hx => h l h1 x (List.mem_of_mem_drop hx)
theorem bytV_facts {s : Pk.St} (h : BytesSt s) {m : Int} (hm : 0 ≤ m) : ((Pk.bytV s m).length : Int) ≤ m ∧ (∀ x ∈ Pk.bytV s m, x < 256) ∧ BytesSt (Pk.bytS s m) := by
  have hn := numV_le s hm
  have hb := numS_bytes h m
  by_cases hl : ((Pk.numS s m).getD []).length < Pk.numV s m
  · obtain ⟨e1, e2⟩ := Pk.byt_no hl
    rw [e1, e2]
    exact ⟨by simpa using hm, by simp, fun l hl => by cases hl⟩
  · obtain ⟨e1, e2⟩ := Pk.byt_of hl
    rw [e1, e2]
    cases hs : Pk.numS s m with
    | none => exact ⟨by simpa using hm, by simp, fun l hl => by cases hl⟩
    | some l =>
      refine ⟨by simp only [Option.getD_some, List.length_take]; omega, fun x hx => hb l hs x (List.mem_of_mem_take (by simpa using hx)), ?_⟩
      intro l' hl'
      simp only [Option.map_some] at hl'
      injection hl' with hl'
      subst hl'
      exact fun x hx => hb l hs x (List.mem_of_mem_drop hx)
theorem En.read_fits {s : Pk.St} (h : BytesSt s) : (En.read s).c.Fits ∧ BytesSt (En.get s).2 := by
  have s1 := numS_bytes h 1073741824
  have s2 := numS_bytes s1 1073741824
  have s3 := numS_bytes s2 1073741824
  have s4 := numS_bytes s3 1073741824
  obtain ⟨a1, a2, a3⟩ := bytV_facts s4 (m := 32) (by omega)
  obtain ⟨b1, b2, b3⟩ := bytV_facts a3 (m := 32) (by omega)
  obtain ⟨c1, c2, c3⟩ := bytV_facts b3 (m := 32) (by omega)
  refine ⟨?_, c3⟩
  unfold En.read
  split
  · exact ⟨⟨by simp [En.zero], by simp [En.zero]⟩, ⟨by simp [En.zero], by simp [En.zero]⟩, ⟨by simp [En.zero], by simp [En.zero]⟩⟩
  · exact ⟨⟨by show (Pk.bytV _ 32).length ≤ 100; omega, a2⟩, ⟨by show (Pk.bytV _ 32).length ≤ 100; omega, b2⟩, ⟨by show (Pk.bytV _ 32).length ≤ 100; omega, c2⟩⟩
end Go.Proofs.Ytlfkgpllleogoaa

namespace Go.Proofs.Ytlfkgpllleogoaa
open Go.RowKit
set_option linter.unusedVariables false
theorem En.eq_iff (a b : En) : a = b ↔ a.s = b.s ∧ a.q = b.q ∧ a.c.kind = b.c.kind ∧ a.c.who = b.c.who ∧ a.c.key = b.c.key ∧ a.c.val = b.c.val ∧ a.c.old = b.c.old := by
  constructor
  · rintro rfl; exact ⟨rfl, rfl, rfl, rfl, rfl, rfl, rfl⟩
  · rintro ⟨h1, h2, h3, h4, h5, h6, h7⟩; obtain ⟨_, _, ⟨_, _, _, _, _⟩⟩ := a; obtain ⟨_, _, ⟨_, _, _, _, _⟩⟩ := b; simp at h1 h2 h3 h4 h5 h6 h7; subst h1 h2 h3 h4 h5 h6 h7; rfl
instance : DecidableEq En := fun a b => decidable_of_iff _ (En.eq_iff a b).symm
theorem encN_lt (n : Nat) : ∀ x ∈ encN n, x < 256 := Pk.enc_lt (Pk.held_le _)
end Go.Proofs.Ytlfkgpllleogoaa

namespace Go.Proofs.Ytlfkgpllleogoaa
open Go.RowKit
set_option linter.unusedVariables false
/-- blocks of other types than bytes stay as they are -/
structure OnlyB (w w' : World) : Prop where
  size : w.heap.size ≤ w'.heap.size
  blk : ∀ {g : Nat} {t : TypeId} {cs : Array Value}, 5 ≠ t → Blk w g t cs → Blk w' g t cs
section
variable {W w w' w'' : World} {A : Option Addr} {n c : Nat} {l : List Nat}
theorem OnlyB.trans (h : OnlyB w w') (h' : OnlyB w' w'') : OnlyB w w'' := ⟨Nat.le_trans h.size h'.size, fun hn hb => h'.blk hn (h.blk hn hb)⟩
theorem OnlyB.of_below (h : Below w.heap.size w w') : OnlyB w w' := ⟨h.size, fun _ hb => hb.below h⟩
theorem OnlyB.grown {base : Nat} {xs : List Value} (h : w.ownsRow base 5 1 (.slice A n c) n xs) (hg : w.grownBy w' (Value.slice A n c).ownBlock) : OnlyB w w' :=
  ⟨hg.size, fun hn hb => hb.apart_own h (Ne.symm hn) hg⟩
theorem RdT.onlyB {e : TypeId} {vs : List Value} (h : RdT w e A n vs) (hb : OnlyB w w') (hne : 5 ≠ e) : RdT w' e A n vs :=
  ⟨h.1, fun hn => by obtain ⟨g, o, cur, e1, hk, hc⟩ := h.2 hn; exact ⟨g, o, cur, e1, hb.blk hne hk, hc⟩⟩
end
/-- l, in a row of W's own that may have been there -/
def GotPut (W w : World) (l : List Nat) (e : Ending) (w' : World) : Prop := ∃ A c, e = .returned (.slice A l.length c) ∧ OwnB W w' A l.length c l ∧ Below W.heap.size W w' ∧ OnlyB w w'
set_option maxRecDepth 100000 in
theorem putNum_any {W w : World} {A : Option Addr} {n c : Nat} {l : List Nat} (z : Int) (hl : l.length ≤ 1000000) (ho : OwnB W w A n c l) (hB : Below W.heap.size W w) :
    Calls Try.prog 107 #[.slice A n c, .int .i64 z] w (GotPut W w (l ++ Pk.enc (Pk.held z))) := by
  obtain rfl := own_len ho
  have HO := Lib.hid ho
  have HB := Lib.hid hB
  have HX : Hid (∀ w, Below W.heap.size W w → Calls Try.prog 59 #[.slice none 0 0, .int .i64 z] w fun e w' => ∃ A n c, e = .returned (.slice A n c) ∧ OwnB W w' A n c (Pk.enc (Pk.held z)) ∧ Below W.heap.size W w' ∧ Below w.heap.size w w') :=
    Lib.hid (fun w hb => put_in (W := W) (l := []) (B := 0) (n := 0) (by unfold Lim; omega) (Rd.none_ _ _ _) hb rfl)
  obtain ⟨x, hx⟩ : ∃ x, Pk.enc (Pk.held z) = x := ⟨_, rfl⟩
  have hxl : x.length ≤ 9 := by rw [← hx]; exact (Pk.enc_length _).2
  rw [hx] at HX ⊢
  clear ho hB hx
  go_enter Try.func107, Try.ntmps107
  go_wp2_with (first
    | (go_at_call 59; refine (HX.out _ HB.out).mono ?_; rintro e w1 ⟨A1, n1, c1, rfl, ho1, hB1, hb1⟩; obtain rfl := own_len ho1)
    | (at_builtin
       refine wpList_append_cells (W := W) cellB (.tmp 5) (.tmp 7) rfl (by rfl) rfl (own_below HO.out hb1) rfl (Rd.own_ ho1) (bv_one _) (by omega) (by omega) hB1 ?_
       intro A3 c3 w3 hown3 hB3 hg3)
    | fail)
  go_ret
  rw [← bv_app] at hown3
  refine ⟨A3, c3, by rw [List.length_append]; rfl, by rw [List.length_append]; exact hown3, hB3, (OnlyB.of_below hb1).trans (OnlyB.grown (own_below HO.out hb1) hg3)⟩
end Go.Proofs.Ytlfkgpllleogoaa

namespace Go.Proofs.Ytlfkgpllleogoaa
open Go.RowKit
set_option linter.unusedVariables false
theorem take_snoc {α : Type} {l : List α} {k : Nat} {x : α} (h : l[k]? = some x) : l.take (k + 1) = l.take k ++ [x] := by rw [List.take_add_one, h]; rfl
end Go.Proofs.Ytlfkgpllleogoaa

