/- FramMath FramSum -/
import Derived.Test.YtmdkbmafkglhdaaF02
import Derived.Test.YtmdkbmafkglhdaaF04
import Derived.Test.YtmdkbmafkglhdaaF32
import Derived.Test.YtmdkbmafkglhdaaF38
import Derived.Laws.OwnMore
namespace Go.Proofs.Ytmdkbmafkglhdaa
namespace Fr
def four (c : Nat) : List Nat := [c % 256, c / 256 % 256, c / 65536 % 256, c / 16777216 % 256]
def wrapL (l : List Nat) : List Nat := if l = [] then [] else four (Crc.sum l) ++ l
def wrap (m : Mg) : List Nat := wrapL m.enc
def opn (l : List Nat) : Option Mg := if l.length < 4 then none else if l.take 4 = four (Crc.sum (l.drop 4)) then Mg.dec (l.drop 4) else none
theorem four_len (c : Nat) : (four c).length = 4 := rfl
theorem four_lt (c : Nat) : ∀ x ∈ four c, x < 256 := by
  intro x hx
  simp only [four, List.mem_cons, List.not_mem_nil, or_false] at hx
  omega
theorem four_inj {c d : Nat} (hc : c < 4294967296) (hd : d < 4294967296) (h : four c = four d) : c = d := by
  simp only [four, List.cons.injEq, and_true] at h
  omega
theorem wrapL_lt {l : List Nat} (h : ∀ x ∈ l, x < 256) : ∀ x ∈ wrapL l, x < 256 := by
  intro x hx
  unfold wrapL at hx
  split at hx
  · cases hx
  · rcases List.mem_append.1 hx with h' | h'
    · exact four_lt _ x h'
    · exact h x h'
theorem wrapL_len {l : List Nat} (h : l ≠ []) : (wrapL l).length = 4 + l.length := by
  unfold wrapL
  rw [if_neg h, List.length_append, four_len]
theorem wrapL_eq {l : List Nat} (h : l ≠ []) : wrapL l = four (Crc.sum l) ++ l := if_neg h
/-- a row of bytes behind four -/
theorem opn_app (f l : List Nat) (hf : f.length = 4) : opn (f ++ l) = if f = four (Crc.sum l) then Mg.dec l else none := by
  unfold opn
  rw [if_neg (by simp; omega), ← hf, List.take_left, List.drop_left]
theorem opn_wrap {m : Mg} (h : m.ok = true) : opn (wrap m) = some m.bare := by
  unfold wrap
  rw [wrapL_eq (Mg.enc_some h), opn_app _ _ (four_len _), if_pos rfl, Mg.dec_enc h]
theorem opn_short {l : List Nat} (h : l.length < 4) : opn l = none := if_pos h
/-- turned in its sum alone -/
theorem opn_sum {l f : List Nat} (hf : f.length = 4) (hne : f ≠ four (Crc.sum l)) : opn (f ++ l) = none := by
  rw [opn_app _ _ hf, if_neg hne]
/-- turned behind its sum, to what has another -/
theorem opn_body {l y : List Nat} (hl : ∀ x ∈ l, x < 256) (hy : ∀ x ∈ y, x < 256) (hne : Crc.sum y ≠ Crc.sum l) : opn (four (Crc.sum l) ++ y) = none := by
  rw [opn_app _ _ (four_len _), if_neg]
  intro h
  exact hne (four_inj (Crc.sum_lt _ hl) (Crc.sum_lt _ hy) h).symm
theorem enc_len4 {m : Mg} (h : m.ok = true) : 4 ≤ m.enc.length := by
  have h1 : ∀ z, 1 ≤ (eI z).length := fun z => (Pk.enc_length _).1
  unfold Mg.enc
  rw [if_pos h]
  unfold Mg.head
  have e1 := h1 m.kind
  have e2 := h1 m.frm
  have e3 := h1 m.dst
  have e4 := h1 m.view
  simp only [List.length_append]
  omega
end Fr
end Go.Proofs.Ytmdkbmafkglhdaa

namespace Go.Proofs.Ytmdkbmafkglhdaa
open Go.RowKit
set_option linter.unusedVariables false
theorem frsum_any {W w : World} {A : Option Addr} {n c B : Nat} {l : List Nat} (hl : ∀ x ∈ l, x < 256) (hn : n ≤ maxLen) (h : Rd w B A n (bv l)) (hB : Below W.heap.size W w) : Calls Try.prog 40 #[.slice A n c] w (GotIn W w (Fr.four (Crc.sum l))) := by
  have C := Lib.hid (sum_any l hl A n c B hn w h)
  have HB := Lib.hid hB
  obtain ⟨s, hs⟩ : ∃ s, Crc.sum l = s := ⟨_, rfl⟩
  rw [hs] at C ⊢
  clear hl hn h hB hs
  go_enter Try.func40, Try.ntmps40
  go_wp2_with (go_at_call 51; refine C.out.mono ?_; rintro e w' ⟨rfl, rfl⟩)
  go_ret
  have e : (#[.int .u8 ((s : Int) % 256), .int .u8 ((s : Int) / 256 % 256), .int .u8 ((s : Int) / 65536 % 256), .int .u8 ((s : Int) / 16777216 % 256)] : Array Value) = #[.int .u8 ((s % 256 : Nat) : Int), .int .u8 ((s / 256 % 256 : Nat) : Int), .int .u8 ((s / 65536 % 256 : Nat) : Int), .int .u8 ((s / 16777216 % 256 : Nat) : Int)] := rfl
  exact ⟨some ⟨w.heap.size, 0, none⟩, 4, rfl, World.ownsRow_lit w _ 4 HB.out.size (by decide) rfl, HB.out.alloc HB.out.size _, (Below.refl _ _).alloc (Nat.le_refl _) _⟩
end Go.Proofs.Ytmdkbmafkglhdaa

