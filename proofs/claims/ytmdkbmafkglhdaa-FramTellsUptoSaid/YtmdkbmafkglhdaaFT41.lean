/- FramMath -/
import Derived.Test.YtmdkbmafkglhdaaFT01
import Derived.Test.YtmdkbmafkglhdaaFT40
namespace Go.Proofs.Ytmdkbmafkglhdaa
namespace Fr
def four (c : Nat) : List Nat := [c % 256, c / 256 % 256, c / 65536 % 256, c / 16777216 % 256]
def wrapL (l : List Nat) : List Nat := if l = [] then [] else four (Crc.sum l) ++ l
def wrap (m : Mg) : List Nat := wrapL m.enc
def opn (l : List Nat) : Option Mg := if l.length < 4 then none else if l.take 4 = four (Crc.sum (l.drop 4)) then Mg.dec (l.drop 4) else none
theorem four_len (c : Nat) : (four c).length = 4 := rfl
theorem four_lt (c : Nat) : ∀ x ∈ four c, x < 256 := by
  intro x hx
  simp only [four, List.mem_cons, List.not_mem_nil, or_false] at hx
  omega
theorem wrapL_lt {l : List Nat} (h : ∀ x ∈ l, x < 256) : ∀ x ∈ wrapL l, x < 256 := by
  intro x hx
  unfold wrapL at hx
  split at hx
  · cases hx
  · rcases List.mem_append.1 hx with h' | h'
    · exact four_lt _ x h'
    · exact h x h'
theorem wrapL_len {l : List Nat} (h : l ≠ []) : (wrapL l).length = 4 + l.length := by
  unfold wrapL
  rw [if_neg h, List.length_append, four_len]
theorem wrapL_eq {l : List Nat} (h : l ≠ []) : wrapL l = four (Crc.sum l) ++ l := if_neg h
/-- a row of bytes behind four -/
theorem opn_app (f l : List Nat) (hf : f.length = 4) : opn (f ++ l) = if f = four (Crc.sum l) then Mg.dec l else none := by
  unfold opn
  rw [if_neg (by simp; omega), ← hf, List.take_left, List.drop_left]
theorem opn_wrap {m : Mg} (h : m.ok = true) : opn (wrap m) = some m.bare := by
  unfold wrap
  rw [wrapL_eq (Mg.enc_some h), opn_app _ _ (four_len _), if_pos rfl, Mg.dec_enc h]
theorem opn_short {l : List Nat} (h : l.length < 4) : opn l = none := if_pos h
theorem enc_len4 {m : Mg} (h : m.ok = true) : 4 ≤ m.enc.length := by
  have h1 : ∀ z, 1 ≤ (eI z).length := fun z => (Pk.enc_length _).1
  unfold Mg.enc
  rw [if_pos h]
  unfold Mg.head
  have e1 := h1 m.kind
  have e2 := h1 m.frm
  have e3 := h1 m.dst
  have e4 := h1 m.view
  simp only [List.length_append]
  omega
end Fr
end Go.Proofs.Ytmdkbmafkglhdaa

