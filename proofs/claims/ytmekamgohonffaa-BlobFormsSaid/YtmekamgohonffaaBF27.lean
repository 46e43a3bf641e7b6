/- MachC0 -/
import Derived.Test.YtmekamgohonffaaBF25
import Derived.Test.YtmekamgohonffaaBF26
namespace Go.Proofs.Ytmekamgohonffaa
open Go.RowKit
set_option linter.unusedVariables false
theorem Ls.eq_iff (a b : Ls) : a = b ↔ a.s = b.s ∧ a.q = b.q ∧ a.e = b.e ∧ a.v = b.v ∧ a.n = b.n := by
  constructor
  · rintro rfl; exact ⟨rfl, rfl, rfl, rfl, rfl⟩
  · rintro ⟨h1, h2, h3, h4, h5⟩; cases a; cases b; simp at h1 h2 h3 h4 h5; subst h1 h2 h3 h4 h5; rfl
instance : DecidableEq Ls := fun a b => decidable_of_iff _ (Ls.eq_iff a b).symm
theorem Mc.eq_iff (a b : Mc) : a = b ↔ a.o.reg = b.o.reg ∧ a.o.q = b.o.q ∧ a.o.lk = b.o.lk ∧ a.o.mp = b.o.mp ∧ a.t = b.t := by
  constructor
  · rintro rfl; exact ⟨rfl, rfl, rfl, rfl, rfl⟩
  · rintro ⟨h1, h2, h3, h4, h5⟩; obtain ⟨⟨_, _, _, _⟩, _⟩ := a; obtain ⟨⟨_, _, _, _⟩, _⟩ := b; simp at h1 h2 h3 h4 h5; subst h1 h2 h3 h4 h5; rfl
instance : DecidableEq Mc := fun a b => decidable_of_iff _ (Mc.eq_iff a b).symm
theorem En.eq_iff (a b : En) : a = b ↔ a.s = b.s ∧ a.q = b.q ∧ a.c.kind = b.c.kind ∧ a.c.who = b.c.who ∧ a.c.key = b.c.key ∧ a.c.val = b.c.val ∧ a.c.old = b.c.old := by
  constructor
  · rintro rfl; exact ⟨rfl, rfl, rfl, rfl, rfl, rfl, rfl⟩
  · rintro ⟨h1, h2, h3, h4, h5, h6, h7⟩; obtain ⟨_, _, ⟨_, _, _, _, _⟩⟩ := a; obtain ⟨_, _, ⟨_, _, _, _, _⟩⟩ := b; simp at h1 h2 h3 h4 h5 h6 h7; subst h1 h2 h3 h4 h5 h6 h7; rfl
instance : DecidableEq En := fun a b => decidable_of_iff _ (En.eq_iff a b).symm
def EncodeC10 : Prop := ∀ {W w : World} {a : MA} {m : Mc} {B : Nat}, m.Ok → RdM w B a m → Below W.heap.size W w →
  Calls Try.prog 10 #[machV a m] w (GotIn W w m.enc)
def DecodeC10 : Prop := ∀ {W w : World} {A : Option Addr} {n c B : Nat} {l : List Nat}, l.length ≤ 100000 → (∀ x ∈ l, x < 256) → n ≤ c → c ≤ maxLen → Rd w B A n (bv l) → Below W.heap.size W w →
  Calls Try.prog 16 #[.slice A n c] w (GotMB W w (Mc.dec l))
/-- its bytes -/
theorem Mc.Ok.enc_length {m : Mc} (h : m.Ok) : m.enc.length ≤ 1200 := by
  have h1 := encB_length m.o.reg
  have h2 := h.o.reg
  have h3 := encQ_length h.o.qv
  have h4 := h.o.ql
  have h5 := Pk.encs_length m.o.lk
  have h6 := h.o.lkl
  have h7 := encP_length h.o.mp.len
  have h8 := h.o.mp.few
  have h9 := encT_length (ls := m.t) fun l hl => (h.t.each l hl).2.1
  have h10 := h.t8
  have k1 := encN_length m.o.q.length
  have k2 := encN_length m.o.lk.length
  have k3 := encN_length m.o.mp.length
  have k4 := encN_length m.t.length
  unfold Mc.enc
  simp only [List.length_append]
  omega
theorem encQ_lt {qs : List (List Nat)} (h : ∀ x ∈ qs, x.length ≤ 16 ∧ ∀ y ∈ x, y < 256) : ∀ x ∈ encQ qs, x < 256 := by
  intro x hx
  obtain ⟨q, hq, hxq⟩ := List.mem_flatMap.1 hx
  exact Pk.encB_lt (h q hq).2 (by have := (h q hq).1; unfold Pk.top; omega) x hxq
theorem encN_lt (n : Nat) : ∀ x ∈ encN n, x < 256 := Pk.enc_lt (Pk.held_le _)
theorem Mc.Ok.enc_lt {m : Mc} (h : m.Ok) : ∀ x ∈ m.enc, x < 256 := by
  have hb : ∀ {l : List Nat}, l.length ≤ 16 → (∀ y ∈ l, y < 256) → ∀ x ∈ Pk.encB l, x < 256 := fun h1 h2 => Pk.encB_lt h2 (by unfold Pk.top; omega)
  have hp : ∀ x ∈ encP m.o.mp, x < 256 := by
    intro x hx
    obtain ⟨p, hp, hxp⟩ := List.mem_flatMap.1 hx
    have h1 := h.o.mp.len p hp
    have h2 := h.o.mp.byt p hp
    rcases List.mem_append.1 hxp with h3 | h3
    · exact hb (by omega) h2.1 x h3
    · exact hb h1.2 h2.2 x h3
  have ht : ∀ x ∈ encT m.t, x < 256 := by
    intro x hx
    obtain ⟨l, hl, hxl⟩ := List.mem_flatMap.1 hx
    have h1 := h.t.each l hl
    unfold encL1 at hxl
    simp only [List.mem_append] at hxl
    rcases hxl with h3 | h3 | h3 | h3 | h3
    · exact Pk.enc_lt (Pk.held_le _) x h3
    · exact Pk.enc_lt (Pk.held_le _) x h3
    · exact Pk.enc_lt (Pk.held_le _) x h3
    · exact Pk.enc_lt (Pk.held_le _) x h3
    · exact hb h1.2.1 h1.2.2 x h3
  intro x hx
  unfold Mc.enc at hx
  simp only [List.mem_append] at hx
  rcases hx with h3 | h3 | h3 | h3 | h3 | h3 | h3 | h3 | h3
  · exact hb h.o.reg h.o.regb x h3
  · exact encN_lt _ x h3
  · exact encQ_lt (fun l hl => ⟨h.o.qv l hl, h.o.qb l hl⟩) x h3
  · exact encN_lt _ x h3
  · exact Pk.encs_lt _ x h3
  · exact encN_lt _ x h3
  · exact hp x h3
  · exact encN_lt _ x h3
  · exact ht x h3
end Go.Proofs.Ytmekamgohonffaa

