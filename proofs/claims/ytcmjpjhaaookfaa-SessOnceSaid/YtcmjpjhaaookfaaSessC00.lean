/- What the code of a table owes (two contracts); tables that are well. -/
import Derived.Test.YtcmjpjhaaookfaaSessRef3
import Derived.Test.YtcmjpjhaaookfaaSessRef4
namespace Go.Proofs.Ytcmjpjhaaookfaa
open Go.RowKit
set_option linter.unusedVariables false
/-- a table that is well -/
structure Tb.Ok (ls : List Ls) : Prop where
  rises : Tb.Rises ls
  len : ls.length ≤ 1000
  each : ∀ l ∈ ls, Tb.named l.s l.q ∧ l.v.length ≤ 16 ∧ ∀ x ∈ l.v, x < 256
theorem Tb.Ok.nil : Tb.Ok [] := ⟨List.Pairwise.nil, by simp, by intro l h; cases h⟩
theorem Tb.Ok.put {ls : List Ls} {l : Ls} (h : Tb.Ok ls) (hl : ls.length < 1000) (hn : Tb.named l.s l.q) (hv : l.v.length ≤ 16) (hb : ∀ x ∈ l.v, x < 256) : Tb.Ok (Tb.put ls l) :=
  ⟨Tb.put_rises h.rises, by have := Tb.length_put_le (ls := ls) (l := l); omega, fun m hm => by
    rcases Tb.mem_put hm with rfl | hm
    · exact ⟨hn, hv, hb⟩
    · exact h.each m hm⟩
theorem Tb.Ok.lim {ls : List Ls} (h : Tb.Ok ls) : LimLs ls := fun l hl => by have := (h.each l hl).2.1; unfold Lim; omega
theorem Tb.Ok.bytes {ls : List Ls} (h : Tb.Ok ls) : BytesLs ls := fun l hl => (h.each l hl).2.2
theorem Tb.look_vb {ls : List Ls} (h : Tb.Ok ls) (s q : Int) : ∀ x ∈ (Tb.look ls s q).v, x < 256 := by
  unfold Tb.look
  split
  · split
    · rename_i l hl
      split
      · intro x hx; cases hx
      · split
        · exact (h.each l (List.mem_of_find?_eq_some hl)).2.2
        · intro x hx; cases hx
    · split <;> (intro x hx; cases hx)
  · intro x hx; cases hx
/-- Look, as the code owes it -/
def LookC9 : Prop := ∀ {W w : World} {ls : List Ls} {A : Option Addr} {n c B : Nat} (s q : Int), Tb.Ok ls → n ≤ c → RdL w B A n ls → Below W.heap.size W w →
    Calls Try.prog 24 #[.slice A n c, .int .i64 s, .int .i64 q] w (GotRK W w (Tb.look ls s q).e (Tb.look ls s q).v (Tb.look ls s q).n (Tb.look ls s q).k)
/-- Put, as the code owes it -/
def PutC9 : Prop := ∀ {W w : World} {ls : List Ls} {A A' : Option Addr} {n c c' B B' : Nat} (l : Ls), Tb.Ok ls → Tb.named l.s l.q → l.v.length ≤ 16 → (∀ x ∈ l.v, x < 256) → n ≤ c → RdL w B A n ls → Rd w B' A' l.v.length (bv l.v) → Below W.heap.size W w →
    Calls Try.prog 25 #[.slice A n c, .int .i64 l.s, .int .i64 l.q, .agg #[.int .i64 l.e, .slice A' l.v.length c', .int .i64 l.n]] w (GotL W w (Tb.put ls l))
/-- what is told where the answer is known -/
theorem LookC9.is (h : LookC9) {W w : World} {ls : List Ls} {A : Option Addr} {n c B : Nat} (s q : Int) {e : Int} {v : List Nat} {N k : Int} (ha : Tb.look ls s q = ⟨e, v, N, k⟩) (ho : Tb.Ok ls) (hc : n ≤ c) (hr : RdL w B A n ls) (hB : Below W.heap.size W w) :
    Calls Try.prog 24 #[.slice A n c, .int .i64 s, .int .i64 q] w (GotRK W w e v N k) := by
  have := h s q ho hc hr hB
  rwa [ha] at this
theorem PutC9.is (h : PutC9) {W w : World} {ls ls' : List Ls} {A A' : Option Addr} {n c c' B B' : Nat} (s q e : Int) (v : List Nat) (N : Int) {m : Nat} (hm : v.length = m) (hp : Tb.put ls ⟨s, q, e, v, N⟩ = ls') (ho : Tb.Ok ls) (hn : Tb.named s q) (hv : m ≤ 16) (hb : ∀ x ∈ v, x < 256) (hc : n ≤ c) (hr : RdL w B A n ls) (hr' : Rd w B' A' m (bv v)) (hB : Below W.heap.size W w) :
    Calls Try.prog 25 #[.slice A n c, .int .i64 s, .int .i64 q, .agg #[.int .i64 e, .slice A' m c', .int .i64 N]] w (GotL W w ls') := by
  subst hm hp
  exact h ⟨s, q, e, v, N⟩ ho hn hv hb hc hr hr' hB
end Go.Proofs.Ytcmjpjhaaookfaa
