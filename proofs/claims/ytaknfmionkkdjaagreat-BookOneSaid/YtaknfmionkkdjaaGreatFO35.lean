/- KeepKit -/
import Derived.Test.YtaknfmionkkdjaaGreatFO27
import Derived.Test.YtaknfmionkkdjaaGreatFO28
import Derived.Test.YtaknfmionkkdjaaGreatFO34
namespace Go.Proofs.YtaknfmionkkdjaaGreat
open Go.RowKit
set_option linter.unusedVariables false
/-- from w to w' no block but those of S is turned -/
structure Keeps (S : Nat → Prop) (w w' : World) : Prop where
  os : w'.os = w.os
  tape : w'.tape = w.tape
  output : w'.output = w.output
  size : w.heap.size ≤ w'.heap.size
  block : ∀ k, k < w.heap.size → ¬ S k → w'.heap[k]? = w.heap[k]?
/-- the blocks of S hold elements of T -/
def Of (S : Nat → Prop) (T : List TypeId) (w : World) : Prop := ∀ k, S k → k < w.heap.size → ∃ cs t fr, w.heap[k]? = some (.cells cs t fr) ∧ t ∈ T
section
variable {S S' : Nat → Prop} {T : List TypeId} {w w' w'' : World}
theorem Keeps.refl (S : Nat → Prop) (w : World) : Keeps S w w := ⟨rfl, rfl, rfl, Nat.le_refl _, fun _ _ _ => rfl⟩
theorem Keeps.trans (h : Keeps S w w') (h' : Keeps S' w' w'') (hs : ∀ k, S' k → k < w.heap.size → S k) : Keeps S w w'' :=
  ⟨h'.os.trans h.os, h'.tape.trans h.tape, h'.output.trans h.output, Nat.le_trans h.size h'.size, fun k hk hn => (h'.block k (Nat.lt_of_lt_of_le hk h.size) (fun hx => hn (hs k hx hk))).trans (h.block k hk hn)⟩
theorem Keeps.mono (h : Keeps S w w') (hs : ∀ k, S k → S' k) : Keeps S' w w' := ⟨h.os, h.tape, h.output, h.size, fun k hk hn => h.block k hk (fun hx => hn (hs k hx))⟩
theorem Keeps.of_below (h : Below w.heap.size w w') : Keeps S w w' := ⟨h.os, h.tape, h.output, h.size, fun k hk _ => h.block k hk⟩
theorem Keeps.of_only {b : Nat} (h : Only b w w') (hb : S b) : Keeps S w w' := ⟨h.os, h.tape, h.output, h.size, fun k hk hn => h.block k hk (fun e => hn (by injection e with e; rw [e]; exact hb))⟩
theorem Keeps.below (h : Keeps S w w') {W : World} (hB : Below W.heap.size W w) (hs : ∀ k, S k → W.heap.size ≤ k) : Below W.heap.size W w' := by
  refine ⟨h.os.trans hB.os, h.tape.trans hB.tape, h.output.trans hB.output, Nat.le_trans hB.size h.size, fun k hk => ?_⟩
  exact (h.block k (Nat.lt_of_lt_of_le hk hB.size) (fun hx => by have := hs k hx; omega)).trans (hB.block k hk)
theorem Blk.keeps {g : Nat} {t : TypeId} {cs : Array Value} (h : Blk w g t cs) (hk : Keeps S w w') (hn : ¬ S g) : Blk w' g t cs := (hk.block g h.lt hn).trans h
theorem Of.not {g : Nat} {t : TypeId} {cs : Array Value} {fr : Nat × Nat} (h : Of S T w) (hb : w.heap[g]? = some (.cells cs t fr)) (ht : t ∉ T) : ¬ S g := fun hs => by
  obtain ⟨cs', t', fr', q1, q2⟩ := h g hs (Array.getElem?_eq_some_iff.1 hb).1
  rw [hb] at q1
  injection q1 with q1
  injection q1 with _ q1
  exact ht (q1 ▸ q2)
theorem ownsRow_keeps {base size n : Nat} {e : TypeId} {v : Value} {xs : List Value} (h : w.ownsRow base e size v n xs) (hk : Keeps S w w') (ho : Of S T w) (ht : e ∉ T) : w'.ownsRow base e size v n xs := by
  refine ⟨h.1, ?_⟩
  rcases h.2 with h2 | ⟨g, cap, cur, q1, q2, q3, q4⟩
  · exact .inl h2
  · exact .inr ⟨g, cap, cur, q1, q2, (hk.block g (Array.getElem?_eq_some_iff.1 q3).1 (ho.not q3 ht)).trans q3, q4⟩
/-- a row of bytes whose block holds bytes, whatever its mark -/
def Rd9 (w : World) (A : Option Addr) (l : List Nat) : Prop := Rd w w.heap.size A l.length (bv l) ∧ (0 < l.length → ∃ g o, A = some ⟨g, o, none⟩ ∧ ∃ cs fr, w.heap[g]? = some (.cells cs 5 fr))
theorem Rd9.keeps {A : Option Addr} {l : List Nat} (h : Rd9 w A l) (hk : Keeps S w w') (ho : Of S T w) (ht : 5 ∉ T) : Rd9 w' A l := by
  obtain ⟨h1, h2⟩ := h
  refine ⟨⟨h1.1, fun hn => ?_⟩, fun hn => ?_⟩
  · obtain ⟨g, o, e1, hlt, hc⟩ := h1.2 hn
    obtain ⟨g', o', e2, cs, fr, hb⟩ := h2 hn
    rw [e1] at e2
    injection e2 with e2
    injection e2 with e2 e3
    subst e2
    have hs := hk.block g hlt (ho.not hb ht)
    exact ⟨g, o, e1, Nat.lt_of_lt_of_le hlt hk.size, fun i hi => (World.cell?_of_block hs).trans (hc i hi)⟩
  · obtain ⟨g, o, e1, cs, fr, hb⟩ := h2 hn
    exact ⟨g, o, e1, cs, fr, (hk.block g (Array.getElem?_eq_some_iff.1 hb).1 (ho.not hb ht)).trans hb⟩
theorem Rd9.below {A : Option Addr} {l : List Nat} (h : Rd9 w A l) (hb : Below w.heap.size w w') : Rd9 w' A l :=
  h.keeps (S := fun _ => False) (T := []) (Keeps.of_below hb) (fun k hk => hk.elim) (by simp)
theorem Rd9.of8 {A : Option Addr} {l : List Nat} (h : Rd8 w w.heap.size A l.length (bv l)) : Rd9 w A l := by
  obtain ⟨h1, g, o, e, _, cs, fr, hb⟩ := h
  exact ⟨h1, fun _ => ⟨g, o, e, cs, fr, hb⟩⟩
theorem Rd9.own {W : World} {A : Option Addr} {c : Nat} {l : List Nat} (h : OwnB W w A l.length c l) : Rd9 w A l := by
  refine ⟨Rd.own_ h, fun hn => ?_⟩
  rcases own_blk h with ⟨rfl, h0⟩ | ⟨g, cur, e, hg, hk⟩
  · omega
  · exact ⟨g, 0, e, cur, (0, 0), hk⟩
/-- a command's rows so -/
structure RdC9 (w : World) (a : CA) (c : Cm) : Prop where
  k : Rd9 w a.Ak c.key
  v : Rd9 w a.Av c.val
  o : Rd9 w a.Ao c.old
theorem RdC9.keeps {a : CA} {c : Cm} (h : RdC9 w a c) (hk : Keeps S w w') (ho : Of S T w) (ht : 5 ∉ T) : RdC9 w' a c := ⟨h.k.keeps hk ho ht, h.v.keeps hk ho ht, h.o.keeps hk ho ht⟩
theorem RdC9.below {a : CA} {c : Cm} (h : RdC9 w a c) (hb : Below w.heap.size w w') : RdC9 w' a c := ⟨h.k.below hb, h.v.below hb, h.o.below hb⟩
theorem RdC9.rd {a : CA} {c : Cm} (h : RdC9 w a c) : RdC w w.heap.size a c := ⟨h.k.1, h.v.1, h.o.1⟩
theorem RdC9.of8 {base : Nat} {a : CA} {c : Cm} (h : RdC8 w base a c) : RdC9 w a c := ⟨.of8 h.k, .of8 h.v, .of8 h.o⟩
theorem RdC9.own {W : World} {a : CA} {c : Cm} (h : OwnC W w a c) : RdC9 w a c := ⟨.own h.k, .own h.v, .own h.o⟩
end
end Go.Proofs.YtaknfmionkkdjaaGreat

