/- KeepsKit -/
import Derived.Test.YtneehnoolhadbaaGP01
namespace Go.Proofs.Ytneehnoolhadbaa
open Go.RowKit
set_option linter.unusedVariables false
/-- from w to w' no block but those of S is turned -/
structure Keeps (S : Nat → Prop) (w w' : World) : Prop where
  os : w'.os = w.os
  tape : w'.tape = w.tape
  output : w'.output = w.output
  size : w.heap.size ≤ w'.heap.size
  block : ∀ k, k < w.heap.size → ¬ S k → w'.heap[k]? = w.heap[k]?
/-- the blocks of S hold elements of T -/
def Of (S : Nat → Prop) (T : List TypeId) (w : World) : Prop := ∀ k, S k → k < w.heap.size → ∃ cs t fr, w.heap[k]? = some (.cells cs t fr) ∧ t ∈ T
section
variable {S S' : Nat → Prop} {T : List TypeId} {w w' w'' : World}
theorem Keeps.refl (S : Nat → Prop) (w : World) : Keeps S w w := ⟨rfl, rfl, rfl, Nat.le_refl _, fun _ _ _ => rfl⟩
theorem Keeps.trans (h : Keeps S w w') (h' : Keeps S' w' w'') (hs : ∀ k, S' k → k < w.heap.size → S k) : Keeps S w w'' :=
  ⟨h'.os.trans h.os, h'.tape.trans h.tape, h'.output.trans h.output, Nat.le_trans h.size h'.size, fun k hk hn => (h'.block k (Nat.lt_of_lt_of_le hk h.size) (fun hx => hn (hs k hx hk))).trans (h.block k hk hn)⟩
theorem Keeps.mono (h : Keeps S w w') (hs : ∀ k, S k → S' k) : Keeps S' w w' := ⟨h.os, h.tape, h.output, h.size, fun k hk hn => h.block k hk (fun hx => hn (hs k hx))⟩
theorem Keeps.of_below (h : Below w.heap.size w w') : Keeps S w w' := ⟨h.os, h.tape, h.output, h.size, fun k hk _ => h.block k hk⟩
theorem Keeps.of_only {b : Nat} (h : w.grownBy w' (some b)) (hb : S b) : Keeps S w w' := ⟨h.os, h.tape, h.output, h.size, fun k hk hn => h.block k hk (fun e => hn (by injection e with e; rw [e]; exact hb))⟩
theorem Keeps.below (h : Keeps S w w') {W : World} (hB : Below W.heap.size W w) (hs : ∀ k, S k → W.heap.size ≤ k) : Below W.heap.size W w' := by
  refine ⟨h.os.trans hB.os, h.tape.trans hB.tape, h.output.trans hB.output, Nat.le_trans hB.size h.size, fun k hk => ?_⟩
  exact (h.block k (Nat.lt_of_lt_of_le hk hB.size) (fun hx => by have := hs k hx; omega)).trans (hB.block k hk)
theorem Blk.keeps {g : Nat} {t : TypeId} {cs : Array Value} (h : Blk w g t cs) (hk : Keeps S w w') (hn : ¬ S g) : Blk w' g t cs := (hk.block g h.lt hn).trans h
theorem Of.not {g : Nat} {t : TypeId} {cs : Array Value} {fr : Nat × Nat} (h : Of S T w) (hb : w.heap[g]? = some (.cells cs t fr)) (ht : t ∉ T) : ¬ S g := fun hs => by
  obtain ⟨cs', t', fr', q1, q2⟩ := h g hs (Array.getElem?_eq_some_iff.1 hb).1
  rw [hb] at q1
  injection q1 with q1
  injection q1 with _ q1
  exact ht (q1 ▸ q2)
theorem ownsRow_keeps {base size n : Nat} {e : TypeId} {v : Value} {xs : List Value} (h : w.ownsRow base e size v n xs) (hk : Keeps S w w') (ho : Of S T w) (ht : e ∉ T) : w'.ownsRow base e size v n xs := by
  refine ⟨h.1, ?_⟩
  rcases h.2 with h2 | ⟨g, cap, cur, q1, q2, q3, q4⟩
  · exact .inl h2
  · exact .inr ⟨g, cap, cur, q1, q2, (hk.block g (Array.getElem?_eq_some_iff.1 q3).1 (ho.not q3 ht)).trans q3, q4⟩
end
/-- from w to w' only blocks of S were turned; those of S' are of S, or new -/
structure Adv (S : Nat → Prop) (w : World) (S' : Nat → Prop) (w' : World) : Prop where
  keeps : Keeps S w w'
  grow : ∀ q, S' q → S q ∨ w.heap.size ≤ q
section
variable {S S' S'' : Nat → Prop} {w w' w'' : World}
theorem Adv.refl (S : Nat → Prop) (w : World) : Adv S w S w := ⟨Keeps.refl _ _, fun _ h => .inl h⟩
theorem Adv.of_below (S : Nat → Prop) (h : Below w.heap.size w w') : Adv S w S w' := ⟨Keeps.of_below h, fun _ h => .inl h⟩
theorem Adv.trans (h : Adv S w S' w') (h' : Adv S' w' S'' w'') : Adv S w S'' w'' :=
  ⟨h.keeps.trans h'.keeps (fun q hq hlt => (h.grow q hq).resolve_right (by omega)), fun q hq => by
    rcases h'.grow q hq with h1 | h1
    · exact h.grow q h1
    · exact .inr (Nat.le_trans h.keeps.size h1)⟩
end
end Go.Proofs.Ytneehnoolhadbaa

