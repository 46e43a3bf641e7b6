/- Many marks on one activation: a range over a function inside a loop leaves one a round. -/
import Derived.Test.YteafbljdlcbckaaRangeKit
namespace Go.Proofs.Yteafbljdlcbckaa
open Go.RowKit
set_option linter.unusedVariables false
namespace Mk
def mark (D : Nat) : Deferred := { target := .collected D, args := #[] }
/-- the blocks of Ds are open records of deferred calls, with none in them -/
structure Marks (base : Nat) (Ds : List Nat) (w : World) : Prop where
  nodup : Ds.Nodup
  rec_ : ∀ D ∈ Ds, w.heap[D]? = some (.deferred (some []))
  ge : ∀ D ∈ Ds, base ≤ D
theorem Marks.nil (base : Nat) (w : World) : Marks base [] w := ⟨List.nodup_nil, fun D h => by simp at h, fun D h => by simp at h⟩
theorem Marks.kept {base : Nat} {Ds : List Nat} {w w' : World} (h : Marks base Ds w) (hk : ∀ k : Nat, w.heap[k]? = some (.deferred (some [])) → w'.heap[k]? = some (.deferred (some []))) : Marks base Ds w' :=
  ⟨h.nodup, fun D hD => hk D (h.rec_ D hD), h.ge⟩
theorem Marks.below {base : Nat} {Ds : List Nat} {w w' : World} (h : Marks base Ds w) (hb : Below w.heap.size w w') : Marks base Ds w' :=
  h.kept fun k hk => (hb.block k (Array.getElem?_eq_some_iff.1 hk).1).trans hk
theorem Marks.cons {base : Nat} {Ds : List Nat} {w w' : World} {D : Nat} (h : Marks base Ds w) (hk : Marks base Ds w') (hD : w'.heap[D]? = some (.deferred (some []))) (hn : w.heap.size ≤ D) (hb : base ≤ D) : Marks base (D :: Ds) w' :=
  ⟨List.nodup_cons.2 ⟨fun hm => by have := (Array.getElem?_eq_some_iff.1 (h.rec_ D hm)).1; omega, h.nodup⟩, fun k hk' => by
    rcases List.mem_cons.1 hk' with rfl | h1
    · exact hD
    · exact hk.rec_ k h1, fun k hk' => by
    rcases List.mem_cons.1 hk' with rfl | h1
    · exact hb
    · exact h.ge k h1⟩
theorem leaves_marks {F : Fence} {n : Nat} {P : Program} {fn : Func} {tmps : Array Value} {R : Ending → World → Prop} : ∀ (Ds : List Nat) (w : World), Ds.Nodup → (∀ D ∈ Ds, w.heap[D]? = some (.deferred (some []))) →
    (∀ w' : World, w'.os = w.os → w'.tape = w.tape → w'.output = w.output → w'.heap.size = w.heap.size → (∀ k, k ∉ Ds → w'.heap[k]? = w.heap[k]?) → LeavesInM F n P fn tmps R [] .returning w') →
    LeavesInM F n P fn tmps R (Ds.map mark) .returning w
  | [], w, _, _, h => h w rfl rfl rfl rfl fun _ _ => rfl
  | D :: r, w, hn, hm, h => by
    obtain ⟨h1, h2⟩ := List.nodup_cons.1 hn
    refine ⟨by simp, .inl ⟨D, _, rfl, run_takeDeferred (hm D (by simp)), leaves_marks r _ h2 (fun k hk => ?_) (fun w' e1 e2 e3 e4 e5 => h w' (e1.trans rfl) (e2.trans rfl) (e3.trans rfl) (by rw [e4]; simp) fun k hk => ?_)⟩⟩
    · rw [World.putObj_heap_other (fun e => h1 (by rw [← e]; exact hk))]
      exact hm k (by simp [hk])
    · simp only [List.mem_cons, not_or] at hk
      rw [e5 k hk.2, World.putObj_heap_other hk.1]
end Mk
end Go.Proofs.Yteafbljdlcbckaa
