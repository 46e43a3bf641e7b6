/- Literal states, and rows of them. -/
import Derived.Test.YtjindkeojhihdaaViewRow
import Derived.Great.BuildSlice
namespace Go.Proofs.Ytjindkeojhihdaa
open Go.RowKit
set_option linter.unusedVariables false
/-- a message's cells, with nothing but what counts -/
def stC (k f i l : Int) (h : Bool) : List Value := [.int .i64 k, .int .i64 f, .int .i64 0, .int .i64 0, .int .i64 i, .int .i64 l, .bool h, .int .i64 0, .int .i64 0, .int .i64 0, .int .i64 0, .slice none 0 0, .int .i64 0, .int .i64 0, .slice none 0 0, .slice none 0 0, .int .i64 0, .int .i64 0, .int .i64 0, .int .i64 0, .int .i64 0, .slice none 0 0, .slice none 0 0, .slice none 0 0]
theorem stC_ms {k f i l : Int} {h : Bool} (hi : Vw.lo ≤ i) : Ms (stC k f i l h) := by
  refine ⟨rfl, ?_, rfl, rfl, rfl, rfl, rfl, hi⟩
  intro u hu
  unfold stC at hu
  simp only [List.mem_cons, List.not_mem_nil, or_false] at hu
  rcases hu with rfl | rfl | rfl | rfl | rfl | rfl | rfl | rfl | rfl | rfl | rfl | rfl | rfl | rfl | rfl | rfl | rfl | rfl | rfl | rfl | rfl | rfl | rfl | rfl <;> rfl
/-- a literal of several messages -/
theorem wpList_buildV {ops : Array Oper} {rest : List Oper} {o : Oper} {a : Act} {w : World} {Q : Exit → Act → World → Prop} (hgd : o.guard = none) (n : Nat) (parts : Array (Nat × Operand)) (ho : o.op = .buildSlice 31 n parts)
    (es : List (List Value)) (hes : ∀ cs ∈ es, cs.length = 24) (hn : es.length = n) (hn0 : 0 < n) (hn9 : n ≤ 100) (hp : (parts.map fun (i, x) => (i, a.eval x)).toList = (es.map fun cs => Value.agg cs.toArray).zipIdx.map fun x => (x.2, x.1))
    (h : wpList Try.prog ops Q rest (a.put o.dst (.slice (some ⟨w.heap.size, 0, none⟩) n n)) (w.alloc (.cells es.flatten.toArray 29))) : wpList Try.prog ops Q (o :: rest) a w := by
  obtain ⟨ie, z, g1, g2, g3⟩ : ∃ ie z, (Try.prog).info? 29 = some ie ∧ ie.zero = some z ∧ ie.size = 24 := ⟨_, _, rfl, rfl, by kernel_rfl⟩
  obtain ⟨r, hr, hrs, hk⟩ := Great.fill_dense (s := 24) (by omega) (es.map fun cs => Value.agg cs.toArray) 0 ((Array.range (n * 24)).map (z.cells[· % z.cells.size]!)) (by
    intro v hv
    obtain ⟨cs, hc, rfl⟩ := List.mem_map.1 hv
    simp [Value.cells, hes cs hc]) (by simp [hn])
  have hsz : r.size = n * 24 := by rw [hrs]; simp
  have hre : r = es.flatten.toArray := by
    apply Array.ext_getElem?
    intro k
    rw [hk k, List.length_map, hn]
    by_cases hlt : k < n * 24
    · rw [if_pos (by omega)]
      have hj : k / 24 < es.length := by omega
      have hg : es[k / 24]? = some es[k / 24] := List.getElem?_eq_getElem hj
      have := flatM_get hes hg (j := k % 24) (by omega)
      rw [show k / 24 * 24 + k % 24 = k by omega] at this
      rw [Nat.sub_zero, List.getElem?_map, hg, Option.map_some, Option.bind_some]
      simp [Value.cells, this]
    · rw [if_neg (by omega), Array.getElem?_eq_none (by simp; omega), List.getElem?_toArray, List.getElem?_eq_none (by rw [flatM_len hes, hn]; omega)]
  refine wpList_plain hgd fun K hK => ?_
  refine wp_buildSlice 31 29 n parts ho r ie z Try.underlying31 g1 g2 (by rw [g3]; omega) (by rw [g3]; omega) (by rw [g3, hp]; exact hr) ?_
  rw [hre]
  exact hK _ _ h
theorem litV (w : World) (es : List (List Value)) (hm : ∀ cs ∈ es, Ms cs) : RdV (w.alloc (.cells es.flatten.toArray 29)) (w.heap.size + 1) (some ⟨w.heap.size, 0, none⟩) es.length es := by
  refine ⟨rfl, ?_, hm⟩
  have := Rd.made w es.flatten.toArray 29 (0, 0) (es.length * 24) (by simp only [List.size_toArray]; exact flatM_len (fun cs hc => (hm cs hc).len))
  simpa using this
end Go.Proofs.Ytjindkeojhihdaa
