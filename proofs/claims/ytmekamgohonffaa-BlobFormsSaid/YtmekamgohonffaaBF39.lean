/- BlobRefEnc BlobPartsMath -/
import Derived.Test.YtmekamgohonffaaBF17
import Derived.Test.YtmekamgohonffaaBF25
import Derived.Test.YtmekamgohonffaaBF26
import Derived.Test.YtmekamgohonffaaBF35
import Derived.Test.YtmekamgohonffaaBF38
import Derived.Deep.RegionHeld3
import Derived.Deep.RegionLaw
namespace Go.Proofs.Ytmekamgohonffaa
open Go.RowKit
set_option linter.unusedVariables false
theorem En.enc_400 {e : En} (h : e.c.Fits) : e.enc.length ≤ 400 := by
  have k1 := (Pk.enc_length (Pk.held e.s)).2
  have k2 := (Pk.enc_length (Pk.held e.q)).2
  have k3 := (Pk.enc_length (Pk.held e.c.kind)).2
  have k4 := (Pk.enc_length (Pk.held e.c.who)).2
  have b1 := encB_length e.c.key
  have b2 := encB_length e.c.val
  have b3 := encB_length e.c.old
  have := h.key.1; have := h.val.1; have := h.old.1
  unfold En.enc
  simp only [List.length_append]
  omega
theorem encE_400 : ∀ (es : List En), (∀ e ∈ es, e.c.Fits) → (encE es).length ≤ 400 * es.length
  | [], _ => by simp [encE]
  | e :: es, h => by
    have h1 := En.enc_400 (h e (by simp))
    have h2 := encE_400 es (fun x hx => h x (List.mem_cons_of_mem _ hx))
    unfold encE at h2 ⊢
    rw [List.flatMap_cons, List.length_append, List.length_cons]; omega
theorem En.enc_lt0 {e : En} (h : e.c.Fits) : ∀ x ∈ e.enc, x < 256 := by
  intro x hx
  unfold En.enc at hx
  have hb : ∀ {l : List Nat}, l.length ≤ 100 → (∀ y ∈ l, y < 256) → ∀ x ∈ Pk.encB l, x < 256 := fun h1 h2 => Pk.encB_lt h2 (by unfold Pk.top; omega)
  have hn : ∀ z : Int, ∀ x ∈ Pk.enc (Pk.held z), x < 256 := fun z => Pk.enc_lt (Pk.held_le _)
  simp only [List.mem_append] at hx
  rcases hx with hx | hx | hx | hx | hx | hx | hx
  · exact hn _ x hx
  · exact hn _ x hx
  · exact hn _ x hx
  · exact hn _ x hx
  · exact hb h.key.1 h.key.2 x hx
  · exact hb h.val.1 h.val.2 x hx
  · exact hb h.old.1 h.old.2 x hx
theorem Sb.Fine.body_facts {s : Sb} (h : s.Fine) : s.body.length ≤ 500000 ∧ ∀ x ∈ s.body, x < 256 := by
  have h1 := (Pk.enc_length (Pk.held s.pos)).2
  have h2 := encB_length s.m.enc
  have h3 := h.m.enc_length
  have h4 := encN_length s.rest.length
  have h5 := encE_400 s.rest h.c
  have h6 := h.n
  refine ⟨by unfold Sb.body; simp only [List.length_append]; omega, fun x hx => ?_⟩
  unfold Sb.body at hx
  simp only [List.mem_append] at hx
  rcases hx with hx | hx | hx | hx
  · exact Pk.enc_lt (Pk.held_le _) x hx
  · exact Pk.encB_lt h.m.enc_lt (by unfold Pk.top; omega) x hx
  · exact encN_lt _ x hx
  · obtain ⟨e, he, hxe⟩ := List.mem_flatMap.1 hx
    exact En.enc_lt0 (h.c e he) x hxe
theorem encE_take {es : List En} {k : Nat} {e : En} (h : es[k]? = some e) : encE (es.take (k + 1)) = encE (es.take k) ++ e.enc := by
  rw [List.take_add_one, h, ← encE_snoc]; rfl
end Go.Proofs.Ytmekamgohonffaa

namespace Go.Proofs.Ytmekamgohonffaa
set_option linter.unusedVariables false
theorem Sb.part_step {b : List Nat} {j : Nat} (h : j < b.length) : Sb.part b (j : Int) = some ((b.drop j).take 64) ∧ b.take j ++ (b.drop j).take 64 = b.take (j + 64) ∧ ((b.drop j).take 64).length = min 64 (b.length - j) := by
  refine ⟨?_, ?_, by rw [List.length_take, List.length_drop]⟩
  · unfold Sb.part
    rw [if_neg (by omega), Int.toNat_natCast]
  · rw [List.take_add]
theorem Sb.part_stop {b : List Nat} {j : Nat} (h : b.length ≤ j) : Sb.part b (j : Int) = none := by
  unfold Sb.part
  rw [if_pos (by omega)]
theorem Sb.dec_none {l : List Nat} (h : Fr.unf l = none) : Sb.dec l = none := by
  unfold Sb.dec Sb.good
  rw [h]; simp
theorem Sb.Fine.enc_facts {s : Sb} (h : s.Fine) : (∀ x ∈ s.enc, x < 256) ∧ 4 ≤ s.enc.length ∧ s.enc.length = s.body.length + 4 := by
  have hb := h.body_facts
  have hf := Fr.lay_len s.body
  refine ⟨?_, ?_, ?_⟩
  · intro x hx
    unfold Sb.enc Fr.lay at hx
    rcases List.mem_append.1 hx with hx | hx
    · exact Fr.four_lt _ x hx
    · exact hb.2 x hx
  · unfold Sb.enc; omega
  · unfold Sb.enc; omega
end Go.Proofs.Ytmekamgohonffaa

