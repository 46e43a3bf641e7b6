/- OwnrefKit MapsInv -/
import Derived.Test.YtmekamgohonffaaGreatBT00
import Derived.Test.YtmekamgohonffaaGreatBT02
import Derived.Test.YtmekamgohonffaaGreatBT04
namespace Go.Proofs.YtmekamgohonffaaGreat
open Go.RowKit
set_option linter.unusedVariables false
set_option maxRecDepth 100000 in
theorem ownref_raw (l : List Nat) (A : Option Addr) (n c B : Nat) (hn : Lim 0 n) (w : World) (hr : Rd w B A n (bv l)) :
 Calls Tryz.prog 101 #[.slice A n c] w (GotB w l) := by
 have hn := hn.out
 have H := hD hr.fit
 have hB0 : Below w.heap.size w w := Below.refl _ _
 clear hr
 go_enter Tryz.func101, Tryz.ntmps101
 go_wp2_with (first
  | (at_builtin
     refine wpList_append_bytes (W := w) byteT (.tmp 3) (.tmp 4) rfl (by rfl) rfl (own_empty hB0 5) rfl ((H.out).alloc lR _) (by omega) (hB0.alloc lR _) ?_
     intro A1 c1 w1 hown1 hr1 hB1
     simp only [Nat.zero_add, List.nil_append] at hown1 hr1)
  | fail)
 go_ret
 exact ⟨_, _, _, rfl, hown1, hB1⟩
theorem ownref_any {W w : World} {l : List Nat} {A : Option Addr} {n c B : Nat} (hn : Lim 0 n) (hr : Rd w B A n (bv l)) (hB : Below W.heap.size W w) :
 Calls Tryz.prog 101 #[.slice A n c] w (GotIn W w l) :=
 (ownref_raw l A n c B hn w hr).mono fun e w' h => GotIn.of hB h
namespace Mp
theorem rises_keys {ps : List Pr} : Rises ps ↔ (keys ps).Pairwise fun a b => ltB a b = true := by
 unfold Rises keys; rw [List.pairwise_map]
theorem cut_sides {ps : List Pr} {k : List Nat} (hr : Rises ps) (hk : k ∉ keys ps) : (∀ p ∈ ps.take (cut ps k), ltB p.1 k = true) /\ ∀ p ∈ ps.drop (cut ps k), ltB k p.1 = true := by
 unfold cut
 induction ps with
 | nil => simp
 | cons q ps ih =>
   have hr' := List.pairwise_cons.1 hr
   have hk' : k ≠ q.1 /\ k ∉ keys ps := by simpa [keys] using hk
   cases hq : ltB q.1 k with
   | true =>
     have ih' := ih hr'.2 hk'.2
     simp only [List.takeWhile_cons, hq, if_true, List.length_cons, List.take_succ_cons, List.drop_succ_cons]
     refine ⟨fun p hp => ?_, ih'.2⟩
     rcases List.mem_cons.1 hp with rfl | hp
     · exact hq
     · exact ih'.1 p hp
   | false =>
     simp only [List.takeWhile_cons, hq, Bool.false_eq_true, if_false, List.length_nil, List.take_zero, List.drop_zero]
     have hqk : ltB k q.1 = true := by
      cases h : ltB k q.1 with
      | true => rfl
      | false => exact absurd (ltB_total h hq) hk'.1
     refine ⟨by simp, fun p hp => ?_⟩
     rcases List.mem_cons.1 hp with rfl | hp
     · exact hqk
     · exact ltB_trans hqk (hr'.1 p hp)
structure Inv (ps : List Pr) : Prop where
 rise : Rises ps
 few : ps.length <= 8
 len : ∀ p ∈ ps, p.1.length <= 8 /\ p.2.length <= 16
 byt : ∀ p ∈ ps, (∀ x ∈ p.1, x < 256) /\ ∀ x ∈ p.2, x < 256
theorem Inv.nil : Inv [] := ⟨List.Pairwise.nil, by simp, by simp, by simp⟩
theorem keys_set {ps : List Pr} {i : Nat} {k v : List Nat} (h : (keys ps)[i]? = some k) : keys (ps.set i (k, v)) = keys ps := by
 unfold keys at h |-
 rw [List.map_set]
 apply List.ext_getElem?
 intro j
 by_cases hij : i = j
 · subst hij
   have hlt : i < (ps.map (·.1)).length := by
    rcases Nat.lt_or_ge i (ps.map (·.1)).length with h' | h'
    · exact h'
    · rw [List.getElem?_eq_none h'] at h; cases h
   rw [List.getElem?_set_self hlt, h]
 · rw [List.getElem?_set_ne hij]
theorem Inv.put {ps : List Pr} {k v : List Nat} (h : Inv ps) (hk : ∀ x ∈ k, x < 256) (hv : ∀ x ∈ v, x < 256) : Inv (putS ps k v) := by
 unfold putS
 by_cases hlong : 8 < k.length \/ 16 < v.length
 · rw [if_pos hlong]; exact h
 · rw [if_neg hlong]
   by_cases hin : k ∈ keys ps
   · rw [if_pos hin]
     obtain ⟨i, _, hi, hix⟩ := place_lt hin
     rw [hix]
     refine ⟨?_, by simp; exact h.few, fun p hp => ?_, fun p hp => ?_⟩
     · rw [rises_keys, keys_set hi, <- rises_keys]; exact h.rise
     · rcases List.mem_or_eq_of_mem_set hp with hp | rfl
       · exact h.len p hp
       · exact ⟨by simp; omega, by simp; omega⟩
     · rcases List.mem_or_eq_of_mem_set hp with hp | rfl
       · exact h.byt p hp
       · exact ⟨hk, hv⟩
   · rw [if_neg hin]
     by_cases hf : 8 <= ps.length
     · rw [if_pos hf]; exact h
     · rw [if_neg hf]
       obtain ⟨s1, s2⟩ := cut_sides h.rise hin
       have hc := cut_le ps k
       have hm : ∀ p, p ∈ ps.take (cut ps k) ++ (k, v) :: ps.drop (cut ps k) -> p ∈ ps \/ p = (k, v) := fun p hp => by
        rcases List.mem_append.1 hp with hp | hp
        · exact .inl (List.mem_of_mem_take hp)
        · rcases List.mem_cons.1 hp with hp | hp
          · exact .inr hp
          · exact .inl (List.mem_of_mem_drop hp)
       refine ⟨?_, by simp; omega, fun p hp => ?_, fun p hp => ?_⟩
       · unfold Rises
         rw [List.pairwise_append]
         refine ⟨h.rise.sublist (List.take_sublist _ _), ?_, fun p hp q hq => ?_⟩
         · rw [List.pairwise_cons]
           exact ⟨fun q hq => s2 q hq, h.rise.sublist (List.drop_sublist _ _)⟩
         · rcases List.mem_cons.1 hq with rfl | hq
           · exact s1 p hp
           · exact ltB_trans (s1 p hp) (s2 q hq)
       · rcases hm p hp with hp | rfl
         · exact h.len p hp
         · exact ⟨by simp; omega, by simp; omega⟩
       · rcases hm p hp with hp | rfl
         · exact h.byt p hp
         · exact ⟨hk, hv⟩
theorem Inv.del {ps : List Pr} {k : List Nat} (h : Inv ps) : Inv (delS ps k) := by
 unfold delS
 split
 · have hs := List.eraseIdx_sublist ps (idx (keys ps) k)
   exact ⟨h.rise.sublist hs, Nat.le_trans hs.length_le h.few, fun p hp => h.len p (hs.subset hp), fun p hp => h.byt p (hs.subset hp)⟩
 · exact h
theorem getV_mem {ps : List Pr} {k : List Nat} : getV ps k = [] \/ ∃ p ∈ ps, getV ps k = p.2 := by
 unfold getV
 split
 · cases h : ps[idx (keys ps) k]? with
   | none => exact .inl rfl
   | some p => exact .inr ⟨p, List.mem_of_getElem? h, rfl⟩
 · exact .inl rfl
theorem putV_mem {ps : List Pr} {k v : List Nat} : putV ps k v = [] \/ ∃ p ∈ ps, putV ps k v = p.2 := by
 unfold putV
 split
 · exact .inl rfl
 · split
   · cases h : ps[idx (keys ps) k]? with
     | none => exact .inl rfl
     | some p => exact .inr ⟨p, List.mem_of_getElem? h, rfl⟩
   · exact .inl rfl
end Mp
end Go.Proofs.YtmekamgohonffaaGreat
