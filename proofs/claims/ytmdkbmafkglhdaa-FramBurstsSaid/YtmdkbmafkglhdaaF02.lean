/- CrcBurst RegionT -/
import Derived.Test.YtmdkbmafkglhdaaF01
import Derived.Deep.RegionHeld
import Derived.StillTail
namespace Go.Proofs.Ytmdkbmafkglhdaa
namespace Crc
theorem lay_get (l m : List Nat) (h : l.length = m.length) (j : Nat) (hj : j < l.length) : (lay l m)[j]? = some (l.getD j 0 ^^^ m.getD j 0) := by
  induction l generalizing m j with
  | nil => simp at hj
  | cons x l ih => cases m with
    | nil => simp at h
    | cons y m => cases j with
      | zero => simp [lay]
      | succ j => simpa [lay] using ih m (by simpa using h) j (by simpa using hj)
theorem lay_map (l m : List Nat) (d : Nat → Nat) (h : l.length = m.length) (hd : ∀ j, j < l.length → l.getD j 0 = m.getD j 0 ^^^ d j) : lay l m = (List.range l.length).map d := by
  apply List.ext_getElem?
  intro j
  rcases Nat.lt_or_ge j l.length with hj | hj
  · rw [lay_get l m h j hj, List.getElem?_map, List.getElem?_range hj, hd j hj, Nat.xor_comm (m.getD j 0), Nat.xor_assoc, Nat.xor_self, Nat.xor_zero]
    rfl
  · rw [List.getElem?_eq_none (by rw [lay_length l m h]; exact hj), List.getElem?_eq_none (by simpa using hj)]
theorem zeros_of (n : Nat) (d : Nat → Nat) (h : ∀ j, j < n → d j = 0) : (List.range n).map d = List.replicate n 0 := by
  rw [List.eq_replicate_iff]
  exact ⟨by simp, fun b hb => by obtain ⟨j, hj, rfl⟩ := List.mem_map.1 hb; exact h j (List.mem_range.1 hj)⟩
theorem split_map (a b : Nat) (d : Nat → Nat) : (List.range (a + b)).map d = (List.range a).map d ++ (List.range b).map fun i => d (a + i) := by
  rw [List.range_add, List.map_append, List.map_map]; rfl
theorem run_map_lt (n : Nat) (d : Nat → Nat) (h8 : ∀ j, d j < 256) {c : Nat} (hc : c < 4294967296) : run c ((List.range n).map d) < 4294967296 :=
  run_lt _ hc (fun x hx => by obtain ⟨j, _, rfl⟩ := List.mem_map.1 hx; exact h8 j)
/-- four turns, and no more -/
theorem run_four (m : Nat) (d : Nat → Nat) (h8 : ∀ j, d j < 256) (h0 : ∀ j, 4 ≤ j → d j = 0) : run 0 ((List.range m).map d) = 0 ↔ ∀ i, i < 4 → i < m → d i = 0 := by
  have key : ∀ E : Nat → Nat, (∀ j, E j < 256) → (∀ j, 4 ≤ j → E j = 0) → ∀ m, run 0 ((List.range (4 + m)).map E) = 0 ↔ E 0 = 0 ∧ E 1 = 0 ∧ E 2 = 0 ∧ E 3 = 0 := by
    intro E e8 e0 m
    rw [split_map, run_app, zeros_of m _ (fun j _ => e0 _ (by omega)), run_zeros m (run_map_lt 4 E e8 (by omega))]
    constructor
    · intro h; exact four (e8 _) (e8 _) (e8 _) (e8 _) h
    · rintro ⟨a, b, c, e⟩
      rw [zeros_of 4 E (by intro j hj; have : j = 0 ∨ j = 1 ∨ j = 2 ∨ j = 3 := by omega
                           rcases this with rfl | rfl | rfl | rfl <;> assumption)]
      decide
  have hE := key (fun i => if i < m then d i else 0) (fun j => by split; exact h8 j; omega) (fun j hj => by split; exact h0 j hj; rfl) m
  have e : (List.range (4 + m)).map (fun i => if i < m then d i else 0) = (List.range m).map d ++ List.replicate 4 0 := by
    rw [Nat.add_comm, split_map]
    congr 1
    · apply List.map_congr_left
      intro i hi
      rw [if_pos (List.mem_range.1 hi)]
    · exact zeros_of 4 _ (fun j _ => by rw [if_neg (by omega)])
  rw [e, run_app, run_zeros 4 (run_map_lt m d h8 (by omega))] at hE
  rw [hE]
  constructor
  · rintro ⟨a, b, c, f⟩ i hi him
    have : i = 0 ∨ i = 1 ∨ i = 2 ∨ i = 3 := by omega
    rcases this with rfl | rfl | rfl | rfl
    · simpa [him] using a
    · simpa [him] using b
    · simpa [him] using c
    · simpa [him] using f
  · intro h
    refine ⟨?_, ?_, ?_, ?_⟩ <;> (split; exact h _ (by omega) ‹_›; rfl)
theorem burst (l y : List Nat) (hlen : y.length = l.length) (q : Nat) (hq : q ≤ l.length) (d : Nat → Nat) (hd : ∀ j, j < l.length → y.getD j 0 = l.getD j 0 ^^^ d j)
    (h0 : ∀ j, j < q ∨ q + 4 ≤ j → d j = 0) (h8 : ∀ j, d j < 256) : sum y = sum l ↔ ∀ i, i < 4 → q + i < l.length → d (q + i) = 0 := by
  have e1 : run 0 (lay y l) = run 4294967295 y ^^^ run 4294967295 l := by
    rw [← run_lay _ _ _ _ hlen, Nat.xor_self]
  rw [sum_eq, ← xor_eq_zero, ← e1, lay_map y l d hlen (by rw [hlen]; exact hd), hlen]
  obtain ⟨m, hm⟩ : ∃ m, l.length = q + m := ⟨l.length - q, by omega⟩
  rw [hm, split_map, run_app, zeros_of q d (fun j hj => h0 j (.inl hj)), (run_zeros q (c := 0) (by omega)).2 rfl, run_four m _ (fun j => h8 _) (fun j hj => h0 _ (.inr (by omega)))]
  exact ⟨fun h i hi hm' => h i hi (by omega), fun h i hi hm' => h i hi (by omega)⟩

/-- the turns of four bytes from q on, as the law makes them -/
def yto (l : List Nat) (q : Nat) (t : Nat → Nat) : Nat → List Nat
  | 0 => l
  | i + 1 => if q + i < l.length then (yto l q t i).set (q + i) ((yto l q t i).getD (q + i) 0 ^^^ t i) else yto l q t i
def tto (n q : Nat) (t : Nat → Nat) : Nat → Bool
  | 0 => false
  | i + 1 => if q + i < n then tto n q t i || (t i != 0) else tto n q t i
theorem yto_length (l : List Nat) (q : Nat) (t : Nat → Nat) (i : Nat) : (yto l q t i).length = l.length := by
  induction i with
  | zero => rfl
  | succ i ih => unfold yto; split
                 · rw [List.length_set, ih]
                 · exact ih
theorem yto_get (l : List Nat) (q : Nat) (t : Nat → Nat) (i j : Nat) (hj : j < l.length) : (yto l q t i).getD j 0 = l.getD j 0 ^^^ (if q ≤ j ∧ j < q + i then t (j - q) else 0) := by
  induction i with
  | zero => rw [if_neg (by omega), Nat.xor_zero]; rfl
  | succ i ih =>
    unfold yto
    split
    · rename_i hlt
      rw [List.getD_eq_getElem?_getD, List.getElem?_set]
      by_cases h : q + i = j
      · subst h
        rw [if_pos rfl, if_pos (by rw [yto_length]; exact hj), ih, if_neg (by omega), if_pos (by omega), Nat.xor_zero]
        simp
      · rw [if_neg h, ← List.getD_eq_getElem?_getD, ih]
        by_cases h2 : q ≤ j ∧ j < q + i
        · rw [if_pos h2, if_pos (by omega)]
        · rw [if_neg h2, if_neg (by omega)]
    · rw [ih]
      by_cases h2 : q ≤ j ∧ j < q + i
      · rw [if_pos h2, if_pos (by omega)]
      · rw [if_neg h2, if_neg (by omega)]
theorem yto_lt (l : List Nat) (hl : ∀ x ∈ l, x < 256) (q : Nat) (t : Nat → Nat) (ht : ∀ i, t i < 256) (i : Nat) : ∀ x ∈ yto l q t i, x < 256 := by
  intro x hx
  obtain ⟨j, hj, rfl⟩ := List.getElem_of_mem hx
  have hj' : j < l.length := by rw [yto_length] at hj; exact hj
  have e := yto_get l q t i j hj'
  rw [List.getD_eq_getElem?_getD, List.getElem?_eq_getElem hj] at e
  rw [show (yto l q t i)[j] = ((some (yto l q t i)[j]).getD 0) from rfl, e]
  apply xor_lt8
  · rw [List.getD_eq_getElem?_getD, List.getElem?_eq_getElem hj']; exact hl _ (List.getElem_mem hj')
  · split
    · exact ht _
    · omega
theorem tto_false (n q : Nat) (t : Nat → Nat) (i : Nat) : tto n q t i = false ↔ ∀ k, k < i → q + k < n → t k = 0 := by
  induction i with
  | zero => simp [tto]
  | succ i ih =>
    unfold tto
    constructor
    · intro h k hk hn
      split at h
      · rw [Bool.or_eq_false_iff, ih] at h
        rcases Nat.lt_or_ge k i with h' | h'
        · exact h.1 k h' hn
        · obtain rfl : k = i := by omega
          simpa using h.2
      · exact (ih.1 h) k (by omega) hn
    · intro h
      split
      · rw [Bool.or_eq_false_iff]
        exact ⟨ih.2 fun k hk hn => h k (by omega) hn, by rw [h i (by omega) ‹_›]; rfl⟩
      · exact ih.2 fun k hk hn => h k (by omega) hn
/-- what is turned within four bytes has another sum, just if something was turned -/
theorem turned (l : List Nat) (q : Nat) (hq : q ≤ l.length) (t : Nat → Nat) (ht : ∀ i, t i < 256) : sum (yto l q t 4) = sum l ↔ tto l.length q t 4 = false := by
  rw [tto_false, burst l (yto l q t 4) (yto_length _ _ _ _) q hq (fun j => if q ≤ j ∧ j < q + 4 then t (j - q) else 0) (fun j hj => yto_get l q t 4 j hj)
    (fun j hj => if_neg (by omega)) (fun j => by split; exact ht _; omega)]
  constructor
  · intro h k hk hn
    have := h k hk hn
    rw [if_pos (by omega)] at this
    simpa using this
  · intro h i hi hn
    rw [if_pos (by omega)]
    simpa using h i hi hn
/-- one bit -/
theorem one_bit (l : List Nat) (q : Nat) (hq : q < l.length) (b : Nat) (hb : b < 256) (h0 : b ≠ 0) : sum (l.set q (l.getD q 0 ^^^ b)) ≠ sum l := by
  intro h
  have := (burst l (l.set q (l.getD q 0 ^^^ b)) (by simp) q (by omega) (fun j => if j = q then b else 0) (fun j hj => by
    rw [List.getD_eq_getElem?_getD, List.getElem?_set]
    by_cases hjq : q = j
    · subst hjq; rw [if_pos rfl, if_pos hq, if_pos rfl]; simp
    · rw [if_neg hjq, if_neg (by omega), Nat.xor_zero, List.getD_eq_getElem?_getD])
    (fun j hj => if_neg (by omega)) (fun j => by split; exact hb; omega)).1 h 0 (by omega) (by omega)
  simp at this
  exact h0 this
end Crc
end Go.Proofs.Ytmdkbmafkglhdaa

namespace Go.Proofs.Ytmdkbmafkglhdaa
set_option linter.unusedVariables false
section
variable {P : Program} {md : Region.Mode} {ops : Array Oper} {Q : Exit → Act → World → Prop} {S : World → Prop} {n : Nat}
/-- S holds behind each operation but n -/
def AnyT (P : Program) (md : Region.Mode) (ops : Array Oper) (Q : Exit → Act → World → Prop) (S : World → Prop) (n : Nat) : Nat → Array Bool → Act → World → Prop
  | 0, listed, a, w => Region.ready md ops listed = [] ∧ Q .normal a w
  | fuel + 1, listed, a, w => (Region.ready md ops listed = [] → Q .normal a w) ∧
      ∀ i ∈ Region.ready md ops listed, wpOp P ops Q i (fun a' w' => (i = n ∨ S w') ∧ AnyT P md ops Q S n fuel (listed.setIfInBounds i true) a' w') a w
theorem AnyT.any : ∀ (fuel : Nat) (listed : Array Bool) (a : Act) (w : World), AnyT P md ops Q S n fuel listed a w → wpAny P md ops Q fuel listed a w := by
  intro fuel
  induction fuel with
  | zero => exact fun _ _ _ h => h
  | succ fuel ih => exact fun listed a w h => ⟨h.1, fun i hi => wpOp_mono (fun a' w' h' => ih _ _ _ h'.2) (h.2 i hi)⟩
theorem region_T {id : Nat} {a : Act} {w : World} (hm : P.follows .mixedOrders = true) (h : AnyT P .any ops Q S n ops.size (Array.replicate ops.size false) a w.drew) : (Code.region id ops true).wp P Q a w :=
  wp_region_any hm (AnyT.any _ _ _ _ h)
/-- no order lets n come ahead of what it waits for -/
theorem not_last {i j : Nat} {listed : Array Bool} (hw : Region.waitsFor md ops n i = true) (hi : i ∈ Region.ready md ops listed) (hj : j ∈ Region.ready md ops listed) : j ≠ n := by
  intro e
  subst e
  obtain ⟨oj, hoj, x, hx, hb, hon⟩ := Region.waitsFor_spec hw
  obtain ⟨_, oj', hoj', hall⟩ := mem_ready.1 hj
  rw [hoj] at hoj'
  injection hoj' with hoj'
  subst hoj'
  have h1 := hall x hx hb
  have h0 := (mem_ready.1 hi).1
  rw [hon] at h1
  rcases Nat.lt_or_ge i listed.size with h' | h'
  · simp [h'] at h0 h1; rw [h0] at h1; cases h1
  · simp [Array.getElem?_eq_none h'] at h1
/-- what yields v wherever S holds may come first, if n waits for it -/
theorem AnyT.first {i : Nat} {oi : Oper} {v : Value} (hi : ops[i]? = some oi) (hsel : Region.noSelect ops = true) (hw : Region.waitsFor md ops n i = true) (hQ : ∀ c a w, Q (.panic c) (a.put oi.dst v) w → Q (.panic c) a w) :
    ∀ (fuel : Nat) (listed : Array Bool) (a : Act) (w : World),
      (∀ j oj, ops[j]? = some oj → j ≠ i → listed.getD j true = false → (∀ e ∈ oj.after, Region.binds md e = true → e.on ≠ i) → oi.apart ops oj = true) →
      i ∈ Region.ready md ops listed → YieldsIf P ops S oi v a → S w → AnyT P md ops Q S n fuel (listed.setIfInBounds i true) (a.put oi.dst v) w → AnyT P md ops Q S n (fuel + 1) listed a w := by
  have sel := Region.noSelect_spec hsel
  intro fuel
  induction fuel with
  | zero =>
    intro listed a w _ hr hy hS H
    refine ⟨fun h => absurd hr (by rw [h]; simp), fun j hj => ?_⟩
    by_cases hji : j = i
    · rw [hji]; exact hy.wpOp hi hS ⟨.inr hS, by rw [← hji] at H ⊢; exact H⟩
    · exact absurd (ready_mono hj hji) (by rw [H.1]; simp)
  | succ fuel ih =>
    intro listed a w hfree hr hy hS H
    refine ⟨fun h => absurd hr (by rw [h]; simp), fun j hj => ?_⟩
    by_cases hji : j = i
    · rw [hji]; exact hy.wpOp hi hS ⟨.inr hS, by rw [← hji] at H ⊢; exact H⟩
    · have hjn := not_last hw hr hj
      obtain ⟨hun, oj, hoj, hall⟩ := mem_ready.1 hj
      have hnot : ∀ e ∈ oj.after, Region.binds md e = true → e.on ≠ i := fun e he hb heq => by
        have h1 := hall e he hb
        have h0 := (mem_ready.1 hr).1
        rw [heq] at h1
        rcases Nat.lt_or_ge i listed.size with h' | h'
        · simp [h'] at h0 h1; rw [h0] at h1; cases h1
        · simp [Array.getElem?_eq_none h'] at h1
      refine wpOp_mono (fun a' w' h3 => ?_) (wpOp_putIf hoj (hfree j oj hoj hji hun hnot) (fun cs b => sel i oi cs b hi) (fun cs b => sel j oj cs b hoj) hQ hy (H.2 j (ready_mono hj hji)))
      obtain ⟨hy', hs', hrest⟩ := h3
      have hS' : S w' := hs'.resolve_left hjn
      refine ⟨.inr hS', ih (listed.setIfInBounds j true) a' w' (fun k ok hk hki hu hno => hfree k ok hk hki ?_ hno) (ready_mono hr (Ne.symm hji)) hy' hS' (by rw [Array.setIfInBounds_comm _ _ hji]; exact hrest)⟩
      by_cases hjk : j = k
      · rw [← hjk]; exact hun
      · rwa [getD_set_ne true hjk] at hu
/-- the moves of a walk -/
theorem AnyT.take {i : Nat} {oi : Oper} {v : Value} {fuel : Nat} {listed : Array Bool} {a : Act} {w : World} (hi : ops[i]? = some oi) (hs : Region.noSelect ops = true) (hw : Region.waitsFor md ops n i = true)
    (hf : Region.free md ops listed i = true) (hr : (Region.ready md ops listed).contains i = true) (hQ : ∀ c a w, Q (.panic c) (a.put oi.dst v) w → Q (.panic c) a w) (hy : YieldsIf P ops S oi v a) (hS : S w)
    (h : AnyT P md ops Q S n fuel (listed.setIfInBounds i true) (a.put oi.dst v) w) : AnyT P md ops Q S n (fuel + 1) listed a w :=
  AnyT.first hi hs hw hQ fuel listed a w (Region.free_spec hi hf) (by simpa using hr) hy hS h
/-- those that may come up -/
def AllT (P : Program) (md : Region.Mode) (ops : Array Oper) (Q : Exit → Act → World → Prop) (S : World → Prop) (n fuel : Nat) (listed : Array Bool) (a : Act) (w : World) (rs : List Nat) : Prop :=
  ∀ i ∈ rs, wpOp P ops Q i (fun a' w' => (i = n ∨ S w') ∧ AnyT P md ops Q S n fuel (listed.setIfInBounds i true) a' w') a w
theorem AllT.nil {fuel : Nat} {listed : Array Bool} {a : Act} {w : World} : AllT P md ops Q S n fuel listed a w [] := fun _ h => by cases h
theorem AllT.cons {fuel : Nat} {listed : Array Bool} {a : Act} {w : World} {i : Nat} {o : Oper} {rs : List Nat} (ho : ops[i]? = some o)
    (h : ∀ K' : Act → World → Prop, Shut (∀ a w, (i = n ∨ S w) → ((i = n ∨ S w) → AnyT P md ops Q S n fuel (listed.setIfInBounds i true) a w) → K' a w) → if Region.wanted o (yielded ops a.tmps) = true then Oper.wp P o a w K' Q else K' (a.put o.dst undef) w)
    (hs : AllT P md ops Q S n fuel listed a w rs) : AllT P md ops Q S n fuel listed a w (i :: rs) := fun j hj => by
  rcases List.mem_cons.1 hj with e | hj
  · rw [e]; exact wpOp_step ho (fun K' hK => h K' (fun a w hS hW => hK a w ⟨hS, hW hS⟩))
  · exact hs j hj
theorem AnyT.ready {rs : List Nat} {fuel : Nat} {listed : Array Bool} {a : Act} {w : World} (hr : Region.ready md ops listed = rs) (hne : rs ≠ []) (h : AllT P md ops Q S n fuel listed a w rs) : AnyT P md ops Q S n (fuel + 1) listed a w :=
  ⟨fun h0 => absurd (hr.symm.trans h0) hne, by rw [hr]; exact h⟩
theorem AnyT.done {listed : Array Bool} {a : Act} {w : World} (hr : Region.ready md ops listed = []) (h : Q .normal a w) : ∀ fuel, AnyT P md ops Q S n fuel listed a w
  | 0 => ⟨hr, h⟩
  | _ + 1 => ⟨fun _ => h, by rw [hr]; simp⟩
end
end Go.Proofs.Ytmdkbmafkglhdaa

