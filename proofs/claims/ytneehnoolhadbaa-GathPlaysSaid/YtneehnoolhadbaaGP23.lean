/- RegionT -/
import Derived.Deep.RegionHeld
import Derived.StillTail
namespace Go.Proofs.Ytneehnoolhadbaa
set_option linter.unusedVariables false
section
variable {P : Program} {md : Region.Mode} {ops : Array Oper} {Q : Exit → Act → World → Prop} {S : World → Prop} {n : Nat}
/-- S holds behind each operation but n -/
def AnyT (P : Program) (md : Region.Mode) (ops : Array Oper) (Q : Exit → Act → World → Prop) (S : World → Prop) (n : Nat) : Nat → Array Bool → Act → World → Prop
  | 0, listed, a, w => Region.ready md ops listed = [] ∧ Q .normal a w
  | fuel + 1, listed, a, w => (Region.ready md ops listed = [] → Q .normal a w) ∧
      ∀ i ∈ Region.ready md ops listed, wpOp P ops Q i (fun a' w' => (i = n ∨ S w') ∧ AnyT P md ops Q S n fuel (listed.setIfInBounds i true) a' w') a w
theorem AnyT.any : ∀ (fuel : Nat) (listed : Array Bool) (a : Act) (w : World), AnyT P md ops Q S n fuel listed a w → wpAny P md ops Q fuel listed a w := by
  intro fuel
  induction fuel with
  | zero => exact fun _ _ _ h => h
  | succ fuel ih => exact fun listed a w h => ⟨h.1, fun i hi => wpOp_mono (fun a' w' h' => ih _ _ _ h'.2) (h.2 i hi)⟩
theorem region_T {id : Nat} {a : Act} {w : World} (hm : P.follows .mixedOrders = true) (h : AnyT P .any ops Q S n ops.size (Array.replicate ops.size false) a w.drew) : (Code.region id ops true).wp P Q a w :=
  wp_region_any hm (AnyT.any _ _ _ _ h)
/-- no order lets n come ahead of what it waits for -/
theorem not_last {i j : Nat} {listed : Array Bool} (hw : Region.waitsFor md ops n i = true) (hi : i ∈ Region.ready md ops listed) (hj : j ∈ Region.ready md ops listed) : j ≠ n := by
  intro e
  subst e
  obtain ⟨oj, hoj, x, hx, hb, hon⟩ := Region.waitsFor_spec hw
  obtain ⟨_, oj', hoj', hall⟩ := mem_ready.1 hj
  rw [hoj] at hoj'
  injection hoj' with hoj'
  subst hoj'
  have h1 := hall x hx hb
  have h0 := (mem_ready.1 hi).1
  rw [hon] at h1
  rcases Nat.lt_or_ge i listed.size with h' | h'
  · simp [h'] at h0 h1; rw [h0] at h1; cases h1
  · simp [Array.getElem?_eq_none h'] at h1
/-- what yields v wherever S holds may come first, if n waits for it -/
theorem AnyT.first {i : Nat} {oi : Oper} {v : Value} (hi : ops[i]? = some oi) (hsel : Region.noSelect ops = true) (hw : Region.waitsFor md ops n i = true) (hQ : ∀ c a w, Q (.panic c) (a.put oi.dst v) w → Q (.panic c) a w) :
    ∀ (fuel : Nat) (listed : Array Bool) (a : Act) (w : World),
      (∀ j oj, ops[j]? = some oj → j ≠ i → listed.getD j true = false → (∀ e ∈ oj.after, Region.binds md e = true → e.on ≠ i) → oi.apart ops oj = true) →
      i ∈ Region.ready md ops listed → YieldsIf P ops S oi v a → S w → AnyT P md ops Q S n fuel (listed.setIfInBounds i true) (a.put oi.dst v) w → AnyT P md ops Q S n (fuel + 1) listed a w := by
  have sel := Region.noSelect_spec hsel
  intro fuel
  induction fuel with
  | zero =>
    intro listed a w _ hr hy hS H
    refine ⟨fun h => absurd hr (by rw [h]; simp), fun j hj => ?_⟩
    by_cases hji : j = i
    · rw [hji]; exact hy.wpOp hi hS ⟨.inr hS, by rw [← hji] at H ⊢; exact H⟩
    · exact absurd (ready_mono hj hji) (by rw [H.1]; simp)
  | succ fuel ih =>
    intro listed a w hfree hr hy hS H
    refine ⟨fun h => absurd hr (by rw [h]; simp), fun j hj => ?_⟩
    by_cases hji : j = i
    · rw [hji]; exact hy.wpOp hi hS ⟨.inr hS, by rw [← hji] at H ⊢; exact H⟩
    · have hjn := not_last hw hr hj
      obtain ⟨hun, oj, hoj, hall⟩ := mem_ready.1 hj
      have hnot : ∀ e ∈ oj.after, Region.binds md e = true → e.on ≠ i := fun e he hb heq => by
        have h1 := hall e he hb
        have h0 := (mem_ready.1 hr).1
        rw [heq] at h1
        rcases Nat.lt_or_ge i listed.size with h' | h'
        · simp [h'] at h0 h1; rw [h0] at h1; cases h1
        · simp [Array.getElem?_eq_none h'] at h1
      refine wpOp_mono (fun a' w' h3 => ?_) (wpOp_putIf hoj (hfree j oj hoj hji hun hnot) (fun cs b => sel i oi cs b hi) (fun cs b => sel j oj cs b hoj) hQ hy (H.2 j (ready_mono hj hji)))
      obtain ⟨hy', hs', hrest⟩ := h3
      have hS' : S w' := hs'.resolve_left hjn
      refine ⟨.inr hS', ih (listed.setIfInBounds j true) a' w' (fun k ok hk hki hu hno => hfree k ok hk hki ?_ hno) (ready_mono hr (Ne.symm hji)) hy' hS' (by rw [Array.setIfInBounds_comm _ _ hji]; exact hrest)⟩
      by_cases hjk : j = k
      · rw [← hjk]; exact hun
      · rwa [getD_set_ne true hjk] at hu
/-- whatever is listed, what it waits for is -/
def ClosedE (md : Region.Mode) (ops : Array Oper) (listed : Array Bool) : Prop := ∀ (i : Nat) (o : Oper), ops[i]? = some o → listed.getD i false = true → ∀ e ∈ o.after, Region.binds md e = true → listed.getD e.on false = true
def closedB (md : Region.Mode) (ops : Array Oper) (listed : Array Bool) : Bool := (List.range ops.size).all fun i => match ops[i]? with
  | some o => !(listed.getD i false) || o.after.toList.all fun e => !(Region.binds md e) || listed.getD e.on false
  | none => true
theorem closed_of {listed : Array Bool} (h : closedB md ops listed = true) : ClosedE md ops listed := by
  intro i o ho hl e he hb
  have hlt := (Array.getElem?_eq_some_iff.1 ho).1
  have h1 := List.all_eq_true.1 h i (List.mem_range.2 hlt)
  rw [ho] at h1
  simp only [hl, Bool.not_true, Bool.false_or] at h1
  have h2 := List.all_eq_true.1 h1 e (by simpa using he)
  simpa [hb] using h2
theorem getD_set_true {listed : Array Bool} {i k : Nat} (h : listed.getD k false = true) : (listed.setIfInBounds i true).getD k false = true := by
  by_cases hik : i = k
  · subst hik
    have hlt : i < listed.size := by
      rcases Nat.lt_or_ge i listed.size with h' | h'
      · exact h'
      · simp [Array.getElem?_eq_none h'] at h
    simp [hlt]
  · rw [getD_set_ne false hik]; exact h
theorem closed_set {listed : Array Bool} {i : Nat} (hc : ClosedE md ops listed) (hi : i ∈ Region.ready md ops listed) : ClosedE md ops (listed.setIfInBounds i true) := by
  intro k o ho hl e he hb
  obtain ⟨_, oi, hoi, hall⟩ := mem_ready.1 hi
  by_cases hik : i = k
  · subst hik
    rw [hoi] at ho
    injection ho with ho
    subst ho
    have h1 := hall e he hb
    refine getD_set_true ?_
    rcases Nat.lt_or_ge e.on listed.size with h' | h'
    · simpa [h'] using h1
    · simp [Array.getElem?_eq_none h'] at h1
  · rw [getD_set_ne false hik] at hl
    exact getD_set_true (hc k o ho hl e he hb)
def pathOk (md : Region.Mode) (ops : Array Oper) : Nat → List Nat → Bool
  | _, [] => true
  | a, b :: l => Region.waitsFor md ops a b && pathOk md ops b l
theorem path_listed {listed : Array Bool} (hc : ClosedE md ops listed) : ∀ (l : List Nat) (a : Nat), listed.getD a false = true → pathOk md ops a l = true → ∀ b ∈ l, listed.getD b false = true
  | [], _, _, _, _, hb => by cases hb
  | c :: l, a, ha, hp, b, hb => by
    simp only [pathOk, Bool.and_eq_true] at hp
    obtain ⟨oj, hoj, x, hx, hbb, hon⟩ := Region.waitsFor_spec hp.1
    have h1 := hc a oj hoj ha x hx hbb
    rw [hon] at h1
    rcases List.mem_cons.1 hb with rfl | hb
    · exact h1
    · exact path_listed hc l c h1 hp.2 b hb
theorem not_lastP {i j : Nat} {listed : Array Bool} {l : List Nat} (hc : ClosedE md ops listed) (hp : pathOk md ops n l = true) (hl : i ∈ l) (hi : i ∈ Region.ready md ops listed) (hj : j ∈ Region.ready md ops listed) : j ≠ n := by
  intro e
  subst e
  have h0 := (mem_ready.1 hi).1
  have hk : listed.getD i false = true := by
    cases l with
    | nil => cases hl
    | cons c l =>
      simp only [pathOk, Bool.and_eq_true] at hp
      obtain ⟨oj, hoj, x, hx, hb, hon⟩ := Region.waitsFor_spec hp.1
      obtain ⟨_, oj', hoj', hall⟩ := mem_ready.1 hj
      rw [hoj] at hoj'
      injection hoj' with hoj'
      subst hoj'
      have h1 := hall x hx hb
      rw [hon] at h1
      have h1' : listed.getD c false = true := by
        rcases Nat.lt_or_ge c listed.size with h' | h'
        · simpa [h'] using h1
        · simp [Array.getElem?_eq_none h'] at h1
      rcases List.mem_cons.1 hl with rfl | hl
      · exact h1'
      · exact path_listed hc l c h1' hp.2 i hl
  rcases Nat.lt_or_ge i listed.size with h' | h'
  · simp [h'] at h0 hk; rw [h0] at hk; cases hk
  · simp [Array.getElem?_eq_none h'] at hk
/-- i may come first: whatever is not apart from it waits for it, through others too (cert: j and its path down to i) -/
def freeC (md : Region.Mode) (ops : Array Oper) (listed : Array Bool) (i : Nat) (cert : List (Nat × List Nat)) : Bool :=
  (List.range ops.size).all fun j => j == i || (listed.getD j true || ((match ops[i]?, ops[j]? with
    | some oi, some oj => oi.apart ops oj
    | _, _ => false) || (Region.waitsFor md ops j i || cert.any fun p => p.1 == j && (pathOk md ops j p.2 && p.2.contains i))))
theorem freeC_spec {listed : Array Bool} {i : Nat} {oi : Oper} {cert : List (Nat × List Nat)} (hi : ops[i]? = some oi) (h : freeC md ops listed i cert = true) : ∀ j oj, ops[j]? = some oj → j ≠ i → listed.getD j true = false → oi.apart ops oj = true ∨ ∃ l, pathOk md ops j l = true ∧ i ∈ l := by
  intro j oj hj hne hl
  have hlt := (Array.getElem?_eq_some_iff.1 hj).1
  have h1 := List.all_eq_true.1 h j (List.mem_range.2 hlt)
  rw [hi, hj, hl] at h1
  simp only [Bool.false_or, Bool.or_eq_true, beq_iff_eq, List.any_eq_true, Bool.and_eq_true, List.contains_iff_mem] at h1
  rcases h1 with h1 | h1 | h1 | ⟨p, _, h1, h2, h3⟩
  · exact absurd h1 hne
  · exact .inl h1
  · exact .inr ⟨[i], by simp [pathOk, h1], by simp⟩
  · rw [h1] at *; exact .inr ⟨p.2, h2, h3⟩
theorem AnyT.firstC {l : List Nat} {i : Nat} {oi : Oper} {v : Value} (hi : ops[i]? = some oi) (hsel : Region.noSelect ops = true) (hw : pathOk md ops n l = true) (hil : i ∈ l) (hQ : ∀ c a w, Q (.panic c) (a.put oi.dst v) w → Q (.panic c) a w) :
    ∀ (fuel : Nat) (listed : Array Bool) (a : Act) (w : World),
      (∀ j oj, ops[j]? = some oj → j ≠ i → listed.getD j true = false → oi.apart ops oj = true ∨ ∃ l, pathOk md ops j l = true ∧ i ∈ l) →
      ClosedE md ops listed → i ∈ Region.ready md ops listed → YieldsIf P ops S oi v a → S w → AnyT P md ops Q S n fuel (listed.setIfInBounds i true) (a.put oi.dst v) w → AnyT P md ops Q S n (fuel + 1) listed a w := by
  have sel := Region.noSelect_spec hsel
  have key : ∀ {listed : Array Bool} {j : Nat} {oj : Oper}, (∀ j oj, ops[j]? = some oj → j ≠ i → listed.getD j true = false → oi.apart ops oj = true ∨ ∃ l, pathOk md ops j l = true ∧ i ∈ l) → ClosedE md ops listed → i ∈ Region.ready md ops listed → ops[j]? = some oj → j ≠ i → listed.getD j true = false → j ∈ Region.ready md ops listed → oi.apart ops oj = true := by
    intro listed j oj hfree hcl hr hoj hji hun hj
    rcases hfree j oj hoj hji hun with h | ⟨l', h1, h2⟩
    · exact h
    · exact absurd rfl (not_lastP (n := j) hcl h1 h2 hr hj)
  intro fuel
  induction fuel with
  | zero =>
    intro listed a w _ hcl hr hy hS H
    refine ⟨fun h => absurd hr (by rw [h]; simp), fun j hj => ?_⟩
    by_cases hji : j = i
    · rw [hji]; exact hy.wpOp hi hS ⟨.inr hS, by rw [← hji] at H ⊢; exact H⟩
    · exact absurd (ready_mono hj hji) (by rw [H.1]; simp)
  | succ fuel ih =>
    intro listed a w hfree hcl hr hy hS H
    refine ⟨fun h => absurd hr (by rw [h]; simp), fun j hj => ?_⟩
    by_cases hji : j = i
    · rw [hji]; exact hy.wpOp hi hS ⟨.inr hS, by rw [← hji] at H ⊢; exact H⟩
    · have hjn := not_lastP hcl hw hil hr hj
      obtain ⟨hun, oj, hoj, hall⟩ := mem_ready.1 hj
      refine wpOp_mono (fun a' w' h3 => ?_) (wpOp_putIf hoj (key hfree hcl hr hoj hji hun hj) (fun cs b => sel i oi cs b hi) (fun cs b => sel j oj cs b hoj) hQ hy (H.2 j (ready_mono hj hji)))
      obtain ⟨hy', hs', hrest⟩ := h3
      have hS' : S w' := hs'.resolve_left hjn
      refine ⟨.inr hS', ih (listed.setIfInBounds j true) a' w' (fun k ok hk hki hu => hfree k ok hk hki ?_) (closed_set hcl hj) (ready_mono hr (Ne.symm hji)) hy' hS' (by rw [Array.setIfInBounds_comm _ _ hji]; exact hrest)⟩
      by_cases hjk : j = k
      · rw [← hjk]; exact hun
      · rwa [getD_set_ne true hjk] at hu
theorem AnyT.takeC (l : List Nat) (cert : List (Nat × List Nat)) {i : Nat} {oi : Oper} {v : Value} {fuel : Nat} {listed : Array Bool} {a : Act} {w : World} (hi : ops[i]? = some oi) (hs : Region.noSelect ops = true) (hw : pathOk md ops n l = true) (hil : l.contains i = true) (hcl : closedB md ops listed = true)
    (hf : freeC md ops listed i cert = true) (hr : (Region.ready md ops listed).contains i = true) (hQ : ∀ c a w, Q (.panic c) (a.put oi.dst v) w → Q (.panic c) a w) (hy : YieldsIf P ops S oi v a) (hS : S w)
    (h : AnyT P md ops Q S n fuel (listed.setIfInBounds i true) (a.put oi.dst v) w) : AnyT P md ops Q S n (fuel + 1) listed a w :=
  AnyT.firstC hi hs hw (by simpa using hil) hQ fuel listed a w (freeC_spec hi hf) (closed_of hcl) (by simpa using hr) hy hS h
/-- the moves of a walk -/
theorem AnyT.take {i : Nat} {oi : Oper} {v : Value} {fuel : Nat} {listed : Array Bool} {a : Act} {w : World} (hi : ops[i]? = some oi) (hs : Region.noSelect ops = true) (hw : Region.waitsFor md ops n i = true)
    (hf : Region.free md ops listed i = true) (hr : (Region.ready md ops listed).contains i = true) (hQ : ∀ c a w, Q (.panic c) (a.put oi.dst v) w → Q (.panic c) a w) (hy : YieldsIf P ops S oi v a) (hS : S w)
    (h : AnyT P md ops Q S n fuel (listed.setIfInBounds i true) (a.put oi.dst v) w) : AnyT P md ops Q S n (fuel + 1) listed a w :=
  AnyT.first hi hs hw hQ fuel listed a w (Region.free_spec hi hf) (by simpa using hr) hy hS h
/-- those that may come up -/
def AllT (P : Program) (md : Region.Mode) (ops : Array Oper) (Q : Exit → Act → World → Prop) (S : World → Prop) (n fuel : Nat) (listed : Array Bool) (a : Act) (w : World) (rs : List Nat) : Prop :=
  ∀ i ∈ rs, wpOp P ops Q i (fun a' w' => (i = n ∨ S w') ∧ AnyT P md ops Q S n fuel (listed.setIfInBounds i true) a' w') a w
theorem AllT.nil {fuel : Nat} {listed : Array Bool} {a : Act} {w : World} : AllT P md ops Q S n fuel listed a w [] := fun _ h => by cases h
theorem AllT.cons {fuel : Nat} {listed : Array Bool} {a : Act} {w : World} {i : Nat} {o : Oper} {rs : List Nat} (ho : ops[i]? = some o)
    (h : ∀ K' : Act → World → Prop, Shut (∀ a w, (i = n ∨ S w) → ((i = n ∨ S w) → AnyT P md ops Q S n fuel (listed.setIfInBounds i true) a w) → K' a w) → if Region.wanted o (yielded ops a.tmps) = true then Oper.wp P o a w K' Q else K' (a.put o.dst undef) w)
    (hs : AllT P md ops Q S n fuel listed a w rs) : AllT P md ops Q S n fuel listed a w (i :: rs) := fun j hj => by
  rcases List.mem_cons.1 hj with e | hj
  · rw [e]; exact wpOp_step ho (fun K' hK => h K' (fun a w hS hW => hK a w ⟨hS, hW hS⟩))
  · exact hs j hj
theorem AnyT.ready {rs : List Nat} {fuel : Nat} {listed : Array Bool} {a : Act} {w : World} (hr : Region.ready md ops listed = rs) (hne : rs ≠ []) (h : AllT P md ops Q S n fuel listed a w rs) : AnyT P md ops Q S n (fuel + 1) listed a w :=
  ⟨fun h0 => absurd (hr.symm.trans h0) hne, by rw [hr]; exact h⟩
theorem AnyT.done {listed : Array Bool} {a : Act} {w : World} (hr : Region.ready md ops listed = []) (h : Q .normal a w) : ∀ fuel, AnyT P md ops Q S n fuel listed a w
  | 0 => ⟨hr, h⟩
  | _ + 1 => ⟨fun _ => h, by rw [hr]; simp⟩
end
end Go.Proofs.Ytneehnoolhadbaa

