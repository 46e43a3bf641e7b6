/- DiskMath -/
import Derived.Test.YtlfkgpllleogoaaDP06
import Derived.Test.YtlfkgpllleogoaaDP07
namespace Go.Proofs.Ytlfkgpllleogoaa
namespace Pk
/-- what is read ahead does not depend on what stands behind -/
theorem dec_app : ∀ (l : List Nat) (i acc : Nat) (r : List Nat), (dec i acc l).2 ≠ 0 → dec i acc (l ++ r) = dec i acc l := by
  intro l
  induction l with
  | nil => intro i acc r h; exact absurd rfl h
  | cons x l ih =>
    intro i acc r h
    simp only [dec, List.cons_append] at h ⊢
    split
    · rfl
    · rename_i h9
      rw [if_neg h9] at h
      split
      · rename_i h1
        rw [if_pos h1] at h
        exact ih _ _ _ h
      · rfl
theorem numN_app {l t : List Nat} {v : Nat} {m : Int} (h : numN (some l) m = some (v, t)) (r : List Nat) : numN (some (l ++ r)) m = some (v, t ++ r) := by
  have h : rNum l (held m) = some (v, t) := h
  show rNum (l ++ r) (held m) = some (v, t ++ r)
  unfold rNum at h ⊢
  split at h
  · cases h
  · rename_i hc
    have e : first (l ++ r) = first l := dec_app l 0 0 r (fun e => hc (.inl e))
    rw [e, if_neg hc]
    injection h with h
    injection h with h1 h2
    rw [h1, ← h2, List.drop_append_of_le_length (first_size l).1]
theorem numN_le {l t : List Nat} {v : Nat} {m : Int} (h : numN (some l) m = some (v, t)) : v ≤ held m := by
  have h : rNum l (held m) = some (v, t) := h
  unfold rNum at h
  split at h
  · cases h
  · rename_i hc
    injection h with h
    injection h with h1 h2
    omega
end Pk
namespace Dk
def far : Nat := 1099511627776
/-- the nearest number that may be -/
def held (n : Int) : Nat := min n.toNat far
theorem held_le (n : Int) : held n ≤ far := Nat.min_le_right _ _
theorem held_of {n : Nat} (h : n ≤ far) : held (n : Int) = n := by unfold held; omega
theorem held_pk (z : Int) : Pk.held (held z : Int) = held z := Pk.held_of (Nat.le_trans (held_le z) (by decide))
theorem held_far : Pk.held 1099511627776 = far := by decide
/-- the number of a slot, and its record -/
structure Rc where
  n : Nat
  i : Nat
  p : Nat
  q : Nat
  deriving DecidableEq
def enc4 (x : Rc) : List Nat := Pk.enc x.n ++ Pk.enc x.i ++ Pk.enc x.p ++ Pk.enc x.q
def Rc.Ok (x : Rc) : Prop := x.n ≤ far ∧ x.i ≤ far ∧ x.p ≤ far ∧ x.q ≤ far
def rc (n i p q : Int) : Rc := ⟨held n, held i, held p, held q⟩
theorem rc_ok (n i p q : Int) : (rc n i p q).Ok := ⟨held_le _, held_le _, held_le _, held_le _⟩
def slotR (x : Rc) : List Nat := Fr.lay (enc4 x)
def slot (n i p q : Int) : List Nat := slotR (rc n i p q)
theorem enc4_lt {x : Rc} (h : x.Ok) : ∀ y ∈ enc4 x, y < 256 := by
  obtain ⟨h1, h2, h3, h4⟩ := h
  have ht : far ≤ Pk.top := by decide
  intro y hy
  rcases List.mem_append.1 hy with hy | hy
  · rcases List.mem_append.1 hy with hy | hy
    · rcases List.mem_append.1 hy with hy | hy
      · exact Pk.enc_lt (Nat.le_trans h1 ht) y hy
      · exact Pk.enc_lt (Nat.le_trans h2 ht) y hy
    · exact Pk.enc_lt (Nat.le_trans h3 ht) y hy
  · exact Pk.enc_lt (Nat.le_trans h4 ht) y hy
theorem enc4_len (x : Rc) : 4 ≤ (enc4 x).length ∧ (enc4 x).length ≤ 36 := by
  have h1 := Pk.enc_length x.n
  have h2 := Pk.enc_length x.i
  have h3 := Pk.enc_length x.p
  have h4 := Pk.enc_length x.q
  unfold enc4
  simp only [List.length_append]
  omega
theorem slotR_lt {x : Rc} (h : x.Ok) : ∀ y ∈ slotR x, y < 256 := Fr.lay_lt (enc4_lt h)
theorem slotR_len (x : Rc) : 8 ≤ (slotR x).length ∧ (slotR x).length ≤ 40 := by
  have := enc4_len x
  unfold slotR
  rw [Fr.lay_len]; omega
/-- four numbers, read -/
def s1 (l : List Nat) : Pk.St := Pk.numS (some l) 1099511627776
def s2 (l : List Nat) : Pk.St := Pk.numS (s1 l) 1099511627776
def s3 (l : List Nat) : Pk.St := Pk.numS (s2 l) 1099511627776
def s4 (l : List Nat) : Pk.St := Pk.numS (s3 l) 1099511627776
def got (l : List Nat) : Rc := ⟨Pk.numV (some l) 1099511627776, Pk.numV (s1 l) 1099511627776, Pk.numV (s2 l) 1099511627776, Pk.numV (s3 l) 1099511627776⟩
def get (l : List Nat) : Option Rc := if s4 l = some [] then some (got l) else none
/-- four numbers read out of l, and what is left -/
theorem four_of {l t : List Nat} (h : s4 l = some t) : ∃ t1 t2 t3, Pk.numN (some l) 1099511627776 = some ((got l).n, t1) ∧ Pk.numN (some t1) 1099511627776 = some ((got l).i, t2) ∧ Pk.numN (some t2) 1099511627776 = some ((got l).p, t3) ∧ Pk.numN (some t3) 1099511627776 = some ((got l).q, t) := by
  have key : ∀ {s : Pk.St} {t : List Nat}, Pk.numS s 1099511627776 = some t → ∃ l, s = some l ∧ Pk.numN (some l) 1099511627776 = some (Pk.numV s 1099511627776, t) := by
    intro s t h
    cases s with
    | none => cases h
    | some l =>
      refine ⟨l, rfl, ?_⟩
      unfold Pk.numS at h
      unfold Pk.numV
      cases hn : Pk.numN (some l) 1099511627776 with
      | none => rw [hn] at h; cases h
      | some p =>
        rw [hn] at h
        injection h with h
        subst h
        rfl
  obtain ⟨t3, e3, n3⟩ := key h
  obtain ⟨t2, e2, n2⟩ := key e3
  obtain ⟨t1, e1, n1⟩ := key e2
  obtain ⟨t0, e0, n0⟩ := key e1
  injection e0 with e0
  subst e0
  exact ⟨t1, t2, t3, n0, n1, n2, n3⟩
theorem of_four {l t1 t2 t3 t : List Nat} {x : Rc} (h1 : Pk.numN (some l) 1099511627776 = some (x.n, t1)) (h2 : Pk.numN (some t1) 1099511627776 = some (x.i, t2)) (h3 : Pk.numN (some t2) 1099511627776 = some (x.p, t3)) (h4 : Pk.numN (some t3) 1099511627776 = some (x.q, t)) : s4 l = some t ∧ got l = x := by
  have e1 := Pk.numV_is h1
  have e2 := Pk.numV_is h2
  have e3 := Pk.numV_is h3
  have e4 := Pk.numV_is h4
  have q1 : s1 l = some t1 := e1.2
  have q2 : s2 l = some t2 := by unfold s2; rw [q1]; exact e2.2
  have q3 : s3 l = some t3 := by unfold s3; rw [q2]; exact e3.2
  have q4 : s4 l = some t := by unfold s4; rw [q3]; exact e4.2
  refine ⟨q4, ?_⟩
  unfold got
  rw [q1, q2, q3, e1.1, e2.1, e3.1, e4.1]
theorem got_app {l t : List Nat} (h : s4 l = some t) (r : List Nat) : s4 (l ++ r) = some (t ++ r) ∧ got (l ++ r) = got l := by
  obtain ⟨t1, t2, t3, h1, h2, h3, h4⟩ := four_of h
  exact of_four (Pk.numN_app h1 r) (Pk.numN_app h2 r) (Pk.numN_app h3 r) (Pk.numN_app h4 r)
theorem got_enc4 {x : Rc} (h : x.Ok) (r : List Nat) : s4 (enc4 x ++ r) = some r ∧ got (enc4 x ++ r) = x := by
  obtain ⟨h1, h2, h3, h4⟩ := h
  have ht : far ≤ Pk.top := by decide
  have e : enc4 x ++ r = Pk.enc x.n ++ (Pk.enc x.i ++ (Pk.enc x.p ++ (Pk.enc x.q ++ r))) := by unfold enc4; simp only [List.append_assoc]
  rw [e]
  exact of_four (Pk.numN_enc (Nat.le_trans h1 ht) _ _ (by rw [held_far]; exact h1)) (Pk.numN_enc (Nat.le_trans h2 ht) _ _ (by rw [held_far]; exact h2)) (Pk.numN_enc (Nat.le_trans h3 ht) _ _ (by rw [held_far]; exact h3)) (Pk.numN_enc (Nat.le_trans h4 ht) _ _ (by rw [held_far]; exact h4))
theorem get_enc4 {x : Rc} (h : x.Ok) : get (enc4 x) = some x := by
  have e := got_enc4 h []
  rw [List.append_nil] at e
  unfold get
  rw [if_pos e.1, e.2]
theorem get_take {x : Rc} (h : x.Ok) {k : Nat} (hk : k < (enc4 x).length) : get ((enc4 x).take k) = none := by
  unfold get
  rw [if_neg]
  intro e
  have e1 := (got_app e ((enc4 x).drop k)).1
  rw [List.take_append_drop] at e1
  have e2 := (got_enc4 h []).1
  rw [List.append_nil] at e2
  rw [e2] at e1
  injection e1 with e1
  have e3 := congrArg List.length e1
  simp at e3
  omega
theorem get_ok {l : List Nat} {x : Rc} (h : get l = some x) : x.Ok := by
  unfold get at h
  split at h
  · rename_i h4
    injection h with h
    obtain ⟨t1, t2, t3, e1, e2, e3, e4⟩ := four_of h4
    have b1 := Pk.numN_le e1
    have b2 := Pk.numN_le e2
    have b3 := Pk.numN_le e3
    have b4 := Pk.numN_le e4
    rw [held_far] at b1 b2 b3 b4
    subst h
    exact ⟨b1, b2, b3, b4⟩
  · cases h
/-- what a slot holds -/
def parse (l : List Nat) : Option Rc := (Fr.unf l).bind get
theorem parse_slot {x : Rc} (h : x.Ok) : parse (slotR x) = some x := by
  unfold parse slotR
  rw [Fr.unf_lay]; exact get_enc4 h
theorem parse_ok {l : List Nat} {x : Rc} (h : parse l = some x) : x.Ok := by
  unfold parse at h
  cases hu : Fr.unf l with
  | none => rw [hu] at h; cases h
  | some y => rw [hu] at h; exact get_ok h
theorem parse_nil : parse [] = none := rfl
theorem parse_take {x : Rc} (h : x.Ok) {k : Nat} (hk : k < (slotR x).length) : parse ((slotR x).take k) = none := by
  unfold parse
  rcases Nat.lt_or_ge k 4 with h4 | h4
  · unfold Fr.unf
    rw [if_pos (by rw [List.length_take]; omega)]; rfl
  · obtain ⟨j, rfl⟩ : ∃ j, k = 4 + j := ⟨k - 4, by omega⟩
    unfold slotR at hk ⊢
    rw [Fr.lay_len] at hk
    have e : (Fr.lay (enc4 x)).take (4 + j) = Fr.four (Crc.sum (enc4 x)) ++ (enc4 x).take j := by
      unfold Fr.lay
      rw [List.take_append, Fr.four_len, List.take_of_length_le (by rw [Fr.four_len]; omega), show 4 + j - 4 = j by omega]
    rw [e, Fr.unf_app _ _ (Fr.four_len _)]
    split
    · exact get_take h (by omega)
    · rfl
/-- the slot that Read takes, and whether it is the second -/
def pick (a b : Option Rc) : Option Rc × Bool :=
  match a, b with
  | x, none => (x, false)
  | none, some y => (some y, true)
  | some x, some y => if x.n < y.n then (some y, true) else (some x, false)
def read (a b : List Nat) : Option Rc := (pick (parse a) (parse b)).1
def head (s : List Nat) (cut : Int) : List Nat := if cut < 0 ∨ (s.length : Int) < cut then s else s.take cut.toNat
def next (a b : List Nat) : Nat := (((read a b).map (·.n)).getD 0) + 1
def new (a b : List Nat) (i p q cut : Int) : List Nat := head (slot (next a b) i p q) cut
/-- is the first slot the one that stays? -/
def keeps (a b : List Nat) : Bool := (read a b).isSome && !(pick (parse a) (parse b)).2
def write (a b : List Nat) (i p q cut : Int) : List Nat × List Nat := if keeps a b then (a, new a b i p q cut) else (new a b i p q cut, b)
theorem head_lt {s : List Nat} (h : ∀ x ∈ s, x < 256) (cut : Int) : ∀ x ∈ head s cut, x < 256 := by
  unfold head
  split
  · exact h
  · exact fun x hx => h x (List.mem_of_mem_take hx)
theorem head_len (s : List Nat) (cut : Int) : (head s cut).length ≤ s.length := by
  unfold head
  split
  · exact Nat.le_refl _
  · rw [List.length_take]; omega
theorem new_lt (a b : List Nat) (i p q cut : Int) : ∀ x ∈ new a b i p q cut, x < 256 := head_lt (slotR_lt (rc_ok _ _ _ _)) cut
theorem new_len (a b : List Nat) (i p q cut : Int) : (new a b i p q cut).length ≤ 40 := Nat.le_trans (head_len _ _) (slotR_len _).2
theorem read_ok {a b : List Nat} {x : Rc} (h : read a b = some x) : x.Ok := by
  unfold read pick at h
  split at h
  · exact parse_ok h
  · rename_i y e; injection h with h; subst h; exact parse_ok e
  · rename_i y z e1 e2
    split at h
    · injection h with h; subst h; exact parse_ok e2
    · injection h with h; subst h; exact parse_ok e1
theorem next_le (a b : List Nat) : next a b ≤ 1099511627777 := by
  unfold next
  cases h : read a b with
  | none => simp
  | some x => have := (read_ok h).1; unfold far at this; simp; omega
/-- a disk's rows are bytes, and short -/
def Fine (a : List Nat) : Prop := (∀ x ∈ a, x < 256) ∧ a.length ≤ 2000000
theorem write_fine {a b : List Nat} (ha : Fine a) (hb : Fine b) (i p q cut : Int) : Fine (write a b i p q cut).1 ∧ Fine (write a b i p q cut).2 := by
  have hn : Fine (new a b i p q cut) := ⟨new_lt a b i p q cut, Nat.le_trans (new_len a b i p q cut) (by decide)⟩
  unfold write
  split
  · exact ⟨ha, hn⟩
  · exact ⟨hn, hb⟩
/-- k records were written, one behind the other; the last is x -/
structure Inv (k : Nat) (a b : List Nat) (x : Rc) : Prop where
  nil : k = 0 → a = [] ∧ b = []
  odd : k % 2 = 1 → parse a = some x ∧ ∀ y, parse b = some y → y.n < k
  even : k % 2 = 0 → k ≠ 0 → parse b = some x ∧ ∀ y, parse a = some y → y.n < k
  num : k ≠ 0 → x.n = k
  fa : Fine a
  fb : Fine b
theorem Inv.start (x : Rc) : Inv 0 [] [] x := ⟨fun _ => ⟨rfl, rfl⟩, fun h => (by cases h), fun _ h => absurd rfl h, fun h => absurd rfl h, ⟨fun x hx => (by cases hx), by simp⟩, ⟨fun x hx => (by cases hx), by simp⟩⟩
theorem Inv.read {k : Nat} {a b : List Nat} {x : Rc} (h : Inv k a b x) : read a b = if k = 0 then none else some x := by
  unfold Dk.read
  by_cases h0 : k = 0
  · obtain ⟨e1, e2⟩ := h.nil h0
    rw [if_pos h0, e1, e2, parse_nil]; rfl
  rw [if_neg h0]
  have hn := h.num h0
  rcases Nat.mod_two_eq_zero_or_one k with h2 | h2
  · obtain ⟨e1, e2⟩ := h.even h2 h0
    rw [e1]
    cases ha : parse a with
    | none => rfl
    | some y => have := e2 y ha; simp only [pick]; rw [if_pos (by omega)]
  · obtain ⟨e1, e2⟩ := h.odd h2
    rw [e1]
    cases hb : parse b with
    | none => rfl
    | some y => have := e2 y hb; simp only [pick]; rw [if_neg (by omega)]
theorem Inv.keeps {k : Nat} {a b : List Nat} {x : Rc} (h : Inv k a b x) : keeps a b = decide (k % 2 = 1) := by
  unfold Dk.keeps
  rw [h.read]
  by_cases h0 : k = 0
  · rw [if_pos h0, h0]; rfl
  rw [if_neg h0]
  have hn := h.num h0
  rcases Nat.mod_two_eq_zero_or_one k with h2 | h2
  · obtain ⟨e1, e2⟩ := h.even h2 h0
    rw [e1, h2]
    cases ha : parse a with
    | none => rfl
    | some y => have := e2 y ha; simp only [pick]; rw [if_pos (by omega)]; rfl
  · obtain ⟨e1, e2⟩ := h.odd h2
    rw [e1, h2]
    cases hb : parse b with
    | none => rfl
    | some y => have := e2 y hb; simp only [pick]; rw [if_neg (by omega)]; rfl
theorem Inv.next {k : Nat} {a b : List Nat} {x : Rc} (h : Inv k a b x) : next a b = k + 1 := by
  unfold Dk.next
  rw [h.read]
  by_cases h0 : k = 0
  · rw [if_pos h0, h0]; rfl
  · rw [if_neg h0, ← h.num h0]; rfl
theorem head_all (s : List Nat) {cut : Int} (h : cut < 0 ∨ (s.length : Int) ≤ cut) : head s cut = s := by
  unfold head
  split
  · rfl
  · rename_i hc
    rw [List.take_of_length_le (by omega)]
theorem head_cut (s : List Nat) {cut : Nat} (h : cut < s.length) : head s (cut : Int) = s.take cut := by
  unfold head
  rw [if_neg (by omega), Int.toNat_natCast]
/-- the slot of the next one -/
def Inv.nx (k : Nat) (i p q : Int) : Rc := ⟨k + 1, held i, held p, held q⟩
theorem Inv.rc_nx {k : Nat} (hk : k < 1000) (i p q : Int) : rc ((k + 1 : Nat) : Int) i p q = Inv.nx k i p q := by
  unfold rc Inv.nx
  rw [held_of (by unfold far; omega)]
theorem Inv.nx_ok {k : Nat} (hk : k < 1000) (i p q : Int) : (Inv.nx k i p q).Ok := by rw [← Inv.rc_nx hk]; exact rc_ok _ _ _ _
/-- written whole -/
theorem Inv.whole {k : Nat} {a b : List Nat} {x : Rc} (h : Inv k a b x) (hk : k < 1000) (i p q : Int) {cut : Int} (hc : cut < 0 ∨ ((slotR (Inv.nx k i p q)).length : Int) ≤ cut) :
    write a b i p q cut = (if k % 2 = 1 then (a, slotR (Inv.nx k i p q)) else (slotR (Inv.nx k i p q), b)) ∧ Inv (k + 1) (write a b i p q cut).1 (write a b i p q cut).2 (Inv.nx k i p q) := by
  have hw : write a b i p q cut = (if k % 2 = 1 then (a, slotR (Inv.nx k i p q)) else (slotR (Inv.nx k i p q), b)) := by
    unfold write new slot
    rw [h.keeps, h.next, Inv.rc_nx hk, head_all _ hc]
    by_cases h1 : k % 2 = 1
    · simp [h1]
    · simp [h1]
  refine ⟨hw, ?_⟩
  have hok := Inv.nx_ok hk i p q
  have hp := parse_slot hok
  have hf : Fine (slotR (Inv.nx k i p q)) := ⟨slotR_lt hok, Nat.le_trans (slotR_len _).2 (by decide)⟩
  rw [hw]
  by_cases h1 : k % 2 = 1
  · rw [if_pos h1]
    refine ⟨fun h => by omega, fun h => by omega, fun _ _ => ⟨hp, fun y hy => ?_⟩, fun _ => rfl, h.fa, hf⟩
    have e := (h.odd h1).1
    rw [hy] at e
    injection e with e
    rw [e, h.num (by omega)]; omega
  · rw [if_neg h1]
    refine ⟨fun h => by omega, fun _ => ⟨hp, fun y hy => ?_⟩, fun h => by omega, fun _ => rfl, hf, h.fb⟩
    by_cases h0 : k = 0
    · rw [(h.nil h0).2, parse_nil] at hy; cases hy
    · have e := (h.even (by omega) h0).1
      rw [hy] at e
      injection e with e
      rw [e, h.num h0]; omega
/-- cut: what was there is read -/
theorem Inv.cut {k : Nat} {a b : List Nat} {x : Rc} (h : Inv k a b x) (hk : k < 1000) (i p q : Int) {cut : Nat} (hc : cut < (slotR (Inv.nx k i p q)).length) :
    write a b i p q (cut : Int) = (if k % 2 = 1 then (a, (slotR (Inv.nx k i p q)).take cut) else ((slotR (Inv.nx k i p q)).take cut, b)) ∧ Dk.read (write a b i p q (cut : Int)).1 (write a b i p q (cut : Int)).2 = Dk.read a b := by
  have hw : write a b i p q (cut : Int) = (if k % 2 = 1 then (a, (slotR (Inv.nx k i p q)).take cut) else ((slotR (Inv.nx k i p q)).take cut, b)) := by
    unfold write new slot
    rw [h.keeps, h.next, Inv.rc_nx hk, head_cut _ hc]
    by_cases h1 : k % 2 = 1
    · simp [h1]
    · simp [h1]
  refine ⟨hw, ?_⟩
  have hp := parse_take (Inv.nx_ok hk i p q) hc
  rw [hw, h.read]
  unfold Dk.read
  by_cases h1 : k % 2 = 1
  · rw [if_pos h1, if_neg (by omega)]
    simp only
    rw [hp, (h.odd h1).1]; rfl
  · rw [if_neg h1]
    simp only
    rw [hp]
    by_cases h0 : k = 0
    · rw [(h.nil h0).2, parse_nil, if_pos h0]; rfl
    · rw [(h.even (by omega) h0).1, if_neg h0]; rfl
end Dk
end Go.Proofs.Ytlfkgpllleogoaa

