/- PackMath -/
namespace Go.Proofs.Ytmekamgohonffaa
namespace Pk
/-- the greatest number -/
def top : Nat := 4611686018427387904
/-- the nearest number that may be -/
def held (n : Int) : Nat := min n.toNat top
theorem held_le (n : Int) : held n ≤ top := Nat.min_le_right _ _
theorem held_of {n : Nat} (h : n ≤ top) : held (n : Int) = n := by unfold held; omega
/-- groups of seven bits, the lowest first; at most f more -/
def encF : Nat → Nat → List Nat
  | 0, n => [n]
  | f + 1, n => if n < 128 then [n] else (n % 128 + 128) :: encF f (n / 128)
def enc (n : Nat) : List Nat := encF 8 n
theorem encF_more : ∀ (f n : Nat), n < 128 ^ (f + 1) → encF f n = encF (f + 1) n := by
  intro f
  induction f with
  | zero => intro n h; have h' : n < 128 := by simpa using h
            simp [encF, h']
  | succ f ih =>
    intro n h
    show (if n < 128 then [n] else (n % 128 + 128) :: encF f (n / 128)) = (if n < 128 then [n] else (n % 128 + 128) :: encF (f + 1) (n / 128))
    rw [ih (n / 128) (by rw [Nat.pow_succ] at h; exact Nat.div_lt_of_lt_mul (by omega))]
theorem enc_small {n : Nat} (h : n < 128) : enc n = [n] := by simp [enc, encF, h]
theorem enc_big {n : Nat} (h : 128 ≤ n) (ht : n ≤ top) : enc n = (n % 128 + 128) :: enc (n / 128) := by
  have e : encF 7 (n / 128) = encF 8 (n / 128) := encF_more 7 _ (by unfold top at ht; omega)
  unfold enc
  rw [← e]
  show (if n < 128 then [n] else (n % 128 + 128) :: encF 7 (n / 128)) = _
  rw [if_neg (by omega)]
theorem encF_length : ∀ (f n : Nat), 1 ≤ (encF f n).length ∧ (encF f n).length ≤ f + 1 := by
  intro f
  induction f with
  | zero => intro n; simp [encF]
  | succ f ih =>
    intro n
    have := ih (n / 128)
    unfold encF
    split
    · simp
    · simp only [List.length_cons]; omega
theorem enc_length (n : Nat) : 1 ≤ (enc n).length ∧ (enc n).length ≤ 9 := encF_length 8 n
theorem enc_lt {n : Nat} (h : n ≤ top) : ∀ x ∈ enc n, x < 256 := by
  have key : ∀ (f n : Nat), n < 128 ^ (f + 1) → ∀ x ∈ encF f n, x < 256 := by
    intro f
    induction f with
    | zero => intro n h x hx; simp [encF] at hx; subst hx; simp at h; omega
    | succ f ih =>
      intro n h x hx
      unfold encF at hx
      split at hx
      · simp at hx; omega
      · rcases List.mem_cons.1 hx with rfl | hx
        · omega
        · exact ih (n / 128) (by rw [Nat.pow_succ] at h; exact Nat.div_lt_of_lt_mul (by omega)) x hx
  exact key 8 n (by unfold top at h; omega)
/-- the number at the head, and how many bytes it takes: 0 where none is there in its one form; i bytes are read, and say acc -/
def dec : Nat → Nat → List Nat → Nat × Nat
  | _, _, [] => (0, 0)
  | i, acc, x :: l =>
    if 9 ≤ i then (0, 0)
    else if 128 ≤ x then dec (i + 1) (acc + x % 128 * 128 ^ i) l
    else if x = 0 ∧ 0 < i then (0, 0)
    else (acc + x * 128 ^ i, i + 1)
def first (l : List Nat) : Nat × Nat := dec 0 0 l
theorem dec_enc : ∀ (f i n acc : Nat) (rest : List Nat), n < 128 ^ (f + 1) → i + f ≤ 8 → (0 < i → 0 < n) → dec i acc (encF f n ++ rest) = (acc + n * 128 ^ i, i + (encF f n).length) := by
  intro f
  induction f with
  | zero =>
    intro i n acc rest h hi h0
    have h' : n < 128 := by simpa using h
    show dec i acc (n :: rest) = _
    simp only [dec]
    rw [if_neg (by omega), if_neg (by omega), if_neg (by omega)]; rfl
  | succ f ih =>
    intro i n acc rest h hi h0
    by_cases hs : n < 128
    · have e : encF (f + 1) n = [n] := by unfold encF; rw [if_pos hs]
      rw [e]
      show dec i acc (n :: rest) = _
      simp only [dec]
      rw [if_neg (by omega), if_neg (by omega), if_neg (by omega)]; rfl
    · have e : encF (f + 1) n = (n % 128 + 128) :: encF f (n / 128) := by
        show (if n < 128 then [n] else (n % 128 + 128) :: encF f (n / 128)) = _
        rw [if_neg hs]
      rw [e]
      show dec i acc ((n % 128 + 128) :: (encF f (n / 128) ++ rest)) = _
      simp only [dec]
      rw [if_neg (by omega), if_pos (by omega), ih (i + 1) (n / 128) _ rest (by rw [Nat.pow_succ] at h; exact Nat.div_lt_of_lt_mul (by omega)) (by omega) (by omega)]
      simp only [List.length_cons, Prod.mk.injEq]
      constructor
      · have e1 : (n % 128 + 128) % 128 = n % 128 := by omega
        have e2 : n % 128 * 128 ^ i + n / 128 * 128 ^ (i + 1) = n * 128 ^ i := by
          have h1 : n / 128 * 128 ^ (i + 1) = n / 128 * 128 * 128 ^ i := by rw [Nat.pow_succ]; rw [Nat.mul_comm (128 ^ i) 128, ← Nat.mul_assoc]
          rw [h1, ← Nat.add_mul]
          congr 1
          omega
        rw [e1]; omega
      · omega
theorem first_enc {n : Nat} (h : n ≤ top) (rest : List Nat) : first (enc n ++ rest) = (n, (enc n).length) := by
  have := dec_enc 8 0 n 0 rest (by unfold top at h; omega) (by omega) (by omega)
  simpa [first, enc] using this
theorem dec_size : ∀ (l : List Nat) (i acc : Nat), (dec i acc l).2 = 0 ∨ (i < (dec i acc l).2 ∧ (dec i acc l).2 ≤ i + l.length ∧ (dec i acc l).2 ≤ 9) := by
  intro l
  induction l with
  | nil => intro i acc; left; rfl
  | cons x l ih =>
    intro i acc
    simp only [dec]
    split
    · left; rfl
    · split
      · have := ih (i + 1) (acc + x % 128 * 128 ^ i)
        simp only [List.length_cons]
        omega
      · split
        · left; rfl
        · right
          simp only [List.length_cons]
          omega
theorem first_size (l : List Nat) : (first l).2 ≤ l.length ∧ (first l).2 ≤ 9 := by
  have := dec_size l 0 0
  unfold first
  omega
/-- one number read out of l, of at most m -/
def rNum (l : List Nat) (m : Nat) : Option (Nat × List Nat) := if (first l).2 = 0 ∨ m < (first l).1 then none else some ((first l).1, l.drop (first l).2)
/-- a reader that read nothing that is none: what is left; one that did: none -/
abbrev St := Option (List Nat)
def numN (s : St) (m : Int) : Option (Nat × List Nat) := s.bind fun l => rNum l (held m)
def numV (s : St) (m : Int) : Nat := ((numN s m).map (·.1)).getD 0
def numS (s : St) (m : Int) : St := (numN s m).map (·.2)
def bytN (s : St) (m : Int) : Option (List Nat × List Nat) := (numN s m).bind fun p => if p.2.length < p.1 then none else some (p.2.take p.1, p.2.drop p.1)
def bytV (s : St) (m : Int) : List Nat := ((bytN s m).map (·.1)).getD []
def bytS (s : St) (m : Int) : St := (bytN s m).map (·.2)
theorem byt_of {s : St} {m : Int} (h : ¬ ((numS s m).getD []).length < numV s m) : bytV s m = ((numS s m).getD []).take (numV s m) ∧ bytS s m = (numS s m).map (List.drop (numV s m)) := by
  unfold bytV bytS bytN
  unfold numS numV at *
  cases hn : numN s m with
  | none => exact ⟨rfl, rfl⟩
  | some p =>
    rw [hn] at h
    have h' : ¬ p.2.length < p.1 := h
    simp [h']
theorem byt_no {s : St} {m : Int} (h : ((numS s m).getD []).length < numV s m) : bytV s m = [] ∧ bytS s m = none := by
  unfold bytV bytS bytN
  unfold numS numV at *
  cases hn : numN s m with
  | none => exact ⟨rfl, rfl⟩
  | some p =>
    rw [hn] at h
    have h' : p.2.length < p.1 := h
    simp [h']
theorem rNum_enc {n : Nat} (h : n ≤ top) (rest : List Nat) (m : Nat) (hm : n ≤ m) : rNum (enc n ++ rest) m = some (n, rest) := by
  unfold rNum
  rw [first_enc h]
  have := enc_length n
  simp only
  rw [if_neg (by omega), List.drop_left']
  rfl
/-- the bytes of some bytes: their length, and they -/
def encB (x : List Nat) : List Nat := enc x.length ++ x
theorem encB_lt {x : List Nat} (h : ∀ y ∈ x, y < 256) (hl : x.length ≤ top) : ∀ y ∈ encB x, y < 256 := by
  intro y hy
  rcases List.mem_append.1 hy with hy | hy
  · exact enc_lt hl y hy
  · exact h y hy
theorem numN_enc {n : Nat} (h : n ≤ top) (rest : List Nat) (m : Int) (hm : n ≤ held m) : numN (some (enc n ++ rest)) m = some (n, rest) := rNum_enc h rest _ hm
theorem bytN_enc (x rest : List Nat) (m : Int) (h : x.length ≤ top) (hm : x.length ≤ held m) : bytN (some (encB x ++ rest)) m = some (x, rest) := by
  unfold bytN encB
  rw [List.append_assoc, numN_enc h _ _ hm]
  simp only [Option.bind_some]
  rw [if_neg (by simp), List.take_left', List.drop_left'] <;> rfl
theorem numV_is {s : St} {m : Int} {n : Nat} {l : List Nat} (h : numN s m = some (n, l)) : numV s m = n ∧ numS s m = some l := by
  unfold numV numS; rw [h]; exact ⟨rfl, rfl⟩
theorem numV_no {s : St} {m : Int} (h : numN s m = none) : numV s m = 0 ∧ numS s m = none := by
  unfold numV numS; rw [h]; exact ⟨rfl, rfl⟩
theorem bytV_is {s : St} {m : Int} {x l : List Nat} (h : bytN s m = some (x, l)) : bytV s m = x ∧ bytS s m = some l := by
  unfold bytV bytS; rw [h]; exact ⟨rfl, rfl⟩
/-- numbers, one behind the other -/
def encs : List Int → List Nat
  | [] => []
  | z :: zs => enc (held z) ++ encs zs
theorem encs_snoc (zs : List Int) (z : Int) : encs (zs ++ [z]) = encs zs ++ enc (held z) := by
  induction zs with
  | nil => simp [encs]
  | cons y zs ih => simp [encs, ih]
theorem encs_length (zs : List Int) : (encs zs).length ≤ 9 * zs.length := by
  induction zs with
  | nil => simp [encs]
  | cons y zs ih =>
    have := enc_length (held y)
    simp only [encs, List.length_append, List.length_cons]
    omega
theorem encs_lt (zs : List Int) : ∀ x ∈ encs zs, x < 256 := by
  induction zs with
  | nil => intro x hx; cases hx
  | cons y zs ih =>
    intro x hx
    rcases List.mem_append.1 hx with hx | hx
    · exact enc_lt (held_le y) x hx
    · exact ih x hx
end Pk
end Go.Proofs.Ytmekamgohonffaa

