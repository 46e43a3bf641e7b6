/- CrcMath -/
import Init
namespace Go.Proofs.Ytlfkgpllleogoaa
namespace Crc

/-- one step: the lowest bit out -/
def stp (c : Nat) : Nat := if c % 2 = 1 then (c / 2) ^^^ 3988292384 else c / 2
def stpN : Nat → Nat → Nat
  | 0, c => c
  | n + 1, c => stp (stpN n c)
def nxt (c x : Nat) : Nat := stpN 8 (c ^^^ x)
def run (c : Nat) (l : List Nat) : Nat := l.foldl nxt c
def sum (l : List Nat) : Nat := run 4294967295 l ^^^ 4294967295

theorem xor_lt32 {a b : Nat} (ha : a < 4294967296) (hb : b < 4294967296) : a ^^^ b < 4294967296 := Nat.xor_lt_two_pow (n := 32) ha hb
theorem xor_lt8 {a b : Nat} (ha : a < 256) (hb : b < 256) : a ^^^ b < 256 := Nat.xor_lt_two_pow (n := 8) ha hb
theorem stp_lt {c : Nat} (h : c < 4294967296) : stp c < 4294967296 := by
  unfold stp; split
  · exact xor_lt32 (by omega) (by omega)
  · omega
theorem stpN_lt (n : Nat) {c : Nat} (h : c < 4294967296) : stpN n c < 4294967296 := by
  induction n with
  | zero => exact h
  | succ n ih => exact stp_lt ih
theorem nxt_lt {c x : Nat} (h : c < 4294967296) (hx : x < 256) : nxt c x < 4294967296 := stpN_lt 8 (xor_lt32 h (by omega))
theorem run_lt {c : Nat} (l : List Nat) (h : c < 4294967296) (hl : ∀ x ∈ l, x < 256) : run c l < 4294967296 := by
  induction l generalizing c with
  | nil => exact h
  | cons x l ih => exact ih (nxt_lt h (hl x (by simp))) (fun y hy => hl y (by simp [hy]))
theorem sum_lt (l : List Nat) (hl : ∀ x ∈ l, x < 256) : sum l < 4294967296 := xor_lt32 (run_lt l (by omega) hl) (by omega)
theorem run_snoc (c : Nat) (l : List Nat) (x : Nat) : run c (l ++ [x]) = nxt (run c l) x := by simp [run]
theorem run_app (c : Nat) (l m : List Nat) : run c (l ++ m) = run (run c l) m := by simp [run]

theorem xor4 (a b c d : Nat) : (a ^^^ b) ^^^ (c ^^^ d) = (a ^^^ c) ^^^ (b ^^^ d) := by ac_rfl
theorem stp_xor (a b : Nat) : stp (a ^^^ b) = stp a ^^^ stp b := by
  have hd : (a ^^^ b) / 2 = a / 2 ^^^ b / 2 := Nat.xor_div_two
  have hm : (a ^^^ b) % 2 = a % 2 ^^^ b % 2 := Nat.xor_mod_two_pow (n := 1)
  unfold stp
  rw [hm, hd]
  have ha := Nat.mod_two_eq_zero_or_one a
  have hb := Nat.mod_two_eq_zero_or_one b
  rcases ha with ha | ha <;> rcases hb with hb | hb <;> rw [ha, hb]
  · rfl
  · rw [if_pos (by decide), if_neg (by decide), if_pos rfl]; ac_rfl
  · rw [if_pos (by decide), if_pos rfl, if_neg (by decide)]; ac_rfl
  · rw [if_neg (by decide), if_pos rfl, if_pos rfl, xor4, Nat.xor_self, Nat.xor_zero]
theorem stpN_xor (n a b : Nat) : stpN n (a ^^^ b) = stpN n a ^^^ stpN n b := by
  induction n with
  | zero => rfl
  | succ n ih => simp only [stpN, ih, stp_xor]
theorem nxt_xor (a b x y : Nat) : nxt (a ^^^ b) (x ^^^ y) = nxt a x ^^^ nxt b y := by
  unfold nxt; rw [← stpN_xor, xor4]

theorem xor_eq_zero {a b : Nat} : a ^^^ b = 0 ↔ a = b := by
  constructor
  · intro h
    have h2 : a ^^^ b ^^^ b = 0 ^^^ b := by rw [h]
    rwa [Nat.xor_assoc, Nat.xor_self, Nat.xor_zero, Nat.zero_xor] at h2
  · rintro rfl; exact Nat.xor_self _
theorem stp_zero {c : Nat} (hc : c < 4294967296) (h : stp c = 0) : c = 0 := by
  unfold stp at h; split at h
  · have := xor_eq_zero.1 h; omega
  · omega
theorem stpN_zero (n : Nat) {c : Nat} (hc : c < 4294967296) (h : stpN n c = 0) : c = 0 := by
  induction n with
  | zero => exact h
  | succ n ih => exact ih (stp_zero (stpN_lt n hc) h)
theorem stpN_inj (n : Nat) {a b : Nat} (ha : a < 4294967296) (hb : b < 4294967296) (h : stpN n a = stpN n b) : a = b :=
  xor_eq_zero.1 (stpN_zero n (xor_lt32 ha hb) (by rw [stpN_xor]; exact xor_eq_zero.2 h))
theorem xor_left {a b c : Nat} (h : a ^^^ b = a ^^^ c) : b = c := by
  have h2 : a ^^^ (a ^^^ b) = a ^^^ (a ^^^ c) := by rw [h]
  rwa [← Nat.xor_assoc, ← Nat.xor_assoc, Nat.xor_self, Nat.zero_xor, Nat.zero_xor] at h2
theorem sum_eq (l m : List Nat) : sum l = sum m ↔ run 4294967295 l = run 4294967295 m := by
  unfold sum
  exact ⟨fun h => by rw [Nat.xor_comm _ 4294967295, Nat.xor_comm _ 4294967295] at h; exact xor_left h, fun h => by rw [h]⟩
/-- two rows laid on each other -/
def lay : List Nat → List Nat → List Nat
  | x :: l, y :: m => (x ^^^ y) :: lay l m
  | _, _ => []
theorem run_lay (a b : Nat) (l m : List Nat) (h : l.length = m.length) : run (a ^^^ b) (lay l m) = run a l ^^^ run b m := by
  induction l generalizing a b m with
  | nil => cases m with
    | nil => rfl
    | cons => simp at h
  | cons x l ih => cases m with
    | nil => simp at h
    | cons y m =>
      show run (nxt (a ^^^ b) (x ^^^ y)) (lay l m) = run (nxt a x) l ^^^ run (nxt b y) m
      rw [nxt_xor]; exact ih _ _ _ (by simpa using h)
theorem lay_length (l m : List Nat) (h : l.length = m.length) : (lay l m).length = l.length := by
  induction l generalizing m with
  | nil => cases m <;> simp [lay]
  | cons x l ih => cases m with
    | nil => simp at h
    | cons y m => simp [lay, ih m (by simpa using h)]
theorem stp_two (z : Nat) : stp (2 * z) = z := by unfold stp; rw [if_neg (by omega)]; omega
theorem stpN_256 (y : Nat) : stpN 8 (256 * y) = y := by
  have e : 256 * y = 2 * (2 * (2 * (2 * (2 * (2 * (2 * (2 * y))))))) := by omega
  rw [e]; simp only [stpN, stp_two]
theorem back {c x y : Nat} (hc : c < 4294967296) (hx : x < 256) (hy : y < 16777216) (h : nxt c x = y) : c = x ^^^ (256 * y) := by
  have h2 : stpN 8 (c ^^^ x) = stpN 8 (256 * y) := by rw [stpN_256]; exact h
  have h3 := stpN_inj 8 (xor_lt32 hc (by omega)) (by omega) h2
  rw [← h3, Nat.xor_comm c x, ← Nat.xor_assoc, Nat.xor_self, Nat.zero_xor]
theorem xor_256 {x y : Nat} (hx : x < 256) : x ^^^ (256 * y) = x + 256 * y := by
  have e := Nat.two_pow_add_eq_or_of_lt (i := 8) hx y
  have e2 : 2 ^ 8 * y = 256 * y := by omega
  rw [e2] at e
  rw [Nat.add_comm, e]
  apply Nat.eq_of_testBit_eq
  intro i
  rw [Nat.testBit_xor, Nat.testBit_or]
  rcases Nat.lt_or_ge i 8 with hi | hi
  · have : (256 * y).testBit i = false := by
      have := Nat.testBit_two_pow_mul (i := 8) (a := y) (j := i)
      rw [e2] at this; rw [this]; simp; omega
    rw [this]; simp
  · have : x.testBit i = false := Nat.testBit_lt_two_pow (Nat.lt_of_lt_of_le (show x < 2 ^ 8 from hx) (Nat.pow_le_pow_right (by omega) hi))
    rw [this]; simp
theorem four {a b c d : Nat} (ha : a < 256) (hb : b < 256) (hc : c < 256) (hd : d < 256) (h : run 0 [a, b, c, d] = 0) : a = 0 ∧ b = 0 ∧ c = 0 ∧ d = 0 := by
  have h' : nxt (nxt (nxt (nxt 0 a) b) c) d = 0 := h
  have l1 := nxt_lt (c := 0) (by omega) ha
  have l2 := nxt_lt l1 hb
  have l3 := nxt_lt l2 hc
  have e3 := back l3 hd (by omega) h'
  rw [xor_256 hd] at e3
  have e2 := back l2 hc (by omega) e3
  rw [xor_256 hc] at e2
  have e1 := back l1 hb (by omega) e2
  rw [xor_256 hb] at e1
  have e0 := back (c := 0) (by omega) ha (by omega) e1
  rw [xor_256 ha] at e0
  omega
theorem run_zeros (n : Nat) {c : Nat} (hc : c < 4294967296) : run c (List.replicate n 0) = 0 ↔ c = 0 := by
  induction n generalizing c with
  | zero => simp [run]
  | succ n ih =>
    show run (nxt c 0) (List.replicate n 0) = 0 ↔ c = 0
    rw [ih (nxt_lt hc (by omega))]
    constructor
    · intro h
      have := stpN_zero 8 (c := c ^^^ 0) (xor_lt32 hc (by omega)) h
      simpa using this
    · rintro rfl; decide
end Crc
end Go.Proofs.Ytlfkgpllleogoaa

