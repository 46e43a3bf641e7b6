/- BlobMath BookMath -/
import Derived.Test.YtaknfmionkkdjaaGreatFO02
import Derived.Test.YtaknfmionkkdjaaGreatFO22
import Derived.Test.YtaknfmionkkdjaaGreatFO26
import Init
namespace Go.Proofs.YtaknfmionkkdjaaGreat
set_option linter.unusedVariables false
/-- a state -/
structure Sb where
  pos : Int
  m : Mc
  rest : List En
def Sb.zero : Sb := ⟨0, Mc.zero, []⟩
namespace Sb
end Sb
end Go.Proofs.YtaknfmionkkdjaaGreat

namespace Go.Proofs.YtaknfmionkkdjaaGreat
set_option linter.unusedVariables false
/-- a book: its machine, up to where it is applied, what it has behind, up to where nothing is missing -/
structure Bk where
  m : Mc
  pos : Int
  f : Int → Option En
  wh : Int
namespace Bk
def new : Bk := ⟨Mc.zero, 0, fun _ => none, 0⟩
/-- nothing is missing up to w, and what is behind it is -/
structure Whole (f : Int → Option En) (p w : Int) : Prop where
  le : p ≤ w
  all : ∀ i, p < i → i ≤ w → (f i).isSome = true
  no : f (w + 1) = none
theorem Whole.uniq {f : Int → Option En} {p w w' : Int} (h : Whole f p w) (h' : Whole f p w') : w = w' := by
  rcases Int.lt_trichotomy w w' with h1 | h1 | h1
  · have := h'.all (w + 1) (by have := h.le; omega) (by omega)
    rw [h.no] at this; cases this
  · exact h1
  · have := h.all (w' + 1) (by have := h'.le; omega) (by omega)
    rw [h'.no] at this; cases this
/-- one looks from n on, at most k further -/
def up (f : Int → Option En) : Nat → Int → Int
  | 0, n => n
  | k + 1, n => if (f (n + 1)).isSome then up f k (n + 1) else n
theorem up_whole {f : Int → Option En} {hi : Int} (hf : ∀ i, hi < i → f i = none) : ∀ (k : Nat) (p n : Int), p ≤ n → (∀ i, p < i → i ≤ n → (f i).isSome = true) → hi ≤ n + k → Whole f p (up f k n)
  | 0, p, n, hp, ha, hk => ⟨hp, ha, hf _ (by show hi < n + 1; omega)⟩
  | k + 1, p, n, hp, ha, hk => by
    unfold up
    by_cases h : (f (n + 1)).isSome = true
    · rw [if_pos h]
      exact up_whole hf k p (n + 1) (by omega) (fun i h1 h2 => by by_cases e : i = n + 1; · subst e; exact h
                                                                  · exact ha i h1 (by omega)) (by omega)
    · rw [if_neg h]
      exact ⟨hp, ha, by simpa using h⟩
def upd (f : Int → Option En) (i : Int) (e : En) : Int → Option En := fun k => if k = i then some e else f k
/-- what a book keeps -/
structure Ok (k : Bk) : Prop where
  m : k.m.Ok
  p0 : 0 ≤ k.pos
  p1 : k.pos ≤ 1099511627776
  w : Whole k.f k.pos k.wh
  lo : ∀ i, i ≤ k.pos → k.f i = none
  hi : ∀ i, k.wh + 64 < i → k.f i = none
  c : ∀ i e, k.f i = some e → e.c.Fits
/-- whether one may be added at i -/
def may (k : Bk) (i : Int) : Bool := !(k.f i).isSome && decide (k.pos < i) && decide (i ≤ k.wh + 64)
def addWh (k : Bk) (i : Int) (e : En) : Int := up (upd k.f i e) (65 + 65) k.wh
def add (k : Bk) (i : Int) (e : En) : Bk := if k.may i then ⟨k.m, k.pos, upd k.f i e, k.addWh i e⟩ else k
/-- the first of what is missing above, from n on -/
def missF (f : Int → Option En) (top : Int) : Nat → Nat → Int → List Int
  | 0, _, _ => []
  | _ + 1, 0, _ => []
  | fuel + 1, left + 1, n => if top < n then [] else if (f n).isSome then missF f top fuel (left + 1) (n + 1) else n :: missF f top fuel left (n + 1)
def missing (k : Bk) (top : Int) : List Int := missF k.f top 200 8 (k.wh + 1)
/-- entries applied, one by one, from n on -/
structure Dn where
  i : Int
  e : En
  r : MAns
def play (f : Int → Option En) : Nat → Int → Mc → Mc × List Dn
  | 0, _, m => (m, [])
  | c + 1, n, m =>
    let e := (f (n + 1)).getD En.zero
    let r := m.step e
    let q := play f c (n + 1) r.m
    (q.1, ⟨n + 1, e, r⟩ :: q.2)
def top (k : Bk) (t : Int) : Int := min t k.wh
def cnt (k : Bk) (t : Int) : Nat := (k.top t - k.pos).toNat
def cut (f : Int → Option En) (p : Int) : Int → Option En := fun i => if i ≤ p then none else f i
def apply (k : Bk) (t : Int) : Bk := ⟨(play k.f (k.cnt t) k.pos k.m).1, k.pos + k.cnt t, cut k.f (k.pos + k.cnt t), k.wh⟩
def dones (k : Bk) (t : Int) : List Dn := (play k.f (k.cnt t) k.pos k.m).2
/-- the entries that are whole -/
def rest (f : Int → Option En) : Nat → Int → List En
  | 0, _ => []
  | c + 1, n => (f (n + 1)).getD En.zero :: rest f c (n + 1)
def state (k : Bk) : Sb := ⟨k.pos, k.m, rest k.f (k.wh - k.pos).toNat k.pos⟩
def load (s : Sb) : Bk := ⟨s.m, s.pos, fun i => if s.pos < i then s.rest[(i - s.pos - 1).toNat]? else none, s.pos + s.rest.length⟩
theorem rest_len (f : Int → Option En) : ∀ (c : Nat) (n : Int), (rest f c n).length = c
  | 0, n => rfl
  | c + 1, n => by simp only [rest, List.length_cons, rest_len f c (n + 1)]
theorem rest_at (f : Int → Option En) : ∀ (c : Nat) (n : Int) (j : Nat), j < c → (rest f c n)[j]? = some ((f (n + 1 + j)).getD En.zero)
  | 0, n, j, h => by omega
  | c + 1, n, 0, h => by simp [rest]
  | c + 1, n, j + 1, h => by
    simp only [rest, List.getElem?_cons_succ]
    rw [rest_at f c (n + 1) j (by omega)]
    congr 3
    omega
theorem rest_snoc (f : Int → Option En) : ∀ (c : Nat) (n : Int), rest f (c + 1) n = rest f c n ++ [(f (n + 1 + c)).getD En.zero]
  | 0, n => by simp [rest]
  | c + 1, n => by
    have h := rest_snoc f c (n + 1)
    show (f (n + 1)).getD En.zero :: rest f (c + 1) (n + 1) = _
    rw [h]
    simp only [rest, List.cons_append]
    congr 5
    omega
theorem play_snoc (f : Int → Option En) : ∀ (c : Nat) (n : Int) (m : Mc), play f (c + 1) n m = ((((play f c n m).1).step ((f (n + 1 + c)).getD En.zero)).m, (play f c n m).2 ++ [⟨n + 1 + c, (f (n + 1 + c)).getD En.zero, ((play f c n m).1).step ((f (n + 1 + c)).getD En.zero)⟩])
  | 0, n, m => by simp [play]
  | c + 1, n, m => by
    have h := play_snoc f c (n + 1) (m.step ((f (n + 1)).getD En.zero)).m
    have e : n + 1 + 1 + (c : Int) = n + 1 + ((c + 1 : Nat) : Int) := by omega
    rw [e] at h
    show (let e := (f (n + 1)).getD En.zero; let r := m.step e; let q := play f (c + 1) (n + 1) r.m; (q.1, (⟨n + 1, e, r⟩ : Dn) :: q.2)) = _
    simp only
    rw [h]
    simp only [play, List.cons_append]
theorem play_len (f : Int → Option En) : ∀ (c : Nat) (n : Int) (m : Mc), (play f c n m).2.length = c
  | 0, n, m => rfl
  | c + 1, n, m => by simp only [play, List.length_cons, play_len f c]
end Bk
end Go.Proofs.YtaknfmionkkdjaaGreat

