/- TknMath -/
import Derived.Test.YtbgagmpifaakgaaTF13
namespace Go.Proofs.Ytbgagmpifaakgaa
set_option linter.unusedVariables false
namespace Tk
def held (n lo hi : Int) : Int := min (max n lo) hi
/-- what the least has -/
def safe : List Int → Int
  | [] => 0
  | x :: l => l.foldl min x
def room (seq s : Int) : Int := if seq ≤ s then 4 else min 4 (16 - min (seq - s) 16)
def inn (l has : List Int) : List Int := l.filter fun x => decide (x ∈ has)
def out (l has : List Int) : List Int := l.filter fun x => !decide (x ∈ has)
def needA (s : Int) : List Int → List Int → List Int
  | acc, [] => acc
  | acc, i :: r => needA s (if i > s ∧ acc.length < 8 then acc ++ [i] else acc) r
def needB (s : Int) : List Int → List Int → List Int
  | acc, [] => acc
  | acc, i :: r => needB s (if i > s ∧ acc.length < 8 ∧ i ∉ acc then acc ++ [i] else acc) r
def need (rest missing : List Int) (s : Int) : List Int := needB s (needA s [] rest) missing
def hav (l : List Int) (p w : Int) : List Int := if 0 ≤ p ∧ p < (l.length : Int) then l.set p.toNat w else l
/-- handed on -/
def pass (m : Mg) (me p next whole fresh : Int) (has missing : List Int) : Mg :=
  { m with frm := me, dst := next, hop := m.hop + 1, seq := m.seq + held fresh 0 (room m.seq (safe m.hav)), hav := hav m.hav p whole, nee := need (out m.nee has) missing (safe (hav m.hav p whole)) }
def first (view n len : Int) : Mg := { Mg.zero with kind := 7, view := view, hop := 1, seq := len, hav := List.replicate (held n 1 7).toNat len }
theorem inn_snoc (l has : List Int) (x : Int) : inn (l ++ [x]) has = inn l has ++ (if x ∈ has then [x] else []) := by
  unfold inn; rw [List.filter_append]; congr 1; simp only [List.filter]; split <;> simp_all
theorem out_snoc (l has : List Int) (x : Int) : out (l ++ [x]) has = out l has ++ (if x ∈ has then [] else [x]) := by
  unfold out; rw [List.filter_append]; congr 1; simp only [List.filter]; split <;> simp_all
theorem needA_snoc (s : Int) : ∀ (l acc : List Int) (x : Int), needA s acc (l ++ [x]) = (if x > s ∧ (needA s acc l).length < 8 then needA s acc l ++ [x] else needA s acc l)
  | [], acc, x => rfl
  | i :: l, acc, x => by show needA s _ (l ++ [x]) = _; rw [needA_snoc s l]; rfl
theorem needB_snoc (s : Int) : ∀ (l acc : List Int) (x : Int), needB s acc (l ++ [x]) = (if x > s ∧ (needB s acc l).length < 8 ∧ x ∉ needB s acc l then needB s acc l ++ [x] else needB s acc l)
  | [], acc, x => rfl
  | i :: l, acc, x => by show needB s _ (l ++ [x]) = _; rw [needB_snoc s l]; rfl
theorem needA_len (s : Int) : ∀ (l acc : List Int), acc.length ≤ 8 → (needA s acc l).length ≤ 8
  | [], acc, h => h
  | i :: l, acc, h => by
    show (needA s _ l).length ≤ 8
    refine needA_len s l _ ?_
    split
    · next h1 => simp; omega
    · exact h
theorem out_len (l has : List Int) : (out l has).length ≤ l.length := List.length_filter_le _ _
theorem hav_len (l : List Int) (p w : Int) : (hav l p w).length = l.length := by unfold hav; split <;> simp
theorem foldl_min_take : ∀ (l : List Int) (x : Int) (k : Nat) (z : Int), l[k]? = some z → (l.take (k + 1)).foldl min x = min ((l.take k).foldl min x) z := by
  intro l x k z h
  rw [List.take_add_one, h, Option.toList, List.foldl_append]; rfl
end Tk
end Go.Proofs.Ytbgagmpifaakgaa

