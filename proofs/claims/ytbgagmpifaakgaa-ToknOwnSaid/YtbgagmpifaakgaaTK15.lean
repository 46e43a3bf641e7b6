/- TknTokMath -/
import Derived.Test.YtbgagmpifaakgaaTK14
namespace Go.Proofs.Ytbgagmpifaakgaa
set_option linter.unusedVariables false
namespace Tk
/-- the number at i -/
def kN (zs : List Int) (i : Nat) : Int := if i < zs.length then zs.getD i 0 else (i : Int) * 37
def tSeq (zs : List Int) : Int := kN zs 1 / 4096 % 64
def tHav (zs : List Int) (i : Nat) : Int := max (tSeq zs - kN zs (i + 3) % 16) 0
def tNee (zs : List Int) (i : Nat) : Int := max (tSeq zs - kN zs (i + 3) / 16 % 16) 0
def tHavs (zs : List Int) (n : Nat) : List Int := (List.range n).map (tHav zs)
def tNees (zs : List Int) (n : Nat) : List Int := (List.range n).map (tNee zs)
def nHav (zs : List Int) : Nat := (kN zs 2 % 8).toNat
def nNee (zs : List Int) : Nat := (kN zs 2 / 8 % 8).toNat
def tok0 (zs : List Int) : Mg := { Mg.zero with kind := 7, frm := kN zs 0 % 4, dst := kN zs 0 / 4 % 4, view := kN zs 0 / 16 % 256, hop := kN zs 1 % 4096, seq := tSeq zs }
def tok (zs : List Int) : Mg := { tok0 zs with hav := tHavs zs (nHav zs), nee := tNees zs (nNee zs) }
theorem tHavs_succ (zs : List Int) (n : Nat) : tHavs zs (n + 1) = tHavs zs n ++ [tHav zs n] := by simp [tHavs, List.range_succ]
theorem tNees_succ (zs : List Int) (n : Nat) : tNees zs (n + 1) = tNees zs n ++ [tNee zs n] := by simp [tNees, List.range_succ]
theorem tHavs_len (zs : List Int) (n : Nat) : (tHavs zs n).length = n := by simp [tHavs]
theorem tNees_len (zs : List Int) (n : Nat) : (tNees zs n).length = n := by simp [tNees]
theorem tok_bounds (zs : List Int) : (tok zs).hav.length ≤ 7 ∧ (tok zs).nee.length ≤ 7 ∧ 0 ≤ (tok zs).seq ∧ (tok zs).seq ≤ 63 ∧ 0 ≤ (tok zs).hop ∧ (tok zs).hop ≤ 4095 ∧ (∀ x ∈ (tok zs).hav, 0 ≤ x ∧ x ≤ 63) := by
  refine ⟨?_, ?_, ?_, ?_, ?_, ?_, fun x hx => ?_⟩
  · show (tHavs zs (nHav zs)).length ≤ 7; rw [tHavs_len]; unfold nHav; omega
  · show (tNees zs (nNee zs)).length ≤ 7; rw [tNees_len]; unfold nNee; omega
  · show 0 ≤ tSeq zs; unfold tSeq; omega
  · show tSeq zs ≤ 63; unfold tSeq; omega
  · show 0 ≤ kN zs 1 % 4096; omega
  · show kN zs 1 % 4096 ≤ 4095; omega
  · have hx : x ∈ tHavs zs (nHav zs) := hx
    unfold tHavs at hx
    obtain ⟨i, _, rfl⟩ := List.mem_map.1 hx
    unfold tHav tSeq
    omega
theorem safe_bounds {l : List Int} (h : ∀ x ∈ l, 0 ≤ x ∧ x ≤ 63) : 0 ≤ safe l ∧ safe l ≤ 63 := by
  cases l with
  | nil => exact ⟨Int.le_refl _, by show (0 : Int) ≤ 63; omega⟩
  | cons x l =>
    have hx := h x (by simp)
    have : ∀ (r : List Int) (b : Int), 0 ≤ b → b ≤ 63 → (∀ y ∈ r, 0 ≤ y ∧ y ≤ 63) → 0 ≤ r.foldl min b ∧ r.foldl min b ≤ 63 := by
      intro r
      induction r with
      | nil => intro b h1 h2 _; exact ⟨h1, h2⟩
      | cons y r ih => intro b h1 h2 h3; have := h3 y (by simp); exact ih (min b y) (by omega) (by omega) (fun z hz => h3 z (by simp [hz]))
    exact this l x hx.1 hx.2 (fun y hy => h y (by simp [hy]))
end Tk
end Go.Proofs.Ytbgagmpifaakgaa

