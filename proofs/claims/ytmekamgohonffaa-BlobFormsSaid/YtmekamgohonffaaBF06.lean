/- MapsMath -/
namespace Go.Proofs.Ytmekamgohonffaa
namespace Mp
section
variable {α : Type} [DecidableEq α]
end
/-- the order of bytes -/
def ltB : List Nat → List Nat → Bool
  | _, [] => false
  | [], _ :: _ => true
  | a :: x, b :: y => decide (a < b) || (decide (a = b) && ltB x y)
theorem ltB_trans {x y z : List Nat} (h1 : ltB x y = true) (h2 : ltB y z = true) : ltB x z = true := by
  induction x generalizing y z with
  | nil =>
    cases z with
    | nil => cases y <;> simp [ltB] at h2
    | cons c z => rfl
  | cons a x ih =>
    cases y with
    | nil => simp [ltB] at h1
    | cons b y =>
      cases z with
      | nil => simp [ltB] at h2
      | cons c z =>
        simp only [ltB, Bool.or_eq_true, decide_eq_true_eq, Bool.and_eq_true] at h1 h2 ⊢
        rcases h1 with h1 | ⟨rfl, h1⟩ <;> rcases h2 with h2 | ⟨rfl, h2⟩
        · exact .inl (by omega)
        · exact .inl h1
        · exact .inl h2
        · exact .inr ⟨rfl, ih h1 h2⟩
abbrev Pr := List Nat × List Nat
/-- a map: keys rise -/
def Rises (ps : List Pr) : Prop := ps.Pairwise fun p q => ltB p.1 q.1 = true
end Mp
end Go.Proofs.Ytmekamgohonffaa

