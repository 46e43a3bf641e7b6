/- ViewPick2 -/
import Derived.Test.YtneehnoolhadbaaGP09
namespace Go.Proofs.Ytneehnoolhadbaa
namespace Vw
def cand (t : Int) (s : Sv) : Prop := s.has = true ∧ s.inst = t
/-- the best of those from nodes below i -/
def Src (sts : List Sv) (t : Int) (i : Nat) (src : Int) : Prop :=
  (src = -1 ∧ ∀ s ∈ sts, s.frm < (i : Int) → ¬ cand t s) ∨
  (∃ b ∈ sts, src = b.frm ∧ b.frm < (i : Int) ∧ cand t b ∧ ∀ s ∈ sts, s.frm < (i : Int) → cand t s → s.len < b.len ∨ s.len = b.len ∧ b.frm ≤ s.frm)
theorem one_of {sts : List Sv} (h : sts.Pairwise (fun a b => a.frm ≠ b.frm)) : ∀ {a b : Sv}, a ∈ sts → b ∈ sts → a.frm = b.frm → a = b := by
  induction sts with
  | nil => intro a b ha; cases ha
  | cons x l ih =>
    rw [List.pairwise_cons] at h
    intro a b ha hb he
    rcases List.mem_cons.1 ha with rfl | ha'
    · rcases List.mem_cons.1 hb with rfl | hb'
      · rfl
      · exact absurd he (h.1 b hb')
    · rcases List.mem_cons.1 hb with rfl | hb'
      · exact absurd he.symm (h.1 a ha')
      · exact ih h.2 ha' hb' he
section
variable {sts : List Sv} {t src : Int} {i : Nat}
theorem src_start (h : ∀ s ∈ sts, 0 ≤ s.frm) : Src sts t 0 (-1) := .inl ⟨rfl, fun s hs hl => by have := h s hs; omega⟩
theorem src_skip (h : Src sts t i src) (hn : ∀ s ∈ sts, s.frm = (i : Int) → ¬ cand t s) : Src sts t (i + 1) src := by
  rcases h with ⟨h1, h2⟩ | ⟨b, hb, h1, h2, h3, h4⟩
  · refine .inl ⟨h1, fun s hs hl => ?_⟩
    by_cases he : s.frm = (i : Int)
    · exact hn s hs he
    · exact h2 s hs (by omega)
  · refine .inr ⟨b, hb, h1, by omega, h3, fun s hs hl hc => ?_⟩
    by_cases he : s.frm = (i : Int)
    · exact absurd hc (hn s hs he)
    · exact h4 s hs (by omega) hc
theorem src_new {b : Sv} (h : Src sts t i src) (hp : sts.Pairwise (fun a b => a.frm ≠ b.frm)) (h0 : ∀ s ∈ sts, 0 ≤ s.frm) (hb : b ∈ sts) (hf : b.frm = (i : Int)) (hc : cand t b) (hs : src < 0) : Src sts t (i + 1) (i : Int) := by
  rcases h with ⟨_, h2⟩ | ⟨c, hc', h1, _⟩
  · refine .inr ⟨b, hb, hf.symm, by omega, hc, fun s hs hl hcs => ?_⟩
    by_cases he : s.frm = (i : Int)
    · obtain rfl := one_of hp hs hb (by omega)
      exact .inr ⟨rfl, Int.le_refl _⟩
    · exact absurd hcs (h2 s hs (by omega))
  · have := h0 c hc'; omega
theorem src_better {b c : Sv} (h : Src sts t i src) (hp : sts.Pairwise (fun a b => a.frm ≠ b.frm)) (hb : b ∈ sts) (hf : b.frm = (i : Int)) (hc : cand t b) (hcm : c ∈ sts) (hcs : src = c.frm) (h0 : 0 ≤ src) (hl : c.len < b.len) : Src sts t (i + 1) (i : Int) := by
  rcases h with ⟨h1, _⟩ | ⟨c', hc', h1, _, _, h4⟩
  · omega
  · obtain rfl := one_of hp hcm hc' (by omega)
    refine .inr ⟨b, hb, hf.symm, by omega, hc, fun s hs hl' hcs' => ?_⟩
    by_cases he : s.frm = (i : Int)
    · obtain rfl := one_of hp hs hb (by omega)
      exact .inr ⟨rfl, Int.le_refl _⟩
    · have := h4 s hs (by omega) hcs'
      left; omega
theorem src_keep {b c : Sv} (h : Src sts t i src) (hp : sts.Pairwise (fun a b => a.frm ≠ b.frm)) (hb : b ∈ sts) (hf : b.frm = (i : Int)) (hcm : c ∈ sts) (hcs : src = c.frm) (h0 : 0 ≤ src) (hl : b.len ≤ c.len) : Src sts t (i + 1) src := by
  rcases h with ⟨h1, _⟩ | ⟨c', hc', h1, h2, h3, h4⟩
  · omega
  · obtain rfl := one_of hp hcm hc' (by omega)
    refine .inr ⟨c, hcm, hcs, by omega, h3, fun s hs hl' hcs' => ?_⟩
    by_cases he : s.frm = (i : Int)
    · obtain rfl := one_of hp hs hb (by omega)
      omega
    · exact h4 s hs (by omega) hcs'
theorem src_who (h : Src sts t i src) : src < 0 ∨ ∃ c ∈ sts, src = c.frm := by
  rcases h with ⟨h1, _⟩ | ⟨c, hc, h1, _⟩
  · left; omega
  · exact .inr ⟨c, hc, h1⟩
/-- at the end -/
theorem src_no {n : Nat} (h : Src sts t n src) (hf : ∀ s ∈ sts, 0 ≤ s.frm ∧ s.frm < (n : Int)) (hs : src < 0) : Best t sts none := by
  rcases h with ⟨_, h2⟩ | ⟨c, hc, h1, _⟩
  · intro s hs h1 h3
    exact h2 s hs (hf s hs).2 ⟨h1, h3⟩
  · have := hf c hc; omega
theorem src_yes {n : Nat} (h : Src sts t n src) (hf : ∀ s ∈ sts, 0 ≤ s.frm ∧ s.frm < (n : Int)) (hs : 0 ≤ src) : ∃ b ∈ sts, src = b.frm ∧ Best t sts (some b) := by
  rcases h with ⟨h1, _⟩ | ⟨c, hc, h1, h2, h3, h4⟩
  · omega
  · exact ⟨c, hc, h1, ⟨hc, h3.1, h3.2⟩, fun s hs e1 e2 => h4 s hs (hf s hs).2 ⟨e1, e2⟩⟩
/-- the greatest view, as one tells it who begins with nothing -/
def topR (l : List Sv) : Int := if l = [] then 0 else top l
theorem topR_first {x : Sv} (hl : lo ≤ x.inst) : topR ([] ++ [x]) = x.inst := by
  unfold topR
  rw [if_neg (by simp)]
  exact top_first hl rfl
theorem topR_more {l : List Sv} {x : Sv} (h : l ≠ []) : topR (l ++ [x]) = max (topR l) x.inst := by
  unfold topR
  rw [if_neg (by simp), if_neg h, top_app]
theorem topR_is {l : List Sv} (h : l ≠ []) : topR l = top l := by unfold topR; rw [if_neg h]
theorem fin_no {n : Nat} {mask : Nat} {m : Int} (h : Src sts (topR sts) n src) (hf : ∀ s ∈ sts, 0 ≤ s.frm ∧ s.frm < (n : Int)) (hs : src < 0) : fin mask m (best (top sts) sts) = (0, 0, 0, false) := by
  by_cases he : sts = []
  · subst he; rfl
  · rw [topR_is he] at h
    exact Best.fin (best_is _ _) (src_no h hf hs)
theorem fin_yes {n : Nat} {mask : Nat} {m : Int} (h : Src sts (topR sts) n src) (hf : ∀ s ∈ sts, 0 ≤ s.frm ∧ s.frm < (n : Int)) (hs : 0 ≤ src) : ∃ b ∈ sts, src = b.frm ∧ fin mask m (best (top sts) sts) = if most (mask : Int) m = true then ((mask : Int), b.frm, b.len, true) else (0, 0, 0, false) := by
  by_cases he : sts = []
  · subst he
    rcases h with ⟨h1, _⟩ | ⟨b, hb, _⟩
    · omega
    · cases hb
  · rw [topR_is he] at h
    obtain ⟨b, hb, h1, h2⟩ := src_yes h hf hs
    exact ⟨b, hb, h1, Best.fin (best_is _ _) h2⟩
theorem most_size (m n : Int) : most m ((size n : Nat) : Int) = most m n := by
  have := size_bound n
  unfold most
  rw [size_of this.1 this.2]
end
end Vw
end Go.Proofs.Ytneehnoolhadbaa

