/- ViewPick -/
import Derived.Test.YtneehnoolhadbaaGP06
namespace Go.Proofs.Ytneehnoolhadbaa
/-- what counts of a message -/
structure Sv where
  kind : Int
  frm : Int
  inst : Int
  len : Int
  has : Bool
namespace Vw
/-- does it count, where the mask has come? -/
def okS (n mask : Nat) (m : Sv) : Bool := decide (m.kind = 2) && (decide (0 ≤ m.frm) && (decide (m.frm < (n : Int)) && !(mask.testBit m.frm.toNat)))
def stp (n : Nat) (p : Nat × List Sv) (m : Sv) : Nat × List Sv := if okS n p.1 m = true then (p.1 ||| 2 ^ m.frm.toNat, p.2 ++ [m]) else p
def count (n : Nat) (l : List Sv) : Nat × List Sv := l.foldl (stp n) (0, [])
def lo : Int := -9223372036854775808
def top (l : List Sv) : Int := l.foldl (fun a s => max a s.inst) lo
def ahead (a b : Sv) : Bool := decide (b.len < a.len) || (decide (a.len = b.len) && decide (a.frm < b.frm))
def pick (t : Int) (o : Option Sv) (s : Sv) : Option Sv := if (s.has && (decide (s.inst = t) && (match o with | none => true | some b => ahead s b))) = true then some s else o
def best (t : Int) (l : List Sv) : Option Sv := l.foldl (pick t) none
def fin (mask : Nat) (n : Int) (o : Option Sv) : Int × Int × Int × Bool := match o with
  | some b => if most (mask : Int) n = true then ((mask : Int), b.frm, b.len, true) else (0, 0, 0, false)
  | none => (0, 0, 0, false)
def choose (l : List Sv) (n : Int) : Int × Int × Int × Bool :=
  fin (count (size n) l).1 n (best (top (count (size n) l).2) (count (size n) l).2)
theorem fold_snoc {α β : Type} (f : α → β → α) (a : α) (l : List β) {k : Nat} {x : β} (h : l[k]? = some x) : (l.take (k + 1)).foldl f a = f ((l.take k).foldl f a) x := by
  obtain ⟨hk, hx⟩ := List.getElem?_eq_some_iff.1 h
  rw [List.take_add_one, h, List.foldl_append]; rfl
theorem count_snoc {n k : Nat} {l : List Sv} {x : Sv} (h : l[k]? = some x) : count n (l.take (k + 1)) = stp n (count n (l.take k)) x := fold_snoc _ _ l h
theorem top_snoc {k : Nat} {l : List Sv} {x : Sv} (h : l[k]? = some x) : top (l.take (k + 1)) = max (top (l.take k)) x.inst := fold_snoc _ _ l h
theorem best_snoc {t : Int} {k : Nat} {l : List Sv} {x : Sv} (h : l[k]? = some x) : best t (l.take (k + 1)) = pick t (best t (l.take k)) x := fold_snoc _ _ l h
theorem top_app (l : List Sv) (x : Sv) : top (l ++ [x]) = max (top l) x.inst := by unfold top; rw [List.foldl_append]; rfl
/-- what holds of what was counted -/
structure Cnt (n mask : Nat) (l sts : List Sv) : Prop where
  lt : mask < 128
  bit : ∀ i, mask.testBit i = true ↔ ∃ s ∈ sts, s.frm = (i : Int)
  frm : ∀ s ∈ sts, 0 ≤ s.frm ∧ s.frm < (n : Int) ∧ s ∈ l
  apart : sts.Pairwise (fun a b => a.frm ≠ b.frm)
theorem cnt_nil (n : Nat) (l : List Sv) : Cnt n 0 l [] := ⟨by decide, fun i => by simp, fun s hs => (by cases hs), List.Pairwise.nil⟩
theorem okS_iff {n mask : Nat} {m : Sv} : okS n mask m = true ↔ m.kind = 2 ∧ 0 ≤ m.frm ∧ m.frm < (n : Int) ∧ mask.testBit m.frm.toNat = false := by
  unfold okS; simp
theorem Cnt.step {n mask : Nat} {l sts : List Sv} {m : Sv} (hn : n ≤ 7) (h : Cnt n mask l sts) (hm : m ∈ l) (ho : okS n mask m = true) : Cnt n (mask ||| 2 ^ m.frm.toNat) l (sts ++ [m]) := by
  obtain ⟨_, h0, hlt, hb⟩ := okS_iff.1 ho
  have hf : m.frm.toNat < 7 := by omega
  have hfr : ∀ s ∈ sts ++ [m], 0 ≤ s.frm ∧ s.frm < (n : Int) ∧ s ∈ l := by
    intro s hs
    rw [List.mem_append] at hs
    rcases hs with hs | hs
    · exact h.frm s hs
    · simp at hs; subst hs; exact ⟨h0, hlt, hm⟩
  have hap : (sts ++ [m]).Pairwise (fun a b => a.frm ≠ b.frm) := by
    rw [List.pairwise_append]
    refine ⟨h.apart, List.pairwise_singleton _ _, ?_⟩
    intro a ha b hb'
    simp at hb'; subst hb'
    intro he
    have : mask.testBit b.frm.toNat = true := (h.bit _).2 ⟨a, ha, by omega⟩
    rw [hb] at this; cases this
  refine ⟨?_, fun i => ?_, hfr, hap⟩
  · have : 2 ^ m.frm.toNat < 2 ^ 7 := Nat.pow_lt_pow_right (by decide) hf
    exact Nat.or_lt_two_pow (n := 7) h.lt this
  · rw [Nat.testBit_or, Bool.or_eq_true, h.bit, Nat.testBit_two_pow]
    constructor
    · rintro (⟨s, hs, he⟩ | he)
      · exact ⟨s, List.mem_append_left _ hs, he⟩
      · exact ⟨m, by simp, by simp at he; omega⟩
    · rintro ⟨s, hs, he⟩
      rw [List.mem_append] at hs
      rcases hs with hs | hs
      · exact .inl ⟨s, hs, he⟩
      · simp at hs; subst hs; right; simp; omega
theorem Cnt.stp {n : Nat} {p : Nat × List Sv} {l : List Sv} {m : Sv} (hn : n ≤ 7) (h : Cnt n p.1 l p.2) (hm : m ∈ l) : Cnt n (stp n p m).1 l (stp n p m).2 := by
  unfold Vw.stp
  by_cases ho : okS n p.1 m = true
  · rw [if_pos ho]; exact h.step hn hm ho
  · rw [if_neg ho]; exact h
theorem cnt_take {n : Nat} (hn : n ≤ 7) (l : List Sv) : ∀ k, k ≤ l.length → Cnt n (count n (l.take k)).1 l (count n (l.take k)).2
  | 0, _ => cnt_nil n l
  | k + 1, hk => by
    have h := cnt_take hn l k (by omega)
    have hx : l[k]? = some l[k] := List.getElem?_eq_getElem (by omega)
    rw [count_snoc hx]
    exact h.stp hn (List.getElem_mem _)
theorem cnt_all {n : Nat} (hn : n ≤ 7) (l : List Sv) : Cnt n (count n l).1 l (count n l).2 := by
  have := cnt_take hn l l.length (Nat.le_refl _)
  rwa [List.take_length] at this
theorem Cnt.zero {n mask : Nat} {l sts : List Sv} (h : Cnt n mask l sts) : mask = 0 ↔ sts = [] := by
  constructor
  · intro hz
    subst hz
    cases sts with
    | nil => rfl
    | cons s t =>
      have := (h.bit s.frm.toNat).2 ⟨s, by simp, by have := h.frm s (by simp); omega⟩
      simp at this
  · rintro rfl
    refine Nat.eq_of_testBit_eq fun i => ?_
    rw [Nat.zero_testBit]
    cases hb : mask.testBit i
    · rfl
    · obtain ⟨s, hs, _⟩ := (h.bit i).1 hb; cases hs
/-- is it the first that came? -/
theorem Cnt.first {n mask : Nat} {l sts : List Sv} {m : Sv} (h : Cnt n mask l sts) (ho : okS n mask m = true) : (mask ||| 2 ^ m.frm.toNat = 2 ^ m.frm.toNat) ↔ sts = [] := by
  rw [← h.zero]
  obtain ⟨_, h0, hlt, hb⟩ := okS_iff.1 ho
  constructor
  · intro he
    refine Nat.eq_of_testBit_eq fun i => ?_
    rw [Nat.zero_testBit]
    cases hi : mask.testBit i
    · rfl
    · have h1 : (mask ||| 2 ^ m.frm.toNat).testBit i = true := by rw [Nat.testBit_or, hi]; rfl
      rw [he, Nat.testBit_two_pow] at h1
      simp at h1
      subst h1
      rw [hi] at hb; cases hb
  · rintro rfl; simp
theorem snoc_ind {α : Type} {P : List α → Prop} (h0 : P []) (h1 : ∀ l x, P l → P (l ++ [x])) (l : List α) : P l := by
  have : ∀ m : List α, P m.reverse := by
    intro m
    induction m with
    | nil => exact h0
    | cons x t ih => rw [List.reverse_cons]; exact h1 _ _ ih
  simpa using this l.reverse
theorem stp_len (n : Nat) (p : Nat × List Sv) (m : Sv) : (stp n p m).2.length ≤ p.2.length + 1 := by
  unfold Vw.stp
  split
  · simp
  · omega
theorem count_len (n : Nat) (l : List Sv) : (count n l).2.length ≤ l.length := by
  induction l using snoc_ind with
  | h0 => exact Nat.le_refl _
  | h1 l x ih =>
    unfold count at ih ⊢
    rw [List.foldl_append]
    have := stp_len n (l.foldl (stp n) (0, [])) x
    simp only [List.foldl_cons, List.foldl_nil, List.length_append, List.length_singleton]
    omega
/-- which one is the best of those that are there and of the view t -/
def Best (t : Int) (l : List Sv) : Option Sv → Prop
  | none => ∀ s ∈ l, s.has = true → s.inst ≠ t
  | some b => (b ∈ l ∧ b.has = true ∧ b.inst = t) ∧ ∀ s ∈ l, s.has = true → s.inst = t → s.len < b.len ∨ s.len = b.len ∧ b.frm ≤ s.frm
theorem best_app (t : Int) (l : List Sv) (x : Sv) : best t (l ++ [x]) = pick t (best t l) x := by unfold best; rw [List.foldl_append]; rfl
theorem best_is (t : Int) (l : List Sv) : Best t l (best t l) := by
  induction l using snoc_ind with
  | h0 => intro s hs; cases hs
  | h1 l x ih =>
    rw [best_app]
    unfold pick
    cases hb : best t l with
    | none =>
      rw [hb] at ih
      by_cases hc : x.has = true ∧ x.inst = t
      · rw [if_pos (by simp [hc.1, hc.2])]
        refine ⟨⟨by simp, hc.1, hc.2⟩, fun s hs h1 h2 => ?_⟩
        rw [List.mem_append] at hs
        rcases hs with hs | hs
        · exact absurd h2 (ih s hs h1)
        · simp at hs; subst hs; exact .inr ⟨rfl, Int.le_refl _⟩
      · rw [if_neg (by simpa using hc)]
        intro s hs h1 h2
        rw [List.mem_append] at hs
        rcases hs with hs | hs
        · exact ih s hs h1 h2
        · simp at hs; subst hs; exact hc ⟨h1, h2⟩
    | some b =>
      rw [hb] at ih
      obtain ⟨⟨b1, b2, b3⟩, hall⟩ := ih
      by_cases hc : x.has = true ∧ x.inst = t ∧ ahead x b = true
      · rw [if_pos (by simp [hc.1, hc.2.1, hc.2.2])]
        have ha := hc.2.2
        unfold ahead at ha
        simp at ha
        refine ⟨⟨by simp, hc.1, hc.2.1⟩, fun s hs h1 h2 => ?_⟩
        rw [List.mem_append] at hs
        rcases hs with hs | hs
        · have := hall s hs h1 h2
          omega
        · simp at hs; subst hs; exact .inr ⟨rfl, Int.le_refl _⟩
      · rw [if_neg (by simpa using hc)]
        refine ⟨⟨by simp [b1], b2, b3⟩, fun s hs h1 h2 => ?_⟩
        rw [List.mem_append] at hs
        rcases hs with hs | hs
        · exact hall s hs h1 h2
        · simp at hs; subst hs
          have ha : ahead s b = false := by
            cases h : ahead s b
            · rfl
            · exact absurd ⟨h1, h2, h⟩ hc
          unfold ahead at ha
          simp at ha
          omega
theorem Best.fin {t : Int} {l : List Sv} {o o' : Option Sv} {mask : Nat} {n : Int} (h : Best t l o) (h' : Best t l o') : fin mask n o = fin mask n o' := by
  cases o with
  | none =>
    cases o' with
    | none => rfl
    | some b => exact absurd h'.1.2.2 (h b h'.1.1 h'.1.2.1)
  | some b =>
    cases o' with
    | none => exact absurd h.1.2.2 (h' b h.1.1 h.1.2.1)
    | some c =>
      have h1 := h.2 c h'.1.1 h'.1.2.1 h'.1.2.2
      have h2 := h'.2 b h.1.1 h.1.2.1 h.1.2.2
      have e1 : b.len = c.len := by omega
      have e2 : b.frm = c.frm := by omega
      unfold Vw.fin
      simp only [e1, e2]
/-- the greatest view, as one who begins with the first tells it -/
theorem top_first {l : List Sv} {x : Sv} (hl : lo ≤ x.inst) (h : l = []) : top (l ++ [x]) = x.inst := by
  subst h
  show max lo x.inst = x.inst
  omega
end Vw
end Go.Proofs.Ytneehnoolhadbaa

