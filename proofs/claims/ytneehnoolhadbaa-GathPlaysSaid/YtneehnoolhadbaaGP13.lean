/- GathMath ViewLit -/
import Derived.Test.YtneehnoolhadbaaGP08
import Derived.Test.YtneehnoolhadbaaGP09
import Derived.Test.YtneehnoolhadbaaGP12
import Derived.Great.BuildSlice
namespace Go.Proofs.Ytneehnoolhadbaa
open Go.RowKit
set_option linter.unusedVariables false
/-- a gather: of how many, by whom, of which view, who has come, what was committed (who, whose state, how long), who is ready -/
structure Gm where
  n : Nat
  id : Int
  v : Int
  l : List Sv
  com : Option (Nat × Int × Int)
  ready : Nat
namespace Gm
/-- those of a that are not of b -/
def dif (a b : Nat) : Nat := a &&& (127 - b)
def came (l : List Sv) : Nat := l.foldl (fun a s => a ||| 2 ^ s.frm.toNat) 0
theorem dif_bit {a b : Nat} (hb : b < 128) (ha : a < 128) (i : Nat) : (dif a b).testBit i = (a.testBit i && !b.testBit i) := by
  unfold dif
  rw [Nat.testBit_and]
  have h : 127 - b = 2 ^ 7 - (b + 1) := by omega
  rw [h, Nat.testBit_two_pow_sub_succ (by omega)]
  by_cases hi : i < 7
  · simp [hi]
  · have : a.testBit i = false := Nat.testBit_lt_two_pow (Nat.lt_of_lt_of_le ha (Nat.pow_le_pow_right (n := 2) (i := 7) (by decide) (by omega)))
    rw [this]; simp
theorem dif_lt {a b : Nat} (ha : a < 128) : dif a b < 128 := Nat.lt_of_le_of_lt Nat.and_le_left ha
theorem zero_dif (b : Nat) : dif 0 b = 0 := by simp [dif]
theorem dif_none {a b : Nat} (ha : a < 128) (hb : b < 128) (hs : ∀ i, b.testBit i = true → a.testBit i = true) : dif a b = 0 ↔ a = b := by
  constructor
  · intro h
    refine Nat.eq_of_testBit_eq fun i => ?_
    have := dif_bit hb ha i
    rw [h, Nat.zero_testBit] at this
    have h2 := hs i
    cases ca : a.testBit i <;> cases cb : b.testBit i <;> simp_all
  · rintro rfl
    refine Nat.eq_of_testBit_eq fun i => ?_
    rw [dif_bit hb ha, Nat.zero_testBit]; simp
theorem nat64 {z : Nat} (h : z < 128) : (BitVec.ofInt 64 (z : Int)).toNat = z := by
  rw [BitVec.ofInt_natCast, BitVec.toNat_ofNat]
  exact Nat.mod_eq_of_lt (by omega)
theorem andNot_nat {a b : Nat} (ha : a < 128) (hb : b < 128) : bits .andNot .i64 (a : Int) (b : Int) = ((dif a b : Nat) : Int) := by
  show IntKind.i64.wrap ((BitVec.ofInt 64 (a : Int) &&& ~~~(BitVec.ofInt 64 (b : Int))).toNat : Int) = _
  rw [BitVec.toNat_and, BitVec.toNat_not, nat64 ha, nat64 hb]
  have e : a &&& (2 ^ 64 - 1 - b) = dif a b := by
    refine Nat.eq_of_testBit_eq fun i => ?_
    rw [dif_bit hb ha, Nat.testBit_and, show 2 ^ 64 - 1 - b = 2 ^ 64 - (b + 1) by omega, Nat.testBit_two_pow_sub_succ (by omega)]
    by_cases hi : i < 64
    · simp [hi]
    · have : a.testBit i = false := Nat.testBit_lt_two_pow (Nat.lt_of_lt_of_le ha (Nat.pow_le_pow_right (n := 2) (i := 7) (by decide) (by omega)))
      rw [this]; simp
  rw [e]
  have := dif_lt (b := b) ha
  exact IntWalk.i64_in _ (by omega)
theorem or_bit (x f i : Nat) : (x ||| 2 ^ f).testBit i = (x.testBit i || decide (f = i)) := by rw [Nat.testBit_or, Nat.testBit_two_pow]
theorem or_lt {x f : Nat} (hx : x < 128) (hf : f < 7) : x ||| 2 ^ f < 128 := Nat.or_lt_two_pow (n := 7) hx (Nat.pow_lt_pow_right (by decide) hf)
theorem came_snoc (l : List Sv) (s : Sv) : came (l ++ [s]) = came l ||| 2 ^ s.frm.toNat := by unfold came; rw [List.foldl_append]; rfl
theorem came_bit (l : List Sv) (i : Nat) : (came l).testBit i = true ↔ ∃ s ∈ l, s.frm.toNat = i := by
  induction l using Vw.snoc_ind with
  | h0 => simp [came]
  | h1 l x ih =>
    rw [came_snoc, or_bit, Bool.or_eq_true, ih]
    constructor
    · rintro (⟨s, hs, he⟩ | he)
      · exact ⟨s, List.mem_append_left _ hs, he⟩
      · exact ⟨x, by simp, of_decide_eq_true he⟩
    · rintro ⟨s, hs, he⟩
      rcases List.mem_append.1 hs with hs | hs
      · exact .inl ⟨s, hs, he⟩
      · obtain rfl := List.mem_singleton.1 hs
        exact .inr (decide_eq_true he)
theorem came_lt {l : List Sv} {n : Nat} (h : ∀ s ∈ l, s.frm.toNat < n) : came l < 2 ^ n := by
  refine Nat.lt_pow_two_of_testBit _ fun i hi => ?_
  cases hb : (came l).testBit i
  · rfl
  · obtain ⟨s, hs, he⟩ := (came_bit l i).1 hb
    have := h s hs; omega
/-- what holds of a gather -/
structure Ok (g : Gm) : Prop where
  n1 : 1 ≤ g.n
  n7 : g.n ≤ 7
  st : ∀ s ∈ g.l, s.kind = 2 ∧ 0 ≤ s.frm ∧ s.frm < (g.n : Int)
  apart : g.l.Pairwise (fun a b => a.frm ≠ b.frm)
  com : ∀ c, g.com = some c → c.1 = came g.l
  rd : g.ready < 128
  of : ∀ i, g.ready.testBit i = true → ∃ c, g.com = some c ∧ c.1.testBit i = true
def mask (g : Gm) : Nat := match g.com with
  | some c => c.1
  | none => 0
def full (n : Nat) : Nat := 2 ^ n - 1
def lacking (g : Gm) : Nat := dif (full g.n) (came g.l)
def unready (g : Gm) : Nat := dif g.mask g.ready
def done (g : Gm) : Bool := g.com.isSome && decide (g.unready = 0)
def all (g : Gm) : Bool := decide (g.lacking = 0)
/-- does a state s of view v' count? -/
def may (g : Gm) (s : Sv) (v' : Int) : Bool := !g.com.isSome && (decide (s.kind = 2) && (decide (v' = g.v) && (decide (0 ≤ s.frm) && g.lacking.testBit s.frm.toNat)))
def add (g : Gm) (s : Sv) : Gm := { g with l := g.l ++ [s] }
def take (g : Gm) (s : Sv) (v' : Int) : Gm := if g.may s v' = true then g.add s else g
def pick (g : Gm) : Option (Nat × Int × Int) := match g.com with
  | some c => some c
  | none => match Vw.best (Vw.top g.l) g.l with
    | some b => if Vw.most (came g.l : Int) (g.n : Int) = true then some (came g.l, b.frm, b.len) else none
    | none => none
def commit (g : Gm) : Gm := { g with com := g.pick }
def mayR (g : Gm) (k : Int) : Bool := decide (0 ≤ k) && g.unready.testBit k.toNat
def doR (g : Gm) (k : Int) : Gm := if g.mayR k = true then { g with ready := g.ready ||| 2 ^ k.toNat } else g
def new (n : Nat) (id v : Int) (s : Sv) : Gm := ⟨n, id, v, [s], none, 0⟩
theorem full_lt {n : Nat} (h : n ≤ 7) : full n < 128 := by
  have : 2 ^ n ≤ 2 ^ 7 := Nat.pow_le_pow_right (by decide) h
  unfold full; omega
theorem full_bit (n i : Nat) : (full n).testBit i = decide (i < n) := by unfold full; rw [Nat.testBit_two_pow_sub_one]
section
variable {g : Gm} {s : Sv} {v' k : Int}
theorem Ok.lt (h : g.Ok) : came g.l < 2 ^ g.n := came_lt fun s hs => by have := h.st s hs; omega
theorem Ok.lt7 (h : g.Ok) : came g.l < 128 := Nat.lt_of_lt_of_le h.lt (Nat.pow_le_pow_right (n := 2) (j := 7) (by decide) h.n7)
theorem Ok.lack_bit (h : g.Ok) (i : Nat) : g.lacking.testBit i = (decide (i < g.n) && !(came g.l).testBit i) := by
  unfold lacking; rw [dif_bit h.lt7 (full_lt h.n7), full_bit]
theorem Ok.lack_lt (h : g.Ok) : g.lacking < 128 := dif_lt (full_lt h.n7)
theorem Ok.mask_lt (h : g.Ok) : g.mask < 128 := by
  unfold mask
  split
  · rename_i c hc; rw [h.com c hc]; exact h.lt7
  · decide
theorem Ok.un_lt (h : g.Ok) : g.unready < 128 := dif_lt h.mask_lt
theorem Ok.un_bit (h : g.Ok) (i : Nat) : g.unready.testBit i = (g.mask.testBit i && !g.ready.testBit i) := dif_bit h.rd h.mask_lt i
theorem Ok.rdsub (h : g.Ok) : ∀ i, g.ready.testBit i = true → g.mask.testBit i = true := fun i hi => by
  obtain ⟨c, hc, hb⟩ := h.of i hi
  unfold mask; rw [hc]; exact hb
theorem Ok.done_is (h : g.Ok) : g.done = (g.com.isSome && decide (g.ready = g.mask)) := by
  unfold done unready
  rw [decide_eq_decide.2 ((dif_none h.mask_lt h.rd h.rdsub).trans eq_comm)]
theorem Ok.may_is (h : g.Ok) : g.may s v' = true ↔ g.com = none ∧ s.kind = 2 ∧ v' = g.v ∧ 0 ≤ s.frm ∧ s.frm < (g.n : Int) ∧ (came g.l).testBit s.frm.toNat = false := by
  unfold may
  rw [h.lack_bit]
  simp only [Bool.and_eq_true, Bool.not_eq_true', decide_eq_true_eq, Option.isSome_eq_false_iff, Option.isNone_iff_eq_none]
  constructor
  · rintro ⟨a, b, c, d, e, f⟩; exact ⟨a, b, c, d, by omega, f⟩
  · rintro ⟨a, b, c, d, e, f⟩; exact ⟨a, b, c, d, by omega, f⟩
theorem Ok.add (h : g.Ok) (hm : g.may s v' = true) : (g.add s).Ok := by
  obtain ⟨h1, h2, h3, h4, h5, h6⟩ := h.may_is.1 hm
  refine ⟨h.n1, h.n7, fun x hx => ?_, ?_, fun c hc => ?_, h.rd, fun i hi => ?_⟩
  · rcases List.mem_append.1 hx with hx | hx
    · exact h.st x hx
    · obtain rfl := List.mem_singleton.1 hx; exact ⟨h2, h4, h5⟩
  · show (g.l ++ [s]).Pairwise _
    rw [List.pairwise_append]
    refine ⟨h.apart, List.pairwise_singleton _ _, fun a ha b hb he => ?_⟩
    obtain rfl := List.mem_singleton.1 hb
    have := (came_bit g.l b.frm.toNat).2 ⟨a, ha, by rw [he]⟩
    rw [h6] at this; cases this
  · have : g.com = some c := hc
    rw [h1] at this; cases this
  · obtain ⟨c, hc, _⟩ := h.of i hi
    rw [h1] at hc; cases hc
theorem Ok.pick_com (h : g.Ok) {c : Nat × Int × Int} (hc : g.pick = some c) : c.1 = came g.l := by
  unfold pick at hc
  split at hc
  · rename_i c' hc'; injection hc with hc; subst hc; exact h.com _ hc'
  · split at hc
    · split at hc
      · injection hc with hc; subst hc; rfl
      · cases hc
    · cases hc
theorem Ok.commit (h : g.Ok) : g.commit.Ok := by
  refine ⟨h.n1, h.n7, h.st, h.apart, fun c hc => h.pick_com hc, h.rd, fun i hi => ?_⟩
  obtain ⟨c, hc, hb⟩ := h.of i hi
  refine ⟨c, ?_, hb⟩
  show g.pick = some c
  unfold pick; rw [hc]
theorem Ok.mayR_is (h : g.Ok) : g.mayR k = true ↔ ∃ j : Nat, k = (j : Int) ∧ j < 7 ∧ g.mask.testBit j = true ∧ g.ready.testBit j = false := by
  unfold mayR
  rw [h.un_bit]
  simp only [Bool.and_eq_true, Bool.not_eq_true', decide_eq_true_eq]
  constructor
  · rintro ⟨a, b, c⟩
    refine ⟨k.toNat, by omega, ?_, b, c⟩
    rcases Nat.lt_or_ge k.toNat 7 with h7 | h7
    · exact h7
    · rw [Nat.testBit_lt_two_pow (Nat.lt_of_lt_of_le h.mask_lt (Nat.pow_le_pow_right (n := 2) (i := 7) (by decide) h7))] at b; cases b
  · rintro ⟨j, rfl, _, b, c⟩; exact ⟨by omega, by simpa using b, by simpa using c⟩
theorem Ok.doR (h : g.Ok) : (g.doR k).Ok := by
  unfold Gm.doR
  split
  · rename_i hm
    obtain ⟨j, rfl, hj, hb, _⟩ := h.mayR_is.1 hm
    refine ⟨h.n1, h.n7, h.st, h.apart, h.com, or_lt h.rd (by simpa using hj), fun i hi => ?_⟩
    have hi' : (g.ready ||| 2 ^ ((j : Int).toNat)).testBit i = true := hi
    rw [or_bit, Bool.or_eq_true] at hi'
    rcases hi' with hi' | hi'
    · exact h.of i hi'
    · have he := of_decide_eq_true hi'
      simp at he; subst he
      unfold mask at hb
      cases hc : g.com with
      | none => rw [hc] at hb; simp at hb
      | some c => rw [hc] at hb; exact ⟨c, rfl, hb⟩
  · exact h
theorem Ok.new {n : Nat} {id v : Int} {s : Sv} (h1 : 1 ≤ n) (h7 : n ≤ 7) (hk : s.kind = 2) (h0 : 0 ≤ s.frm) (hn : s.frm < (n : Int)) : (Gm.new n id v s).Ok := by
  refine ⟨h1, h7, fun x hx => ?_, List.pairwise_singleton _ _, fun c hc => ?_, ?_, fun i hi => ?_⟩
  · obtain rfl := List.mem_singleton.1 hx; exact ⟨hk, h0, hn⟩
  · cases hc
  · show (0 : Nat) < 128; decide
  · simp [Gm.new] at hi
/-- what counts of those that have come is all of them -/
theorem count_is {n : Nat} {l : List Sv} (hst : ∀ s ∈ l, s.kind = 2 ∧ 0 ≤ s.frm ∧ s.frm < (n : Int)) (hap : l.Pairwise (fun a b => a.frm ≠ b.frm)) : Vw.count n l = (came l, l) := by
  induction l using Vw.snoc_ind with
  | h0 => rfl
  | h1 l x ih =>
    rw [List.pairwise_append] at hap
    have ih := ih (fun s hs => hst s (List.mem_append_left _ hs)) hap.1
    unfold Vw.count at ih ⊢
    rw [List.foldl_append, ih, List.foldl_cons, List.foldl_nil]
    obtain ⟨h2, h0, hn⟩ := hst x (by simp)
    have hb : (came l).testBit x.frm.toNat = false := by
      cases hc : (came l).testBit x.frm.toNat
      · rfl
      · obtain ⟨s, hs, he⟩ := (came_bit _ _).1 hc
        have := (hst s (List.mem_append_left _ hs)).2.1
        exact absurd (show s.frm = x.frm by omega) (hap.2.2 s hs x (by simp))
    unfold Vw.stp
    rw [if_pos (Vw.okS_iff.2 ⟨h2, h0, hn, hb⟩), came_snoc]
theorem Ok.choose (h : g.Ok) : Vw.choose g.l (g.n : Int) = Vw.fin (came g.l) (g.n : Int) (Vw.best (Vw.top g.l) g.l) := by
  unfold Vw.choose
  rw [Vw.size_of h.n1 h.n7, count_is h.st h.apart]
theorem Ok.choose_no (h : g.Ok) (hc : g.com = none) (hp : g.pick = none) : Vw.choose g.l (g.n : Int) = (0, 0, 0, false) := by
  rw [h.choose]
  unfold pick at hp
  rw [hc] at hp
  unfold Vw.fin
  cases hb : Vw.best (Vw.top g.l) g.l with
  | none => rfl
  | some b =>
    rw [hb] at hp
    simp only at hp ⊢
    split at hp
    · cases hp
    · rename_i hm; rw [if_neg hm]
theorem Ok.choose_yes (h : g.Ok) (hc : g.com = none) {m : Nat} {s' ln : Int} (hp : g.pick = some (m, s', ln)) : Vw.choose g.l (g.n : Int) = ((m : Int), s', ln, true) ∧ m < 128 := by
  rw [h.choose]
  have hm := h.pick_com hp
  simp only at hm
  unfold pick at hp
  rw [hc] at hp
  unfold Vw.fin
  cases hb : Vw.best (Vw.top g.l) g.l with
  | none => rw [hb] at hp; cases hp
  | some b =>
    rw [hb] at hp
    simp only at hp ⊢
    split at hp
    · rename_i hmo
      rw [if_pos hmo]
      injection hp with hp; injection hp with h1 h2; injection h2 with h2 h3
      subst h2 h3 h1
      exact ⟨rfl, h.lt7⟩
    · cases hp
end
end Gm
end Go.Proofs.Ytneehnoolhadbaa

namespace Go.Proofs.Ytneehnoolhadbaa
open Go.RowKit
set_option linter.unusedVariables false
/-- a message's cells, with nothing but what counts -/
def stC (k f i l : Int) (h : Bool) : List Value := [.int .i64 k, .int .i64 f, .int .i64 0, .int .i64 0, .int .i64 i, .int .i64 l, .bool h, .int .i64 0, .int .i64 0, .int .i64 0, .int .i64 0, .slice none 0 0, .int .i64 0, .int .i64 0, .slice none 0 0, .slice none 0 0, .int .i64 0, .int .i64 0, .int .i64 0, .int .i64 0, .int .i64 0, .slice none 0 0, .slice none 0 0, .slice none 0 0]
theorem stC_ms {k f i l : Int} {h : Bool} (hi : Vw.lo ≤ i) : Ms (stC k f i l h) := by
  refine ⟨rfl, ?_, rfl, rfl, rfl, rfl, rfl, hi⟩
  intro u hu
  unfold stC at hu
  simp only [List.mem_cons, List.not_mem_nil, or_false] at hu
  rcases hu with rfl | rfl | rfl | rfl | rfl | rfl | rfl | rfl | rfl | rfl | rfl | rfl | rfl | rfl | rfl | rfl | rfl | rfl | rfl | rfl | rfl | rfl | rfl | rfl <;> rfl
end Go.Proofs.Ytneehnoolhadbaa

