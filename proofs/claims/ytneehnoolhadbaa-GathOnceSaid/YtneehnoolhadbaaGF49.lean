/- GathLaws3 -/
import Derived.Test.YtneehnoolhadbaaGF45
namespace Go.Proofs.Ytneehnoolhadbaa
open Go.RowKit
set_option linter.unusedVariables false
namespace Gm
theorem top_ge {l : List Sv} : ∀ s ∈ l, s.inst ≤ Vw.top l := by
  induction l using Vw.snoc_ind with
  | h0 => intro s hs; cases hs
  | h1 l x ih =>
    intro s hs
    rw [Vw.top_app]
    rcases List.mem_append.1 hs with hs | hs
    · have := ih s hs; omega
    · obtain rfl := List.mem_singleton.1 hs; omega
theorem top_le {l : List Sv} {t : Int} (ht : Vw.lo ≤ t) (h : ∀ s ∈ l, s.inst ≤ t) : Vw.top l ≤ t := by
  induction l using Vw.snoc_ind with
  | h0 => exact ht
  | h1 l x ih =>
    rw [Vw.top_app]
    have h1 := ih (fun s hs => h s (List.mem_append_left _ hs))
    have h2 := h x (by simp)
    omega
def bkO : Sv := ⟨2, 0, 8, 3, true⟩
/-- GathBlocks: who has come ahead of i -/
structure BkI (who i : Nat) (g : Gm) : Prop where
  n : g.n = 5
  v : g.v = 800
  id : g.id = 0
  com : g.com = none
  rd : g.ready = 0
  l : ∃ t, g.l = bkO :: t ∧ ∀ s ∈ t, s.has = false ∧ s.inst = 16
  come : ∀ m : Nat, (came g.l).testBit m = true ↔ m = 0 ∨ 1 ≤ m ∧ m < i ∧ m ≠ who
theorem BkI.new (who : Nat) : BkI who 1 (Gm.new 5 0 800 bkO) := by
  refine ⟨rfl, rfl, rfl, rfl, rfl, ⟨[], rfl, fun s hs => by cases hs⟩, fun m => ?_⟩
  rw [came_bit]
  constructor
  · rintro ⟨s, hs, rfl⟩
    obtain rfl := List.mem_singleton.1 hs
    exact .inl rfl
  · rintro (rfl | h)
    · exact ⟨bkO, by simp [Gm.new], rfl⟩
    · omega
theorem BkI.may {who i : Nat} {g : Gm} (h : BkI who i g) (hok : g.Ok) {j : Nat} (hj5 : j < 5) (hj : j = i ∨ j = who) (h1 : 1 ≤ j) {inst len : Int} {has : Bool} : g.may ⟨2, (j : Int), inst, len, has⟩ 800 = true := by
  refine hok.may_is.2 ⟨h.com, rfl, h.v.symm, by show (0 : Int) ≤ (j : Int); omega, by show (j : Int) < (g.n : Int); rw [h.n]; omega, ?_⟩
  show (came g.l).testBit ((j : Int)).toNat = false
  rw [show ((j : Int)).toNat = j from rfl]
  cases hb : (came g.l).testBit j
  · rfl
  · have := (h.come j).1 hb; omega
theorem came_add (l : List Sv) (s : Sv) (m : Nat) : (came (l ++ [s])).testBit m = true ↔ (came l).testBit m = true ∨ s.frm.toNat = m := by
  rw [came_snoc, or_bit, Bool.or_eq_true, decide_eq_true_eq]
theorem BkI.step {who i : Nat} {g : Gm} (h : BkI who i g) (hok : g.Ok) (h1 : 1 ≤ i) (h5 : i < 5) (hw : i ≠ who) (len : Int) : BkI who (i + 1) (g.take ⟨2, (i : Int), 16, len, false⟩ 800) := by
  unfold take
  rw [if_pos (h.may hok h5 (.inl rfl) h1)]
  obtain ⟨t, ht, ht2⟩ := h.l
  refine ⟨h.n, h.v, h.id, h.com, h.rd, ⟨t ++ [⟨2, (i : Int), 16, len, false⟩], by show g.l ++ _ = _; rw [ht]; rfl, fun s hs => ?_⟩, fun m => ?_⟩
  · rcases List.mem_append.1 hs with hs | hs
    · exact ht2 s hs
    · obtain rfl := List.mem_singleton.1 hs; exact ⟨rfl, rfl⟩
  · show (came (g.l ++ _)).testBit m = true ↔ _
    rw [came_add, h.come]
    show _ ∨ ((i : Int)).toNat = m ↔ _
    rw [show ((i : Int)).toNat = i from rfl]
    omega
theorem BkI.skip {who i : Nat} {g : Gm} (h : BkI who i g) (hw : i = who) : BkI who (i + 1) g :=
  ⟨h.n, h.v, h.id, h.com, h.rd, h.l, fun m => by rw [h.come]; omega⟩
theorem BkI.no {who i : Nat} {g : Gm} (h : BkI who i g) : g.pick = none := by
  obtain ⟨t, ht, ht2⟩ := h.l
  unfold pick
  rw [h.com]
  simp only
  cases hb : Vw.best (Vw.top g.l) g.l with
  | none => rfl
  | some b =>
    have hB := Vw.best_is (Vw.top g.l) g.l
    rw [hb] at hB
    cases t with
    | nil =>
      simp only
      rw [ht, h.n]
      rfl
    | cons s t =>
      exfalso
      have hs := ht2 s (by simp)
      have h16 := top_ge (l := g.l) s (by rw [ht]; simp)
      have hbl := hB.1.1
      rw [ht] at hbl
      rcases List.mem_cons.1 hbl with rfl | hbl
      · have := hB.1.2.2
        have : (8 : Int) = Vw.top g.l := this
        omega
      · have := (ht2 b hbl).1
        rw [hB.1.2.1] at this; cases this
theorem BkI.last {who : Nat} {g : Gm} (h : BkI who 5 g) (hok : g.Ok) (h1 : 1 ≤ who) (h5 : who < 5) : (g.take ⟨2, (who : Int), 16, 2, true⟩ 800).pick = some (31, (who : Int), 2) := by
  unfold take
  rw [if_pos (h.may hok h5 (.inr rfl) h1)]
  obtain ⟨t, ht, ht2⟩ := h.l
  have hl : (g.add ⟨2, (who : Int), 16, 2, true⟩).l = bkO :: (t ++ [⟨2, (who : Int), 16, 2, true⟩]) := by show g.l ++ _ = _; rw [ht]; rfl
  have htop : Vw.top (g.add ⟨2, (who : Int), 16, 2, true⟩).l = 16 := by
    have h1 := top_ge (l := (g.add ⟨2, (who : Int), 16, 2, true⟩).l) ⟨2, (who : Int), 16, 2, true⟩ (by rw [hl]; simp)
    have h2 := top_le (l := (g.add ⟨2, (who : Int), 16, 2, true⟩).l) (t := 16) (by decide) (fun s hs => by
      rw [hl] at hs
      rcases List.mem_cons.1 hs with rfl | hs
      · show (8 : Int) ≤ 16; decide
      · rcases List.mem_append.1 hs with hs | hs
        · have := (ht2 s hs).2; omega
        · obtain rfl := List.mem_singleton.1 hs; exact Int.le_refl _)
    have h1 : (16 : Int) ≤ Vw.top (g.add ⟨2, (who : Int), 16, 2, true⟩).l := h1
    omega
  have hcome : came (g.add ⟨2, (who : Int), 16, 2, true⟩).l = 31 := by
    refine Nat.eq_of_testBit_eq fun m => ?_
    have hb := came_add g.l ⟨2, (who : Int), 16, 2, true⟩ m
    rw [h.come] at hb
    have hb : (came (g.add ⟨2, (who : Int), 16, 2, true⟩).l).testBit m = true ↔ (m = 0 ∨ 1 ≤ m ∧ m < 5 ∧ m ≠ who) ∨ ((who : Int)).toNat = m := hb
    rw [show ((who : Int)).toNat = who from rfl] at hb
    have h31 : Nat.testBit 31 m = decide (m < 5) := Nat.testBit_two_pow_sub_one 5 m
    rw [h31]
    cases hc : (came (g.add ⟨2, (who : Int), 16, 2, true⟩).l).testBit m
    · symm; refine decide_eq_false (fun hm => ?_)
      have := hb.2 (by omega)
      rw [hc] at this; cases this
    · symm; refine decide_eq_true ?_
      have := hb.1 hc; omega
  unfold pick
  rw [show (g.add ⟨2, (who : Int), 16, 2, true⟩).com = none from h.com]
  simp only
  have hB := Vw.best_is (Vw.top (g.add ⟨2, (who : Int), 16, 2, true⟩).l) (g.add ⟨2, (who : Int), 16, 2, true⟩).l
  rw [htop] at hB ⊢
  rw [hcome]
  rw [show (g.add ⟨2, (who : Int), 16, 2, true⟩).n = 5 from h.n]
  cases hb : Vw.best 16 (g.add ⟨2, (who : Int), 16, 2, true⟩).l with
  | none =>
    rw [hb] at hB
    exact absurd rfl (hB ⟨2, (who : Int), 16, 2, true⟩ (by rw [hl]; simp) rfl)
  | some b =>
    rw [hb] at hB
    have hbl := hB.1.1
    rw [hl] at hbl
    rcases List.mem_cons.1 hbl with rfl | hbl
    · have := hB.1.2.2
      have : (8 : Int) = 16 := this
      omega
    · rcases List.mem_append.1 hbl with hbl | hbl
      · have := (ht2 b hbl).1
        rw [hB.1.2.1] at this; cases this
      · obtain rfl := List.mem_singleton.1 hbl
        rfl
/-- whose state it is, is one of those who have come; they are most -/
theorem pick_yes {g : Gm} (hok : g.Ok) (hc : g.com = none) {m : Nat} {s ln : Int} (h : g.pick = some (m, s, ln)) : m = came g.l ∧ Vw.most (m : Int) (g.n : Int) = true ∧ ∃ j : Nat, s = (j : Int) ∧ j < 7 ∧ m.testBit j = true := by
  unfold pick at h
  rw [hc] at h
  have hB := Vw.best_is (Vw.top g.l) g.l
  cases hb : Vw.best (Vw.top g.l) g.l with
  | none => rw [hb] at h; cases h
  | some b =>
    rw [hb] at h hB
    simp only at h
    split at h
    · rename_i hmo
      injection h with h; injection h with h1 h2; injection h2 with h2 h3
      subst h1 h2 h3
      have hst := hok.st b hB.1.1
      have h7 := hok.n7
      refine ⟨rfl, hmo, b.frm.toNat, by omega, by omega, (came_bit _ _).2 ⟨b, hB.1.1, rfl⟩⟩
    · cases h
/-- GathOnce: ahead of the commit -/
structure OnI (N : Nat) (g : Gm) (cm : Nat) : Prop where
  n : g.n = N
  id : g.id = 0
  v : g.v = 8
  com : g.com = none
  come : came g.l = cm
theorem OnI.take {N cm : Nat} {g : Gm} (h : OnI N g cm) {s : Sv} {vv : Int} {r : Bool} (hr : g.may s vv = r) : OnI N (g.take s vv) (if r = true then cm ||| 2 ^ s.frm.toNat else cm) := by
  unfold Gm.take
  cases r with
  | false => rw [if_neg (by rw [hr]; decide), if_neg (by decide)]; exact h
  | true =>
    rw [if_pos hr, if_pos rfl]
    refine ⟨h.n, h.id, h.v, h.com, ?_⟩
    show came (g.l ++ [_]) = _
    rw [came_snoc, h.come]
/-- what was told stands -/
structure OnJ (g1 g : Gm) : Prop where
  id : g.id = 0
  v : g.v = 8
  same : g1.com.isSome = true → g.com = g1.com
theorem OnJ.take {g1 g : Gm} (h : OnJ g1 g) (s : Sv) (vv : Int) : OnJ g1 (g.take s vv) := by
  unfold Gm.take
  split
  · exact ⟨h.id, h.v, h.same⟩
  · exact h
theorem OnJ.doR {g1 g : Gm} (h : OnJ g1 g) (k : Int) : OnJ g1 (g.doR k) := by
  unfold Gm.doR
  split
  · exact ⟨h.id, h.v, h.same⟩
  · exact h
theorem OnJ.commit {g1 g : Gm} (h : OnJ g1 g) : OnJ g1 g.commit := by
  refine ⟨h.id, h.v, fun hs => ?_⟩
  have e := h.same hs
  obtain ⟨c, hc⟩ := Option.isSome_iff_exists.1 hs
  show g.pick = g1.com
  unfold pick
  rw [e, hc]
theorem OnJ.no {g1 g : Gm} (h : OnJ g1 g) (hs : g1.com.isSome = true) (s : Sv) (vv : Int) : g.may s vv = false := by
  unfold may
  rw [h.same hs, hs]; rfl
end Gm
end Go.Proofs.Ytneehnoolhadbaa

