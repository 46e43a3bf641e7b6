/- TknSort2 -/
import Derived.Test.YtbgagmpifaakgaaTF18
namespace Go.Proofs.Ytbgagmpifaakgaa
open Go.RowKit
set_option linter.unusedVariables false
theorem iv_set (l : List Int) (k : Nat) (z : Int) : iv (l.set k z) = (iv l).set k (.int .i64 z) := by simp [iv, List.map_set]
/-- a store into an own row of integers -/
theorem ownI_set {W w : World} {n c g : Nat} {l : List Int} (h : OwnI W w (some ⟨g, 0, none⟩) n c l) (k : Nat) (z : Int) : OwnI W (w.setCell ⟨g, k, none⟩ (.int .i64 z)) (some ⟨g, 0, none⟩) n c (l.set k z) := by
  have := (h.stored k (.int .i64 z)).1
  unfold OwnI
  rw [iv_set]
  exact this
theorem ownI_cell {W w : World} {n c g k : Nat} {l : List Int} {z : Int} (h : OwnI W w (some ⟨g, 0, none⟩) n c l) (hz : l[k]? = some z) : w.cell? ⟨g, k, none⟩ = some (.int .i64 z) ∧ w.frozen? ⟨g, k, none⟩ = false := by
  have hk : k < n := by have := (List.getElem?_eq_some_iff.1 hz).1; have := ownI_len h; omega
  refine ⟨?_, ?_⟩
  · have := (Rd.own_ h).int_cell hk hz; rwa [Nat.zero_add] at this
  · rcases h.2 with ⟨h1, _⟩ | ⟨g', cap, cur, h1, h2, h3, _⟩
    · cases h1
    · injection h1 with h1 _ _; injection h1 with h1; injection h1 with h1; subst h1
      simp [World.frozen?, h3]
/-- the first i are in order -/
def OrdTo (l : List Int) (i : Nat) : Prop := ∀ (p q : Nat) (a b : Int), p < q → q < i → l[p]? = some a → l[q]? = some b → a ≤ b
/-- but for the one at j the first i and one are in order -/
def OrdBut (l : List Int) (i j : Nat) : Prop := ∀ (p q : Nat) (a b : Int), p < q → q ≤ i → q ≠ j → l[p]? = some a → l[q]? = some b → a ≤ b
theorem OrdTo.one (l : List Int) : OrdTo l 1 := fun p q a b h1 h2 => by omega
theorem OrdTo.but {l : List Int} {i : Nat} (h : OrdTo l i) : OrdBut l i i := fun p q a b h1 h2 h3 => h p q a b h1 (by omega)
theorem OrdBut.zero {l : List Int} {i : Nat} (h : OrdBut l i 0) : OrdTo l (i + 1) := fun p q a b h1 h2 => h p q a b h1 (by omega) (by omega)
theorem OrdBut.done {l : List Int} {i j k : Nat} {y z : Int} (h : OrdBut l i j) (hj : j = k + 1) (hy : l[k]? = some y) (hz : l[j]? = some z) (hle : y ≤ z) : OrdTo l (i + 1) := fun p q a b h1 h2 ha hb => by
  by_cases hq : q = j
  · subst hq
    rw [hz] at hb; cases hb
    rcases Nat.lt_or_ge p k with hp | hp
    · have := h p k a y hp (by omega) (by omega) ha hy; omega
    · obtain rfl : p = k := by omega
      rw [hy] at ha; cases ha; exact hle
  · exact h p q a b h1 (by omega) hq ha hb
theorem OrdBut.swap {l : List Int} {i j k : Nat} {y z : Int} (h : OrdBut l i j) (hj : j = k + 1) (hji : j ≤ i) (hy : l[k]? = some y) (hz : l[j]? = some z) (hlt : z < y) : OrdBut ((l.set j y).set k z) i k := fun p q a b h1 h2 h3 ha hb => by
  have hk := (List.getElem?_eq_some_iff.1 hy).1
  have hjl := (List.getElem?_eq_some_iff.1 hz).1
  simp only [List.getElem?_set, List.length_set] at ha hb
  have e1 : (if k = q then if k < l.length then some z else none else if j = q then if j < l.length then some y else none else l[q]?) = (if j = q then some y else l[q]?) := by
    rw [if_neg (by omega), if_pos hjl]
  rw [e1] at hb
  rw [if_pos hk, if_pos hjl] at ha
  by_cases hq : j = q
  · rw [if_pos hq] at hb; cases hb
    by_cases hp : k = p
    · rw [if_pos hp] at ha; cases ha; omega
    · rw [if_neg hp, if_neg (by omega)] at ha
      exact h p k a _ (by omega) (by omega) (by omega) ha hy
  · rw [if_neg hq] at hb
    by_cases hp : k = p
    · rw [if_pos hp] at ha; cases ha
      rcases Nat.lt_or_ge q j with h4 | h4
      · omega
      · exact h j q z b (by omega) h2 (by omega) hz hb
    · rw [if_neg hp] at ha
      by_cases hpj : j = p
      · rw [if_pos hpj] at ha; cases ha
        exact h k q _ b (by omega) h2 (by omega) hy hb
      · rw [if_neg hpj] at ha
        exact h p q a b h1 h2 (by omega) ha hb
theorem swap_perm {l : List Int} {j k : Nat} {y z : Int} (hj : j = k + 1) (hy : l[k]? = some y) (hz : l[j]? = some z) : ((l.set j y).set k z).Perm l := by
  obtain ⟨s, t, rfl, rfl⟩ : ∃ s t, l = s ++ y :: z :: t ∧ s.length = k := by
    have hk := (List.getElem?_eq_some_iff.1 hy)
    have hjl := (List.getElem?_eq_some_iff.1 hz)
    subst hj
    refine ⟨l.take k, l.drop (k + 2), ?_, by rw [List.length_take, Nat.min_eq_left (by have := hk.1; omega)]⟩
    have e1 : l.drop k = y :: l.drop (k + 1) := by rw [List.drop_eq_getElem_cons hk.1, hk.2]
    have e2 : l.drop (k + 1) = z :: l.drop (k + 2) := by rw [List.drop_eq_getElem_cons hjl.1, hjl.2]
    rw [← e2, ← e1, List.take_append_drop]
  subst hj
  have e1 : (s ++ y :: z :: t).set (s.length + 1) y = s ++ y :: y :: t := by
    rw [List.set_append_right _ _ (by omega)]; simp
  have e2 : (s ++ y :: y :: t).set s.length z = s ++ z :: y :: t := by
    rw [List.set_append_right _ _ (by omega)]; simp
  rw [e1, e2]
  exact List.Perm.append_left s (List.Perm.swap _ _ _)
theorem OrdTo.all {l : List Int} {i : Nat} (h : OrdTo l i) (hi : l.length ≤ i) : Ord l := fun p q a b h1 ha hb => h p q a b h1 (by have := (List.getElem?_eq_some_iff.1 hb).1; omega) ha hb
theorem grownN {w w1 : World} {r : Option Nat} (h : w.grownBy w1 r) (k : Nat) : w.grownBy (w1.drewN k) r := ⟨h.os, h.tape, h.output, h.size, h.block⟩
theorem belowN9 {B : Nat} {a w : World} (h : Below B a w) (k : Nat) : Below B a (w.drewN k) := h.trans ⟨rfl, rfl, rfl, Nat.le_refl _, fun _ _ => rfl⟩
theorem grownSet {w w1 : World} {g i n c : Nat} {u : Value} (h : w.grownBy w1 (Value.slice (some ⟨g, 0, none⟩) n c).ownBlock) : w.grownBy (w1.setCell ⟨g, i, none⟩ u) (Value.slice (some ⟨g, 0, none⟩) n c).ownBlock := by
  have e : (Value.slice (some ⟨g, 0, none⟩) n c).ownBlock = some g := rfl
  rw [e] at h ⊢
  exact ⟨h.os, h.tape, h.output, by have := h.size; simpa [World.setCell] using this, fun k hk hne => (Below.heap_setCell w1 ⟨g, i, none⟩ u k (by rintro rfl; exact hne rfl)).trans (h.block k hk hne)⟩
set_option maxHeartbeats 2000000 in
set_option maxRecDepth 100000 in
theorem insSort {W w : World} {A : Option Addr} {n c : Nat} {l : List Int} (h : OwnI W w A n c l) (hn : n ≤ 1000) (hB : Below W.heap.size W w) :
    Calls Try.prog 44 #[.slice A n c, .int .i64 0, .int .i64 n] w fun e w' => e = .returned (.tuple #[]) ∧ ∃ l', OwnI W w' A n c l' ∧ l'.Perm l ∧ Ord l' ∧ Below W.heap.size W w' ∧ w.grownBy w' (Value.slice A n c).ownBlock := by
  have HL := Lib.hid (ownI_len h)
  have HG0 := Lib.hid (World.grownBy.refl w (Value.slice A n c).ownBlock)
  have HO0 := Lib.hid h
  have HB0 := Lib.hid hB
  have HA : Hid (0 < n → ∃ g, A = some ⟨g, 0, none⟩ ∧ W.heap.size ≤ g ∧ g < w.heap.size) := Lib.hid (fun h0 => own_addr h h0)
  clear h hB
  go_enter Try.func44, Try.ntmps44
  go_wp2_with fail
  go_loopw [6] (fun s6 wr => ∃ (i : Nat) (l' : List Int), s6 = .int .i64 (i : Int) ∧ 1 ≤ i ∧ i ≤ n + 1 ∧ Hid (l'.Perm l) ∧ Hid (OrdTo l' i) ∧ Hid (OwnI W wr A n c l') ∧ Hid (Below W.heap.size W wr) ∧ Hid (w.grownBy wr (Value.slice A n c).ownBlock)) (fun s6 _ => (n + 1 - intOf s6).toNat)
  case atStart => exact ⟨1, l, rfl, by omega, by omega, Lib.hid (List.Perm.refl _), Lib.hid (OrdTo.one _), HO0, HB0, HG0⟩
  case round =>
    obtain ⟨i, l1, rfl, hi1, hin, HP, HS, HO, HB, HG⟩ := hrel
    by_cases hlt : i < n
    · obtain ⟨g, rfl, hg1, hg2⟩ := HA.out (by omega)
      have HGS := Lib.hid (And.intro hg1 hg2)
      have hwi : IntKind.i64.wrap ((i : Int) + 1) = (i : Int) + 1 := IntWalk.i64_in _ (by omega)
      clear hg1 hg2
      go_wp2_with fail
      go_loopw [7] (fun s7 wr => ∃ (j : Nat) (l' : List Int), s7 = .int .i64 (j : Int) ∧ j ≤ i ∧ Hid (l'.Perm l) ∧ Hid (OrdBut l' i j) ∧ Hid (OwnI W wr (some ⟨g, 0, none⟩) n c l') ∧ Hid (Below W.heap.size W wr) ∧ Hid (w.grownBy wr (Value.slice (some ⟨g, 0, none⟩) n c).ownBlock)) (fun s7 _ => (intOf s7).toNat)
      case atStart => exact ⟨i, l1, rfl, Nat.le_refl _, HP, Lib.hid HS.out.but, HO, HB, HG⟩
      case round =>
        clear HP HS HO HB HG
        obtain ⟨j, l2, rfl, hji, HP, HS, HO, HB, HG⟩ := hrel
        have HLL := Lib.hid ((HP.out.length_eq).trans HL.out)
        rcases Nat.eq_zero_or_pos j with hj0 | hj0
        · subst hj0
          have HQ := Lib.hid HS.out.zero
          go_wp2_with fail
          go_quiet (fail)
          go_wp2_with fail
          go_roundw
          case rel => exact ⟨i + 1, l2, by go_num, by omega, by omega, HP, HQ, Lib.hid HO.out, Lib.hid (belowN9 HB.out _), Lib.hid (grownN HG.out _)⟩
          case measure => simp [intOf]; omega
        · obtain ⟨k, hk⟩ : ∃ k, j = k + 1 := ⟨j - 1, by omega⟩
          have HK := Lib.hid hk
          obtain ⟨y, hy⟩ : ∃ y, l2[k]? = some y := ⟨_, List.getElem?_eq_getElem (by have := HLL.out; omega)⟩
          obtain ⟨z, hz⟩ : ∃ z, l2[j]? = some z := ⟨_, List.getElem?_eq_getElem (by have := HLL.out; omega)⟩
          obtain ⟨c0, f0⟩ := ownI_cell HO.out hy
          obtain ⟨c1, f1⟩ := ownI_cell HO.out hz
          have e1 : IntKind.i64.wrap ((j : Int) - 1) = (k : Int) := by rw [IntWalk.i64_in _ (by omega)]; omega
          have e2 : IntKind.i64.wrap (k : Int) = (k : Int) := IntWalk.i64_in _ (by omega)
          have e3 : (j : Int) - 1 = (k : Int) := by omega
          have hjn : j < n := by omega
          have hkn : k < n := by omega
          have hj1 : decide (0 < j) = true := by simp; omega
          have HY := Lib.hid hy
          have HZ := Lib.hid hz
          clear hk hy hz
          have CL := Lib.hid (fun q => lessI (wr.drewN q) z y)
          by_cases hzy : z < y
          · have hd : decide (z < y) = true := decide_eq_true hzy
            rw [hd] at CL
            go_wp2_with fail
            go_quiet ((go_at_call 35; exact Calls.quiet_of_same (CL.out _)))
            go_wp2_with fail
            generalize hwq : wr.drewN nq = wq
            have c0' : wq.cell? ⟨g, k, none⟩ = some (.int .i64 y) := by rw [← hwq]; exact c0
            have c1' : wq.cell? ⟨g, j, none⟩ = some (.int .i64 z) := by rw [← hwq]; exact c1
            have f0' : wq.frozen? ⟨g, k, none⟩ = false := by rw [← hwq]; exact f0
            have f1' : wq.frozen? ⟨g, j, none⟩ = false := by rw [← hwq]; exact f1
            have HO9 : Hid (OwnI W wq (some ⟨g, 0, none⟩) n c l2) := Lib.hid (by rw [← hwq]; exact HO.out)
            have HB9 : Hid (Below W.heap.size W wq) := Lib.hid (by rw [← hwq]; exact belowN9 HB.out _)
            have HG9 : Hid (w.grownBy wq (Value.slice (some ⟨g, 0, none⟩) n c).ownBlock) := Lib.hid (by rw [← hwq]; exact grownN HG.out _)
            have HSW := Lib.hid (HS.out.swap HK.out hji HY.out HZ.out hzy)
            have HPW := Lib.hid (swap_perm HK.out HY.out HZ.out)
            clear c0 c1 f0 f1 CL hwq
            go_region
            go_wp2_with fail
            go_roundw
            case rel => exact ⟨k, (l2.set j y).set k z, by go_num, by omega, Lib.hid (HPW.out.trans HP.out), HSW, Lib.hid (ownI_set (ownI_set HO9.out j y) k z), Lib.hid (((belowN9 HB9.out 1).setCell HGS.out.1 _).setCell HGS.out.1 _), Lib.hid (grownSet (grownSet (grownN HG9.out 1)))⟩
            case measure => simp [intOf]; omega
          · have hd : decide (z < y) = false := decide_eq_false hzy
            rw [hd] at CL
            have HQ := Lib.hid (HS.out.done HK.out HY.out HZ.out (by omega))
            go_wp2_with fail
            go_quiet ((go_at_call 35; exact Calls.quiet_of_same (CL.out _)))
            go_wp2_with fail
            go_roundw
            case rel => exact ⟨i + 1, l2, by go_num, by omega, by omega, HP, HQ, Lib.hid HO.out, Lib.hid (belowN9 HB.out _), Lib.hid (grownN HG.out _)⟩
            case measure => simp [intOf]; omega
    · have hi : i = n ∨ i = n + 1 := by omega
      go_wp2_with fail
      go_end0
      exact ⟨rfl, l1, HO.out, HP.out, HS.out.all (by have := HP.out.length_eq; have := HL.out; omega), HB.out, HG.out⟩
end Go.Proofs.Ytbgagmpifaakgaa

