/- WindMem SameInts -/
import Derived.Test.YtaknfmionkkdjaaGreatFO02
import Derived.BigQuiet
import Derived.Deep.QuietTactic
import Derived.IntWalk
import Derived.OwnWalk
import Derived.ProofKit
import Derived.Test.YtaknfmionkkdjaaGreatRows
import Derived.WalkKit
import Derived.WalkLawsBesides
import Derived.WalkSmall
import Derived.WalkSpells
namespace Go.Proofs.YtaknfmionkkdjaaGreat
open Go.RowKit
set_option linter.unusedVariables false

/-- the slice at A, of n elements of 'size' cells each, is xs; it lies in a block at or beyond 'base' that has room for c of them -/
structure OffRow (w : World) (base : Nat) (e : TypeId) (size : Nat) (A : Option Addr) (n c : Nat) (xs : List Value) : Prop where
  len : xs.length = n * size
  le : n ≤ c
  max : c ≤ maxLen
  blk : (A = none ∧ c = 0) ∨ ∃ g o cur, A = some ⟨g, o, none⟩ ∧ base ≤ g ∧ Blk w g e cur ∧ o + c * size ≤ cur.size ∧ ∀ i, i < n * size → cur[o + i]? = xs[i]?
theorem addr_add (g o j : Nat) : (⟨g, o, none⟩ : Addr).add j = ⟨g, o + j, none⟩ := by unfold Addr.add; split <;> simp_all
section
variable {w w' : World} {base : Nat} {e : TypeId} {size n c : Nat} {A : Option Addr} {xs : List Value}
theorem OffRow.nil (w : World) (base : Nat) (e : TypeId) (size : Nat) : OffRow w base e size none 0 0 [] := ⟨by simp, by omega, by unfold maxLen; omega, .inl ⟨rfl, rfl⟩⟩
theorem OffRow.grown {row : Option Nat} (h : OffRow w base e size A n c xs) (hg : w.grownBy w' row) (hne : ∀ g o, A = some ⟨g, o, none⟩ → some g ≠ row) : OffRow w' base e size A n c xs :=
  ⟨h.len, h.le, h.max, h.blk.imp id fun ⟨g, o, cur, e1, e2, e3, e4⟩ => ⟨g, o, cur, e1, e2, e3.grown hg (hne g o e1), e4⟩⟩
theorem OffRow.below (h : OffRow w base e size A n c xs) (hb : Below w.heap.size w w') : OffRow w' base e size A n c xs :=
  ⟨h.len, h.le, h.max, h.blk.imp id fun ⟨g, o, cur, e1, e2, e3, e4⟩ => ⟨g, o, cur, e1, e2, e3.below hb, e4⟩⟩
theorem OffRow.alloc (h : OffRow w base e size A n c xs) (o : Obj) : OffRow (w.alloc o) base e size A n c xs := h.below ((Below.refl _ _).alloc (Nat.le_refl _) o)
/-- where it lies -/
theorem OffRow.addr (h : OffRow w base e size A n c xs) (hn : 0 < c) : ∃ g o cur, A = some ⟨g, o, none⟩ ∧ base ≤ g ∧ Blk w g e cur ∧ o + c * size ≤ cur.size ∧ ∀ i, i < n * size → cur[o + i]? = xs[i]? := by
  rcases h.blk with ⟨_, h2⟩ | h2
  · omega
  · exact h2
theorem OffRow.cell {g o : Nat} (h : OffRow w base e size (some ⟨g, o, none⟩) n c xs) {i : Nat} (hi : i < n * size) : w.cell? ⟨g, o + i, none⟩ = xs[i]? := by
  rcases h.blk with ⟨h1, _⟩ | ⟨g', o', cur, h1, _, h3, _, h5⟩
  · cases h1
  · injection h1 with h1
    injection h1 with e1 e2
    subst e1 e2
    rw [h3.cell, h5 i hi]
theorem OffRow.frozen {g o : Nat} (h : OffRow w base e size (some ⟨g, o, none⟩) n c xs) (j : Nat) : w.frozen? ⟨g, j, none⟩ = false := by
  rcases h.blk with ⟨h1, _⟩ | ⟨g', o', cur, h1, _, h3, _, h5⟩
  · cases h1
  · injection h1 with h1
    injection h1 with e1 e2
    subst e1 e2
    exact h3.frozen j
theorem OffRow.blkAt {g o : Nat} (h : OffRow w base e size (some ⟨g, o, none⟩) n c xs) : ∃ cur, Blk w g e cur := by
  rcases h.blk with ⟨h1, _⟩ | ⟨g', o', cur, h1, h2, h3, _, h5⟩
  · cases h1
  · injection h1 with h1
    injection h1 with e1 e2
    subst e1
    exact ⟨cur, h3⟩
/-- a store into one of its cells -/
theorem OffRow.set {g o : Nat} (h : OffRow w base e size (some ⟨g, o, none⟩) n c xs) {i : Nat} (hi : i < n * size) (u : Value) : OffRow (w.setCell ⟨g, o + i, none⟩ u) base e size (some ⟨g, o, none⟩) n c (xs.set i u) := by
  refine ⟨by simpa using h.len, h.le, h.max, ?_⟩
  rcases h.blk with ⟨h1, _⟩ | ⟨g', o', cur, h1, h2, h3, h4, h5⟩
  · cases h1
  · injection h1 with h1
    injection h1 with e1 e2
    subst e1 e2
    refine .inr ⟨g, o, _, rfl, h2, h3.set_ (o + i) u, by simpa using h4, fun j hj => ?_⟩
    by_cases e : i = j
    · subst e
      have hlen : i < xs.length := by rw [h.len]; exact hi
      have hcur : o + i < cur.size := by
        have := Nat.mul_le_mul_right size h.le
        omega
      simp [hlen, hcur]
    · rw [List.getElem?_set_ne e, ← h5 j hj, Array.getElem?_setIfInBounds, if_neg (by omega)]
/-- where the rest of a slice of elements of several cells begins -/
def cutAtS (A : Option Addr) (c k size : Nat) : Option Addr := if c = k then A else A.map (·.add (k * size))
theorem OffRow.drop (h : OffRow w base e size A n c xs) {k : Nat} (hk : k ≤ n) : OffRow w base e size (cutAtS A c k size) (n - k) (c - k) (xs.drop (k * size)) := by
  have hle := h.le
  have hmax := h.max
  refine ⟨by rw [List.length_drop, h.len, Nat.sub_mul], by omega, by omega, ?_⟩
  rcases h.blk with ⟨h1, h2⟩ | ⟨g, o, cur, h1, h2, h3, h4, h5⟩
  · subst h1 h2
    refine .inl ⟨?_, by omega⟩
    unfold cutAtS; split <;> rfl
  · subst h1
    unfold cutAtS
    split
    · rename_i hck
      subst hck
      refine .inr ⟨g, o, cur, rfl, h2, h3, by simp; omega, fun i hi => ?_⟩
      have : n - c = 0 := by omega
      rw [this] at hi
      simp at hi
    · refine .inr ⟨g, o + k * size, cur, by simp [addr_add], h2, h3, ?_, fun i hi => ?_⟩
      · have : k * size + (c - k) * size = c * size := by rw [← Nat.add_mul]; congr 1; omega
        omega
      · have : i + k * size < n * size := by
          have : (n - k) * size + k * size = n * size := by rw [← Nat.add_mul]; congr 1; omega
          omega
        rw [Nat.add_assoc, h5 _ (by omega), List.getElem?_drop]
end
/-- s[k:] -/
theorem run_slice_fromS {P : Program} {t e : TypeId} {i : TypeInfo} {size : Nat} (ht : P.underlying t = some (.slice e)) (hi : P.info? e = some i) (hs : i.size = size) (A : Option Addr) (n c k : Nat) (hk : k ≤ n) (w : World) :
    (Instr.slice t (.slice A n c) (some (.int .i64 (k : Int))) none none).run P w = .ok (.slice (cutAtS A c k size) (n - k) (c - k)) w := by
  subst hs
  simp [Instr.slice, run_underlying ht, Instr.sliceBounds, Instr.sliceBound, asIntOf, hk, sizeOf, typeInfo, hi, cutAtS]
theorem heap_alloc_old' (w : World) (o : Obj) (k : Nat) (hk : k < w.heap.size) : (w.drew.alloc o).heap[k]? = w.heap[k]? := Below.heap_alloc w.drew o k hk
/-- clear -/
theorem run_clear_off {P : Program} (w : World) (base : Nat) (t ty e : TypeId) (i : TypeInfo) (z : Value) (size : Nat) (ht : P.underlying t = some (.slice e)) (hi : P.info? e = some i) (hz : i.zero = some z)
    (hzs : z.cells.size = size) (h1 : ∀ u ∈ z.cells.toList, u.oneCell' = true)
    (A : Option Addr) (n cap : Nat) (xs : List Value) (hown : OffRow w base e size A n cap xs) (k : Nat) (hk : k ≤ n) :
    ∃ w' ys, (Builtin.clear_ #[t] ty #[.slice A k cap]).run P w = .ok (.tuple #[]) w' ∧ OffRow w' base e size A n cap (ys ++ xs.drop (k * size)) ∧ ys.length = k * size ∧ w.grownBy w' (Value.slice A n cap).ownBlock := by
  have hxl := hown.len
  rcases hown.blk with ⟨rfl, rfl⟩ | ⟨g, o, cur, rfl, hbg, hg, hfit, hcs⟩
  · obtain rfl : n = 0 := by have := hown.le; omega
    obtain rfl : k = 0 := by omega
    exact ⟨w, [], by simp [Builtin.clear_, run_underlying ht], by simpa using hown, by simp, World.grownBy.refl _ _⟩
  · rcases Nat.eq_zero_or_pos k with rfl | hk0
    · exact ⟨w, [], by simp [Builtin.clear_, run_underlying ht], by simpa using hown, by simp, World.grownBy.refl _ _⟩
    · obtain ⟨k', rfl⟩ : ∃ k', k = k' + 1 := ⟨k - 1, by omega⟩
      have hnm : (k' + 1) * size ≤ n * size := Nat.mul_le_mul_right _ hk
      have hnc : n * size ≤ cap * size := Nat.mul_le_mul_right _ hown.le
      have hzl : (Builtin.zeroCells z.cells (k' + 1)).toList.length = (k' + 1) * size := by rw [Array.length_toList, size_zeroCells, hzs]
      have hst := run_storeCells_at P g o e (Builtin.zeroCells z.cells (k' + 1)).toList 0 cur w hg (by omega) (by
        intro u hu
        have hu' : u ∈ Builtin.zeroCells z.cells (k' + 1) := by simpa using hu
        unfold Builtin.zeroCells at hu'
        obtain ⟨j, hj, rfl⟩ := Array.mem_map.1 hu'
        have hz0 : 0 < z.cells.size := by
          rcases Nat.eq_zero_or_pos z.cells.size with h0 | h0
          · rw [h0] at hj; simp at hj
          · exact h0
        refine h1 _ ?_
        have hlt : j % z.cells.size < z.cells.size := Nat.mod_lt _ hz0
        rw [getElem!_pos z.cells _ hlt]
        simp)
      simp only [Nat.add_zero] at hst
      refine ⟨_, (Builtin.zeroCells z.cells (k' + 1)).toList, ?_, ⟨?_, hown.le, hown.max, .inr ⟨g, o, _, rfl, hbg, setRow_heap w g cur (cur.toList.take o ++ (Builtin.zeroCells z.cells (k' + 1)).toList ++ cur.toList.drop (o + (Builtin.zeroCells z.cells (k' + 1)).toList.length)).toArray e _ hg, ?_, fun j hj => ?_⟩⟩, hzl, ⟨rfl, rfl, rfl, by simp, fun k _ hk => setRow_other w g k _ (fun e => hk (by simp [Value.ownBlock, e]))⟩⟩
      · simp [Builtin.clear_, run_underlying ht, zeroValue, typeInfo, hi, hz, hst]
      · rw [List.length_append, List.length_drop, hzl, hxl]; omega
      · simp only [List.size_toArray, List.length_append, List.length_take, List.length_drop, Array.length_toList]
        omega
      · rw [List.getElem?_toArray, List.append_assoc, List.getElem?_append_right (by simp; omega)]
        have e1 : (cur.toList.take o).length = o := by simp; omega
        rw [e1]
        have e2 : o + j - o = j := by omega
        rw [e2]
        by_cases h2 : j < (k' + 1) * size
        · rw [List.getElem?_append_left (by omega), List.getElem?_append_left (by omega)]
        · rw [List.getElem?_append_right (by omega), List.getElem?_append_right (by omega), hzl, List.getElem?_drop, List.getElem?_drop, ← hcs _ (by omega)]
          simp
          congr 1
          omega
end Go.Proofs.YtaknfmionkkdjaaGreat

namespace Go.Proofs.YtaknfmionkkdjaaGreat
open Go.RowKit
set_option linter.unusedVariables false
set_option maxHeartbeats 1000000 in
theorem same_any (w : World) (A A' : Option Addr) (n c n' c' B B' : Nat) (zs zs' : List Int) (h : Rd w B A n (iv zs)) (h' : Rd w B' A' n' (iv zs')) (hn : n ≤ maxLen) (hn' : n' ≤ maxLen) :
    Calls Tryz.prog 28 #[.slice A n c, .slice A' n' c'] w fun e w' => e = .returned (.bool (decide (zs = zs'))) ∧ ∃ k, w' = w.drewN k := by
  have hl : zs.length = n := by have := h.1; rwa [iv_length] at this
  have hl' : zs'.length = n' := by have := h'.1; rwa [iv_length] at this
  unfold maxLen at hn hn'
  by_cases hne : n = n'
  · subst hne
    have HN : Hid (n ≤ 9223372036854775807) := Lib.hid (by omega)
    have HL := Lib.hid hl
    have HL' := Lib.hid hl'
    have H := Lib.hid h
    have H' := Lib.hid h'
    clear h h' hl hl' hn hn'
    go_enter Tryz.func28, Tryz.ntmps28
    go_wp2
    go_loopw [5] (fun i wr => ∃ k : Nat, k ≤ n ∧ i = .int .i64 k ∧ (∀ j, j < k → zs[j]? = zs'[j]?) ∧ ∃ m, wr = w.drewN m) (fun i _ => n - (intOf i).toNat)
    case atStart => exact ⟨0, Nat.zero_le _, rfl, fun j hj => absurd hj (by omega), 0, rfl⟩
    case round =>
      obtain ⟨k, hk, rfl, hs, m, hm⟩ := hrel
      have hkm : (k : Int) ≤ 9223372036854775806 ∨ k = n := by have := HN.out; omega
      by_cases hlt : k < n
      · obtain ⟨z, hz⟩ : ∃ z, zs[k]? = some z := ⟨_, List.getElem?_eq_getElem (by have := HL.out; omega)⟩
        obtain ⟨z', hz'⟩ : ∃ z, zs'[k]? = some z := ⟨_, List.getElem?_eq_getElem (by have := HL'.out; omega)⟩
        obtain ⟨b, o, rfl, _⟩ := H.out.int_at hlt
        obtain ⟨b', o', rfl, _⟩ := H'.out.int_at hlt
        have hc : wr.cell? ⟨b, o + k, none⟩ = some (.int .i64 z) := by rw [hm]; exact H.out.int_cell hlt hz
        have hc' : wr.cell? ⟨b', o' + k, none⟩ = some (.int .i64 z') := by rw [hm]; exact H'.out.int_cell hlt hz'
        have hv : IntKind.i64.wrap ((k : Int) + 1) = (k : Int) + 1 := IntWalk.i64_in _ (by have := HN.out; omega)
        have HS := Lib.hid hs
        have HZ := Lib.hid hz
        have HZ' := Lib.hid hz'
        have HM := Lib.hid hm
        clear hs hz hz' hm hkm
        by_cases he : z = z'
        · subst he
          go_wp2
          go_quiet (fail)
          go_wp2
          go_roundw
          case rel =>
            refine ⟨k + 1, by omega, by go_num, fun j hj => ?_, m + nq, by rw [HM.out, World.drewN_drewN]⟩
            rcases Nat.lt_or_ge j k with h1 | h1
            · exact HS.out j h1
            · obtain rfl : j = k := by omega
              rw [HZ.out, HZ'.out]
          case measure => simp [intOf]; omega
        · have he' : (z == z') = false := by simpa using he
          have he2 : (z != z') = true := by simpa using he
          have HE := Lib.hid (show decide (zs = zs') = false by
            rw [decide_eq_false_iff_not]
            rintro rfl
            have h1 := HZ.out
            rw [HZ'.out] at h1
            injection h1 with h1
            exact he h1.symm)
          clear he
          go_wp2
          go_quiet (fail)
          go_wp2
          go_ret
          exact ⟨ret_bool HE.out.symm, m + nq, by rw [HM.out, World.drewN_drewN]⟩
      · have hkn : k = n := by omega
        have HE := Lib.hid (show decide (zs = zs') = true by
          rw [decide_eq_true_iff]
          apply List.ext_getElem?
          intro j
          rcases Nat.lt_or_ge j n with h1 | h1
          · exact hs j (by omega)
          · rw [List.getElem?_eq_none (by have := HL.out; omega), List.getElem?_eq_none (by have := HL'.out; omega)])
        have HM := Lib.hid hm
        clear hs hkn hm hkm
        go_wp2
        go_ret
        exact ⟨ret_bool HE.out.symm, m, HM.out⟩
  · have HE := Lib.hid (show decide (zs = zs') = false by
      rw [decide_eq_false_iff_not]; rintro rfl; omega)
    have hd : ((n : Int) == (n' : Int)) = false := by simp; omega
    have hd2 : ((n : Int) != (n' : Int)) = true := by simp; omega
    clear h h' hl hl' hn hn' hne
    go_enter Tryz.func28, Tryz.ntmps28
    go_wp2
    go_ret
    exact ⟨ret_bool HE.out.symm, 0, rfl⟩
end Go.Proofs.YtaknfmionkkdjaaGreat

