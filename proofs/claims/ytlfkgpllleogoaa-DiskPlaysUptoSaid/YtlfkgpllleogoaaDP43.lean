/- DiskRow -/
import Derived.Test.YtlfkgpllleogoaaDP42
import Derived.Test.YtlfkgpllleogoaaRows
namespace Go.Proofs.Ytlfkgpllleogoaa
open Go.RowKit
set_option linter.unusedVariables false
/-- what a proof's frame tells of a disk that came in -/
structure IsDisk (w : World) (A A' : Option Addr) (c c' : Nat) (x y : List Nat) : Prop where
  a : Rd w w.heap.size A x.length (bv x)
  b : Rd w w.heap.size A' y.length (bv y)
  ca : x.length ≤ c ∧ c ≤ maxLen
  cb : y.length ≤ c' ∧ c' ≤ maxLen
  fa : ∀ z ∈ x, z < 256
  fb : ∀ z ∈ y, z < 256
/-- the datum of a disk is as long as its rows -/
def LongD {H : Type} (d : DataW H) (x y : List Nat) : Prop := ∃ dA dB, d = .agg [dA, dB] ∧ x.length ≤ slen dA ∧ y.length ≤ slen dB
theorem LongD.small {H : Type} {d : DataW H} {x y : List Nat} {l : List (DataW H)} (h : LongD d x y) (hd : d ∈ l) (hk : Rows.uptoSmall H l = true) : x.length ≤ 1048576 ∧ y.length ≤ 1048576 := by
  obtain ⟨dA, dB, rfl, h1, h2⟩ := h
  have hb : Rows.uptoBulkAll l ≤ 1048576 := of_decide_eq_true hk
  have k := bulk_part hd
  have k1 := bulk_agg (show dA ∈ [dA, dB] by simp)
  have k2 := bulk_agg (show dB ∈ [dA, dB] by simp)
  have s1 := bulk_slen dA
  have s2 := bulk_slen dB
  exact ⟨by omega, by omega⟩
open Go.ChangeShapes Go.WideShapes Go.ChangeAt in
theorem cell_rowC {H : Type} {enc : TypeId × Value → H} {P : Program} {w : World} {t q : TypeId} {n : Nat} {v : Value} {y : DataW H × List MemPlace} (ht : P.underlying t = some (.slice q)) (hq : P.underlying q = some (.int .u8)) (cq : P.cellsOf q = 1)
    (h : DataW.trod enc P w 0 (fun _ => true) true n t [v] = some y) : ∃ (a : Option Addr) (c : Nat) (l : List Nat), v = .slice a l.length c ∧ (∀ x ∈ l, x < 256) ∧ Rd w w.heap.size a l.length (bv l) ∧ l.length ≤ slen y.1 ∧ l.length ≤ c ∧ c ≤ maxLen := by
  have hrow : ∃ a len cap zs, v = .slice a len cap ∧ IsRow .u8 w a len cap zs ∧ len ≤ slen y.1 := by
    rcases open_ints ht hq cq h with ⟨hcs, _⟩ | ⟨x, l, c, zs, hcs, _, hl, hm, hz, hy, hcell, hwz⟩
    · simp at hcs
      subst hcs
      exact ⟨none, 0, 0, [], rfl, .inl ⟨rfl, rfl, rfl, rfl⟩, Nat.zero_le _⟩
    · simp at hcs
      subst hcs
      refine ⟨some x, l, c, zs, rfl, .inr ⟨_, rfl, hl, hm, by simpa using hz, hcell, hwz⟩, ?_⟩
      subst hy
      have hz' : zs.length = c := by simpa using hz
      simp [slen, lits]
      omega
  obtain ⟨a, len, cap, zs, rfl, hr, hle⟩ := hrow
  obtain ⟨l, h1, h2, h3, h4⟩ := hr.rd
  obtain rfl := h2.length
  exact ⟨a, cap, l, rfl, h1, h2, hle, h3, h4⟩
theorem list2 {α : Type} {l : List α} (h : l.length = 2) : ∃ x0 x1, l = [x0, x1] := by
  match l, h with
  | [x0, x1], _ => exact ⟨x0, x1, rfl⟩
set_option maxHeartbeats 1000000 in
open Go.ChangeShapes Go.WideShapes Go.ChangeAt in
set_option maxRecDepth 100000 in
theorem isDisk {H : Type} {enc : TypeId × Value → H} {w : World} {r : Reach} {b0 : Nat} {v : Value} {d : DataW H} {ps : List MemPlace} (hv : Value.okWide Try.prog w r b0 44 v) (h : DataW.Trod enc Try.prog w 0 (fun _ => true) true 44 v d ps) : ∃ A A' c c' x y, v = .agg #[.slice A x.length c, .slice A' y.length c'] ∧ IsDisk w A A' c c' x y ∧ LongD d x y := by
  have cR : (Try.prog).cellsOf 22 = 1 := by kernel_rfl
  have cD : (Try.prog).cellsOf 44 = 2 := by kernel_rfl
  have cU : (Try.prog).cellsOf 5 = 1 := by kernel_rfl
  obtain ⟨cs, rfl, hsz⟩ := okWide_struct Try.underlying44 hv
  rw [cD] at hsz
  obtain ⟨fuel, hf⟩ := h
  obtain ⟨xs, k, _, hx0, _, hxl, hfd⟩ := DataW.trod_struct Try.underlying44 hf
  obtain ⟨cs⟩ := cs
  obtain ⟨v0, v1, rfl⟩ := list2 (l := cs) (by simpa using hsz)
  obtain ⟨y0, y1, rfl⟩ := list2 (l := xs) (by simpa using hxl)
  have e0 := trod_part (t := 22) (o := 0) (us := [v0]) (hfd 0 _ rfl) cR rfl
  obtain ⟨A, c, x, rfl, b1, r1, s1, l1, m1⟩ := cell_rowC Try.underlying22 Try.underlying5 cU (v := v0) (y := y0) e0
  have e1 := trod_part (t := 22) (o := 1) (us := [v1]) (hfd 1 _ rfl) cR rfl
  obtain ⟨A', c', y, rfl, b2, r2, s2, l2, m2⟩ := cell_rowC Try.underlying22 Try.underlying5 cU (v := v1) (y := y1) e1
  refine ⟨A, A', c, c', x, y, rfl, ⟨r1, r2, ⟨l1, m1⟩, ⟨l2, m2⟩, b1, b2⟩, ?_⟩
  exact ⟨y0.1, y1.1, congrArg Prod.fst hx0, s1, s2⟩
end Go.Proofs.Ytlfkgpllleogoaa

