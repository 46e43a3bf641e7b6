/- ObjsForms: the table, and the walk, over any contracts of the code's. -/
import Derived.Test.YtcmjpjhaaookfaaObjsC0
import Derived.Test.YtcmjpjhaaookfaaRegionInv
import Derived.Test.YtcmjpjhaaookfaaBitsKit
import Derived.Great.BuildSlice
import Derived.Deep.CutBlock
import Derived.Deep.RegionHeld3
namespace Go.Proofs.Ytcmjpjhaaookfaa
open Go.RowKit
set_option linter.unusedVariables false
/-- a row of the table -/
structure RowF where
  c : Cm
  ok : Bool
  e : Int
  n : Int
def rowsF : List RowF := [⟨⟨0, 0, [], [], []⟩, false, 7, 0⟩,
  ⟨⟨1, 0, [], [], []⟩, true, 0, 0⟩,
  ⟨⟨2, 0, [], (List.replicate 16 0), []⟩, true, 0, 0⟩,
  ⟨⟨2, 0, [], (List.replicate 17 0), []⟩, true, 1, 0⟩,
  ⟨⟨2, 0, [], (List.replicate 33 0), []⟩, false, 1, 0⟩,
  ⟨⟨3, 0, [], [], []⟩, true, 0, 0⟩,
  ⟨⟨3, 0, [], [], [97]⟩, true, 2, 0⟩,
  ⟨⟨4, 0, [], [], []⟩, true, 0, 1⟩,
  ⟨⟨5, 0, [], [], []⟩, true, 4, 0⟩,
  ⟨⟨6, 0, [], [], []⟩, true, 0, 0⟩,
  ⟨⟨6, 999, [], [], []⟩, true, 0, 0⟩,
  ⟨⟨6, 1000, [], [], []⟩, false, 7, 0⟩,
  ⟨⟨6, (-1), [], [], []⟩, false, 7, 0⟩,
  ⟨⟨7, 0, [], [], []⟩, true, 5, 0⟩,
  ⟨⟨7, 1000, [], [], []⟩, false, 7, 0⟩,
  ⟨⟨8, 0, [], [], []⟩, true, 5, 0⟩,
  ⟨⟨8, 1000, [], [], []⟩, false, 5, 0⟩,
  ⟨⟨9, 0, (List.replicate 8 0), [], []⟩, true, 0, 1⟩,
  ⟨⟨9, 0, (List.replicate 9 0), [], []⟩, true, 1, 0⟩,
  ⟨⟨10, 0, [], [], []⟩, true, 5, 0⟩,
  ⟨⟨11, 0, [], [], []⟩, true, 5, 0⟩,
  ⟨⟨12, 0, [], [], []⟩, false, 7, 0⟩,
  ⟨⟨(-1), 0, [], [], []⟩, false, 7, 0⟩,
  ⟨⟨1, 0, (List.replicate 33 0), [], []⟩, false, 0, 0⟩]
theorem rowsF_length : rowsF.length = 24 := rfl
/-- a row's cells -/
def rowC (ca : CA) (r : RowF) : Array Value := #[.int .i64 r.c.kind, .int .i64 r.c.who, .slice ca.Ak r.c.key.length ca.ck, .slice ca.Av r.c.val.length ca.cv, .slice ca.Ao r.c.old.length ca.co, .bool r.ok, .int .i64 r.e, .int .i64 r.n]
/-- each row is answered as it says -/
def RowF.good (r : RowF) : Bool := (r.c.ok == r.ok) && decide ((Ob.apply ⟨[], [], [], []⟩ r.c).e = r.e) && decide ((Ob.apply ⟨[], [], [], []⟩ r.c).n = r.n) && decide (r.c.key.length ≤ 100) && decide (r.c.val.length ≤ 100) && decide (r.c.old.length ≤ 100) && r.c.key.all (fun x => decide (x < 256)) && r.c.val.all (fun x => decide (x < 256)) && r.c.old.all (fun x => decide (x < 256))
theorem rowsF_good : rowsF.all RowF.good = true := by kernel_rfl
structure GoodF (r : RowF) : Prop where
  ok : r.c.ok = r.ok
  e : (Ob.apply ⟨[], [], [], []⟩ r.c).e = r.e
  n : (Ob.apply ⟨[], [], [], []⟩ r.c).n = r.n
  fit : r.c.Fits
theorem rowsF_at {j : Nat} {r : RowF} (h : rowsF[j]? = some r) : GoodF r := by
  have h1 := List.all_eq_true.1 rowsF_good r (List.mem_of_getElem? h)
  unfold RowF.good at h1
  simp only [Bool.and_eq_true, beq_iff_eq, decide_eq_true_eq, List.all_eq_true] at h1
  obtain ⟨⟨⟨⟨⟨⟨⟨⟨a1, a2⟩, a3⟩, a4⟩, a5⟩, a6⟩, a7⟩, a8⟩, a9⟩ := h1
  exact ⟨a1, a2, a3, ⟨⟨a4, a7⟩, ⟨a5, a8⟩, ⟨a6, a9⟩⟩⟩
/-- the table in memory, at block b -/
def TabF (w : World) (b : Nat) : Prop := b < w.heap.size ∧ ∀ j r, rowsF[j]? = some r → ∃ ca, (∀ t u, (rowC ca r)[t]? = some u → w.cell? ⟨b, j * 8 + t, none⟩ = some u) ∧ RdC w w.heap.size ca r.c
/-- what an operation gives -/
inductive KindF where
  | sl (l : List Nat)
  | raw (l : List Nat)
  | cm (c : Cm)
  | row (r : RowF)
  | big
def KindF.V (w0 : World) : KindF → Value → World → Prop
  | .sl l, v, w => ∃ A c, v = .slice A l.length c ∧ Rd w w.heap.size A l.length (bv l)
  | .raw l, v, w => ∃ b c, v = .slice (some ⟨b, 0, none⟩) l.length c ∧ w0.heap.size ≤ b ∧ Rd w w.heap.size (some ⟨b, 0, none⟩) l.length (bv l)
  | .cm c, v, w => ∃ ca, v = .agg (cmdC ca c) ∧ RdC w w.heap.size ca c
  | .row r, v, w => ∃ ca, v = .agg (rowC ca r) ∧ RdC w w.heap.size ca r.c
  | .big, v, w => ∃ b, v = .slice (some ⟨b, 0, none⟩) 24 24 ∧ TabF w b
def kindsF : List KindF := [.cm ⟨0, 0, [], [], []⟩,
  .row ⟨⟨0, 0, [], [], []⟩, false, 7, 0⟩,
  .cm ⟨1, 0, [], [], []⟩,
  .row ⟨⟨1, 0, [], [], []⟩, true, 0, 0⟩,
  .sl (List.replicate 16 0),
  .cm ⟨2, 0, [], (List.replicate 16 0), []⟩,
  .row ⟨⟨2, 0, [], (List.replicate 16 0), []⟩, true, 0, 0⟩,
  .sl (List.replicate 17 0),
  .cm ⟨2, 0, [], (List.replicate 17 0), []⟩,
  .row ⟨⟨2, 0, [], (List.replicate 17 0), []⟩, true, 1, 0⟩,
  .sl (List.replicate 33 0),
  .cm ⟨2, 0, [], (List.replicate 33 0), []⟩,
  .row ⟨⟨2, 0, [], (List.replicate 33 0), []⟩, false, 1, 0⟩,
  .cm ⟨3, 0, [], [], []⟩,
  .row ⟨⟨3, 0, [], [], []⟩, true, 0, 0⟩,
  .raw [97],
  .sl [97],
  .cm ⟨3, 0, [], [], [97]⟩,
  .row ⟨⟨3, 0, [], [], [97]⟩, true, 2, 0⟩,
  .cm ⟨4, 0, [], [], []⟩,
  .row ⟨⟨4, 0, [], [], []⟩, true, 0, 1⟩,
  .cm ⟨5, 0, [], [], []⟩,
  .row ⟨⟨5, 0, [], [], []⟩, true, 4, 0⟩,
  .cm ⟨6, 0, [], [], []⟩,
  .row ⟨⟨6, 0, [], [], []⟩, true, 0, 0⟩,
  .cm ⟨6, 999, [], [], []⟩,
  .row ⟨⟨6, 999, [], [], []⟩, true, 0, 0⟩,
  .cm ⟨6, 1000, [], [], []⟩,
  .row ⟨⟨6, 1000, [], [], []⟩, false, 7, 0⟩,
  .cm ⟨6, (-1), [], [], []⟩,
  .row ⟨⟨6, (-1), [], [], []⟩, false, 7, 0⟩,
  .cm ⟨7, 0, [], [], []⟩,
  .row ⟨⟨7, 0, [], [], []⟩, true, 5, 0⟩,
  .cm ⟨7, 1000, [], [], []⟩,
  .row ⟨⟨7, 1000, [], [], []⟩, false, 7, 0⟩,
  .cm ⟨8, 0, [], [], []⟩,
  .row ⟨⟨8, 0, [], [], []⟩, true, 5, 0⟩,
  .cm ⟨8, 1000, [], [], []⟩,
  .row ⟨⟨8, 1000, [], [], []⟩, false, 5, 0⟩,
  .sl (List.replicate 8 0),
  .cm ⟨9, 0, (List.replicate 8 0), [], []⟩,
  .row ⟨⟨9, 0, (List.replicate 8 0), [], []⟩, true, 0, 1⟩,
  .sl (List.replicate 9 0),
  .cm ⟨9, 0, (List.replicate 9 0), [], []⟩,
  .row ⟨⟨9, 0, (List.replicate 9 0), [], []⟩, true, 1, 0⟩,
  .cm ⟨10, 0, [], [], []⟩,
  .row ⟨⟨10, 0, [], [], []⟩, true, 5, 0⟩,
  .cm ⟨11, 0, [], [], []⟩,
  .row ⟨⟨11, 0, [], [], []⟩, true, 5, 0⟩,
  .cm ⟨12, 0, [], [], []⟩,
  .row ⟨⟨12, 0, [], [], []⟩, false, 7, 0⟩,
  .cm ⟨(-1), 0, [], [], []⟩,
  .row ⟨⟨(-1), 0, [], [], []⟩, false, 7, 0⟩,
  .sl (List.replicate 33 0),
  .cm ⟨1, 0, (List.replicate 33 0), [], []⟩,
  .row ⟨⟨1, 0, (List.replicate 33 0), [], []⟩, false, 0, 0⟩,
  .big,
  .big]
def dstF (i : Nat) : Nat := ([7, 8, 9, 10, 11, 12, 13, 14, 15, 16, 17, 18, 19, 20, 21, 22, 23, 24, 25, 26, 27, 28, 29, 30, 31, 32, 33, 34, 35, 36, 37, 38, 39, 40, 41, 42, 43, 44, 45, 46, 47, 48, 49, 50, 51, 52, 53, 54, 55, 56, 57, 58, 59, 60, 61, 62, 63, 3] : List Nat).getD i 0
def depsF (i : Nat) : List Nat := ([[], [0], [], [2], [], [4], [5], [], [7], [8], [], [10], [11], [], [13], [], [15], [16], [17], [], [19], [], [21], [], [23], [], [25], [], [27], [], [29], [], [31], [], [33], [], [35], [], [37], [], [39], [40], [], [42], [43], [], [45], [], [47], [], [49], [], [51], [], [53], [54], [1, 3, 6, 9, 12, 14, 18, 20, 22, 24, 26, 28, 30, 32, 34, 36, 38, 41, 44, 46, 48, 50, 52, 55], [56]] : List (List Nat)).getD i []
def VF (w0 : World) (i : Nat) (v : Value) (w : World) : Prop := match kindsF[i]? with
  | some k => k.V w0 v w
  | none => True
theorem Rd.ext {w w' : World} {A : Option Addr} {n : Nat} {vs : List Value} (h : Rd w w.heap.size A n vs) (he : Ext w w') : Rd w' w'.heap.size A n vs := h.keep he.2 he.1
theorem RdC.ext {w w' : World} {ca : CA} {c : Cm} (h : RdC w w.heap.size ca c) (he : Ext w w') : RdC w' w'.heap.size ca c := ⟨h.rk.ext he, h.rv.ext he, h.ro.ext he⟩
theorem KindF.ext (w0 : World) (k : KindF) {v : Value} {w w' : World} (h : k.V w0 v w) (he : Ext w w') : k.V w0 v w' := by
  cases k with
  | sl l => obtain ⟨A, c, h1, h2⟩ := h; exact ⟨A, c, h1, h2.ext he⟩
  | raw l => obtain ⟨b, c, h1, h2, h3⟩ := h; exact ⟨b, c, h1, h2, h3.ext he⟩
  | cm c => obtain ⟨ca, h1, h2⟩ := h; exact ⟨ca, h1, h2.ext he⟩
  | row r => obtain ⟨ca, h1, h2⟩ := h; exact ⟨ca, h1, h2.ext he⟩
  | big =>
    obtain ⟨b, h1, hlt, h2⟩ := h
    refine ⟨b, h1, Nat.lt_of_lt_of_le hlt he.1, fun j r hr => ?_⟩
    obtain ⟨ca, g1, g2⟩ := h2 j r hr
    exact ⟨ca, fun t u hu => (he.2 _ hlt).trans (g1 t u hu), g2.ext he⟩
theorem VF.ext (w0 : World) (i : Nat) (v : Value) (w w' : World) (h : VF w0 i v w) (he : Ext w w') : VF w0 i v w' := by
  unfold VF at h ⊢
  cases hk : kindsF[i]? with
  | none => trivial
  | some k => rw [hk] at h; exact k.ext w0 h he
theorem cell?_freeze (w : World) (a : Addr) (n : Nat) (p : Addr) : (w.freeze a n).cell? p = w.cell? p := by
  unfold World.freeze
  split
  · rfl
  · unfold World.cell?
    simp only [Array.getElem?_modify]
    by_cases h : a.block = p.block
    · rw [if_pos h]
      cases w.heap[p.block]? with
      | none => rfl
      | some o => cases o <;> rfl
    · rw [if_neg h]
theorem below_freeze {B : Nat} {w0 w : World} (h : Below B w0 w) {a : Addr} (ha : B ≤ a.block) (n : Nat) : Below B w0 (w.freeze a n) := by
  unfold World.freeze
  split
  · exact h
  · exact ⟨h.os, h.tape, h.output, by simpa using h.size, fun k hk => by
      show (w.heap.modify a.block _)[k]? = _
      rw [Array.getElem?_modify, if_neg (by omega)]; exact h.block k hk⟩
theorem ext_freeze (w : World) (a : Addr) (n : Nat) : Ext w (w.freeze a n) := by
  refine ⟨?_, fun p _ => cell?_freeze w a n p⟩
  unfold World.freeze
  split
  · exact Nat.le_refl _
  · simp
/-- a constant's own conversion, in whatever world -/
theorem run_conv_const {P : Program} (w : World) (t e : TypeId) (b n c : Nat) (ht : P.underlying t = some (.slice e)) (he : P.underlying e = some (.int .u8)) :
    ∃ w', (convert t t (.slice (some ⟨b, 0, none⟩) n c)).run P w = .ok (.slice (some ⟨b, 0, none⟩) n c) w' ∧ Ext w w' ∧ ∀ (B : Nat) (w0 : World), B ≤ b → Below B w0 w → Below B w0 w' := by
  cases hsh : w.shape? b with
  | none => exact ⟨w, by simp [convert, run_underlying ht, run_underlying he, markStringish, hsh], Ext.refl w, fun _ _ _ h => h⟩
  | some x =>
    obtain ⟨t', m⟩ := x
    exact ⟨w.freeze ⟨b, m, none⟩ 1, by simp [convert, run_underlying ht, run_underlying he, markStringish, hsh], ext_freeze _ _ _, fun B w0 hb h => below_freeze h hb _⟩
theorem ev_tmp {a : Act} {t : Nat} {v : Value} (h : a.eval (.tmp t) = v) : a.tmps[t]?.getD undef = v := by rw [← h]; simp [Act.eval]
theorem makeF_run (w : World) (n : Nat) (hn : n ≤ 1000) : (Instr.makeSlice 22 (.int .i64 (n : Int)) (.int .i64 (n : Int))).run Try.prog w = .ok (.slice (some ⟨w.heap.size, 0, none⟩) n n) (w.alloc (.cells (madeCells #[.int .u8 0] (n * 1)) 5)) := by
  obtain ⟨i, hi, hz, hsz, hby⟩ := info_parts byteT.info
  have hr := run_make (P := Try.prog) w 22 5 i (.int .u8 0) Try.underlying22 hi hz .i64 .i64 n n (by omega) (Int.le_refl _) (by rw [hby]; omega) (by omega)
  simp only [Int.toNat_natCast, hsz] at hr
  exact hr
theorem rd_zerosF (w : World) (n : Nat) : Rd (w.alloc (.cells (madeCells #[.int .u8 0] (n * 1)) 5)) (w.alloc (.cells (madeCells #[.int .u8 0] (n * 1)) 5)).heap.size (some ⟨w.heap.size, 0, none⟩) (List.replicate n 0).length (bv (List.replicate n 0)) := by
  have h := Rd.made w (madeCells (Value.int .u8 0).cells (n * 1)) 5 (0, 0) n (by simp [madeCells])
  rw [made_zeros] at h
  rw [List.length_replicate]
  exact h.fit
end Go.Proofs.Ytcmjpjhaaookfaa
