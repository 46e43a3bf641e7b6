/- RegionInvF BitsKit MesgBoundsKit MesgBoundsBig -/
import Derived.Test.YtijcbbommaeejaaB03
import Derived.IntWalk
import Derived.Laws.BitsAllLaws
import Derived.Deep.CutBlock
import Derived.Deep.RegionHeld3
import Derived.Great.BuildSlice
namespace Go.Proofs.Ytijcbbommaeejaa
open Go.RowKit
set_option linter.unusedVariables false
section
variable {P : Program} {md : Region.Mode} {ops : Array Oper} {Q : Exit → Act → World → Prop}
def OpOKF (P : Program) (Q : Exit → Act → World → Prop) (w0 : World) (V : Nat → Value → World → Prop) (dst : Nat → Nat) (deps : Nat → List Nat) (Fr : Act → Prop) (i : Nat) (o : Oper) : Prop :=
  ∀ (a : Act) (w : World), Fr a → Below w0.heap.size w0 w → (∀ j ∈ deps i, V j (a.eval (.tmp (dst j))) w) → ∀ K : Act → World → Prop, Shut (∀ v w', Ext w w' → Below w0.heap.size w0 w' → V i v w' → K (a.put o.dst v) w') → Oper.wp P o a w K Q
theorem region_invF {id : Nat} (frame : (Nat → Value) → Act) (dst : Nat → Nat) (deps : Nat → List Nat) (V : Nat → Value → World → Prop) (Fr : Act → Prop) {w0 w : World} {U0 : Nat → Value} (hm : P.follows .mixedOrders = true) (hb : goesBack .any ops = true)
    (hinj : ∀ i j, i < ops.size → j < ops.size → dst i = dst j → i = j) (hdst : ∀ i o, ops[i]? = some o → o.dst = some (dst i) ∧ o.guard = none) (hdeps : ∀ i, i < ops.size → ∀ j ∈ deps i, Region.waitsFor .any ops i j = true)
    (hput : ∀ i o, ops[i]? = some o → ∀ U v, (frame U).put (some (dst i)) v = frame (fun n => if n = dst i then v else U n)) (hev : ∀ i o, ops[i]? = some o → ∀ U, (frame U).eval (.tmp (dst i)) = U (dst i)) (hfr : ∀ U, Fr (frame U))
    (hst : ∀ i v w w', V i v w → Ext w w' → V i v w') (hB : Below w0.heap.size w0 w) (hok : ∀ i o, ops[i]? = some o → OpOKF P Q w0 V dst deps Fr i o)
    (hdone : ∀ U w', Below w0.heap.size w0 w' → (∀ i, i < ops.size → V i (U (dst i)) w') → Q .normal (frame U) w') : (Code.region id ops true).wp P Q (frame U0) w := by
  refine wp_region_any hm (wpAny_inv (I := fun listed a w => ∃ U, a = frame U ∧ Below w0.heap.size w0 w ∧ listed.size = ops.size ∧ ∀ i, i < ops.size → listed.getD i false = true → V i (U (dst i)) w) hb (fun listed a w h => by obtain ⟨_, _, _, h, _⟩ := h; exact h) ?_ ?_ ops.size _ _ _
    ⟨U0, rfl, hB.drew, by simp, fun i hi h => by simp [hi] at h⟩ ?_)
  · rintro listed a w i o ⟨U, rfl, hBw, hs, hV⟩ hi ho K hK
    obtain ⟨hd, hg⟩ := hdst i o ho
    have hlt := (Array.getElem?_eq_some_iff.1 ho).1
    rw [if_pos (by simp [Region.wanted, hg])]
    refine hok i o ho (frame U) w (hfr U) hBw (fun j hj => ?_) K (fun v w' he hB' hv => hK _ _ ⟨fun n => if n = dst i then v else U n, ?_, hB', by simp [hs], fun j hj hl => ?_⟩)
    · have h1 := ready_dep (hdeps i hlt j hj) hi
      have hjl : j < ops.size := by
        rcases Nat.lt_or_ge j listed.size with h' | h'
        · omega
        · simp [Array.getElem?_eq_none h'] at h1
      rw [hev j ops[j] (Array.getElem?_eq_getElem hjl)]
      exact hV j hjl h1
    · rw [hd]; exact hput i o ho U v
    · by_cases hji : j = i
      · subst hji; show V j (if dst j = dst j then v else U (dst j)) w'; rw [if_pos rfl]; exact hv
      · have hne : dst j ≠ dst i := fun e => hji (hinj j i hj hlt e)
        simp only [if_neg hne]
        rw [getD_set_ne false (Ne.symm hji)] at hl
        exact hst j _ _ _ (hV j hj hl) he
  · rintro listed a w ⟨U, rfl, hBw, hs, hV⟩ hall
    exact hdone U w hBw (fun i hi => hV i hi (hall i hi))
  · unfold unl
    exact Nat.le_trans (List.length_filter_le _ _) (by simp)
end
end Go.Proofs.Ytijcbbommaeejaa

namespace Go.Proofs.Ytijcbbommaeejaa
theorem and_mask (n : Int) (j : Nat) (hj : j < 62) : bits .and .i64 n ((2 ^ j - 1 : Nat) : Int) = n % ((2 ^ j : Nat) : Int) := by
  have hp : 2 ^ j < 2 ^ 62 := Nat.pow_lt_pow_right (by omega) hj
  have hp0 : 0 < 2 ^ j := Nat.two_pow_pos j
  show IntKind.i64.wrap ((BitVec.ofInt 64 n &&& BitVec.ofInt 64 ((2 ^ j - 1 : Nat) : Int)).toNat : Int) = _
  have h1 : (BitVec.ofInt 64 ((2 ^ j - 1 : Nat) : Int)).toNat = 2 ^ j - 1 := by
    rw [BitVec.toNat_ofInt]
    have : (((2 ^ j - 1 : Nat) : Int) % ((2 ^ 64 : Nat) : Int)) = ((2 ^ j - 1 : Nat) : Int) := Int.emod_eq_of_lt (by omega) (by omega)
    rw [this]; simp
  have e : (BitVec.ofInt 64 n &&& BitVec.ofInt 64 ((2 ^ j - 1 : Nat) : Int)).toNat = (n % ((2 ^ j : Nat) : Int)).toNat := by
    rw [BitVec.toNat_and, h1, Nat.and_two_pow_sub_one_eq_mod, BitVec.toNat_ofInt]
    have hd : ((2 ^ j : Nat) : Int) ∣ ((2 ^ 64 : Nat) : Int) := by
      refine ⟨((2 ^ (64 - j) : Nat) : Int), ?_⟩
      rw [← Int.natCast_mul, ← Nat.pow_add, show j + (64 - j) = 64 by omega]
    have h2 := Int.emod_emod_of_dvd n hd
    have h3 := Int.emod_nonneg n (show ((2 ^ 64 : Nat) : Int) ≠ 0 by omega)
    have h4 := Int.emod_nonneg n (show ((2 ^ j : Nat) : Int) ≠ 0 by omega)
    have h5 : (((n % ((2 ^ 64 : Nat) : Int)).toNat % 2 ^ j : Nat) : Int) = n % ((2 ^ j : Nat) : Int) := by
      rw [Int.natCast_emod, Int.toNat_of_nonneg h3, h2]
    omega
  rw [e, IntKind.wrap_i64]
  have h4 := Int.emod_nonneg n (show ((2 ^ j : Nat) : Int) ≠ 0 by omega)
  have h5 := Int.emod_lt_of_pos n (show 0 < ((2 ^ j : Nat) : Int) by omega)
  omega
theorem and_255 (n : Int) : bits .and .i64 n 255 = n % 256 := by simpa using and_mask n 8 (by omega)
end Go.Proofs.Ytijcbbommaeejaa

namespace Go.Proofs.Ytijcbbommaeejaa
open Go.RowKit
set_option linter.unusedVariables false
structure RowG where
  m : Mg
  ok : Bool
def rowsG : List RowG := [⟨⟨0, 0, 0, 0, 0, 0, false, 0, 0, 0, 0, [], 0, 0, [], [], 0, En.zero⟩, false⟩,
  ⟨⟨1, 0, 0, 0, 0, 0, false, 0, 0, 0, 0, [], 0, 0, [], [], 0, En.zero⟩, true⟩,
  ⟨⟨9, 0, 0, 0, 0, 0, false, 0, 0, 0, 0, [], 0, 0, [], [], 0, En.zero⟩, false⟩,
  ⟨⟨(-1), 0, 0, 0, 0, 0, false, 0, 0, 0, 0, [], 0, 0, [], [], 0, En.zero⟩, false⟩,
  ⟨⟨1, 6, 6, 1099511627776, 0, 0, false, 0, 0, 0, 0, [], 0, 0, [], [], 0, En.zero⟩, true⟩,
  ⟨⟨1, 7, 0, 0, 0, 0, false, 0, 0, 0, 0, [], 0, 0, [], [], 0, En.zero⟩, false⟩,
  ⟨⟨1, 0, (-1), 0, 0, 0, false, 0, 0, 0, 0, [], 0, 0, [], [], 0, En.zero⟩, false⟩,
  ⟨⟨1, 0, 0, 1099511627777, 0, 0, false, 0, 0, 0, 0, [], 0, 0, [], [], 0, En.zero⟩, false⟩,
  ⟨⟨1, 0, 0, (-1), 0, 0, false, 0, 0, 0, 0, [], 0, 0, [], [], 0, En.zero⟩, false⟩,
  ⟨⟨2, 0, 0, 0, 1099511627776, 1099511627776, false, 0, 0, 0, 0, [], 0, 0, [], [], 0, En.zero⟩, true⟩,
  ⟨⟨2, 0, 0, 0, 1099511627777, 0, false, 0, 0, 0, 0, [], 0, 0, [], [], 0, En.zero⟩, false⟩,
  ⟨⟨2, 0, 0, 0, 0, (-1), false, 0, 0, 0, 0, [], 0, 0, [], [], 0, En.zero⟩, false⟩,
  ⟨⟨3, 0, 0, 0, 0, 1099511627776, false, 127, 6, 0, 0, [], 0, 0, [], [], 0, En.zero⟩, true⟩,
  ⟨⟨3, 0, 0, 0, 0, 0, false, 128, 0, 0, 0, [], 0, 0, [], [], 0, En.zero⟩, false⟩,
  ⟨⟨3, 0, 0, 0, 0, 0, false, 0, 7, 0, 0, [], 0, 0, [], [], 0, En.zero⟩, false⟩,
  ⟨⟨4, 0, 0, 0, 0, 0, false, 0, 0, 1099511627776, 0, [], 0, 0, [], [], 0, En.zero⟩, true⟩,
  ⟨⟨4, 0, 0, 0, 0, 0, false, 0, 0, 1099511627777, 0, [], 0, 0, [], [], 0, En.zero⟩, false⟩,
  ⟨⟨5, 0, 0, 0, 0, 0, false, 0, 0, 0, 0, (List.replicate 64 0), 0, 0, [], [], 0, En.zero⟩, true⟩,
  ⟨⟨5, 0, 0, 0, 0, 0, false, 0, 0, 0, 0, (List.replicate 65 0), 0, 0, [], [], 0, En.zero⟩, false⟩,
  ⟨⟨5, 0, 0, 0, 0, 0, false, 0, 0, 0, (-1), [], 0, 0, [], [], 0, En.zero⟩, false⟩,
  ⟨⟨7, 0, 0, 0, 0, 0, false, 0, 0, 0, 0, [], 0, 0, (List.replicate 7 0), (List.replicate 8 0), 0, En.zero⟩, true⟩,
  ⟨⟨7, 0, 0, 0, 0, 0, false, 0, 0, 0, 0, [], 0, 0, (List.replicate 8 0), [], 0, En.zero⟩, false⟩,
  ⟨⟨7, 0, 0, 0, 0, 0, false, 0, 0, 0, 0, [], 0, 0, [], (List.replicate 9 0), 0, En.zero⟩, false⟩,
  ⟨⟨7, 0, 0, 0, 0, 0, false, 0, 0, 0, 0, [], 0, 0, [(-1)], [], 0, En.zero⟩, false⟩,
  ⟨⟨7, 0, 0, 0, 0, 0, false, 0, 0, 0, 0, [], 1099511627777, 0, [], [], 0, En.zero⟩, false⟩,
  ⟨⟨8, 0, 0, 0, 0, 0, false, 0, 0, 0, 0, [], 0, 0, [], [], 1099511627776, En.zero⟩, true⟩,
  ⟨⟨8, 0, 0, 0, 0, 0, false, 0, 0, 0, 0, [], 0, 0, [], [], 0, ⟨1073741824, 1073741824, ⟨1073741824, 1073741824, (List.replicate 32 0), [], []⟩⟩⟩, true⟩,
  ⟨⟨8, 0, 0, 0, 0, 0, false, 0, 0, 0, 0, [], 0, 0, [], [], 0, ⟨1073741825, 0, ⟨0, 0, [], [], []⟩⟩⟩, false⟩,
  ⟨⟨8, 0, 0, 0, 0, 0, false, 0, 0, 0, 0, [], 0, 0, [], [], 0, ⟨0, 0, ⟨0, 0, [], (List.replicate 33 0), []⟩⟩⟩, false⟩,
  ⟨⟨6, 0, 0, 0, 0, 0, false, 999, 0, 0, 0, [], 0, 0, (List.replicate 8 0), [], 0, En.zero⟩, true⟩]
theorem rowsG_length : rowsG.length = 30 := rfl
def rowCG (a : GA) (r : RowG) : Array Value := #[.int .i64 r.m.kind, .int .i64 r.m.frm, .int .i64 r.m.dst, .int .i64 r.m.view, .int .i64 r.m.inst, .int .i64 r.m.len, .bool r.m.has, .int .i64 r.m.mem, .int .i64 r.m.src, .int .i64 r.m.pos, .int .i64 r.m.tot, .slice a.Ad r.m.data.length a.cd, .int .i64 r.m.hop, .int .i64 r.m.seq, .slice a.Ah r.m.hav.length a.ch, .slice a.An r.m.nee.length a.cn, .int .i64 r.m.idx, .int .i64 r.m.ent.s, .int .i64 r.m.ent.q, .int .i64 r.m.ent.c.kind, .int .i64 r.m.ent.c.who, .slice a.c.Ak r.m.ent.c.key.length a.c.ck, .slice a.c.Av r.m.ent.c.val.length a.c.cv, .slice a.c.Ao r.m.ent.c.old.length a.c.co, .bool r.ok]
def RowG.good (r : RowG) : Bool := (r.m.ok == r.ok) && decide (r.m.data.length ≤ 1000) && r.m.data.all (fun x => decide (x < 256)) && decide (r.m.hav.length ≤ 1000) && decide (r.m.nee.length ≤ 1000) && decide (r.m.ent.c.key.length ≤ 1000) && r.m.ent.c.key.all (fun x => decide (x < 256)) && decide (r.m.ent.c.val.length ≤ 1000) && r.m.ent.c.val.all (fun x => decide (x < 256)) && decide (r.m.ent.c.old.length ≤ 1000) && r.m.ent.c.old.all (fun x => decide (x < 256))
theorem rowsG_good : rowsG.all RowG.good = true := by decide +kernel
structure GoodG (r : RowG) : Prop where
  ok : r.m.ok = r.ok
  w : r.m.Wide
theorem rowsG_at {j : Nat} {r : RowG} (h : rowsG[j]? = some r) : GoodG r := by
  have h1 := List.all_eq_true.1 rowsG_good r (List.mem_of_getElem? h)
  unfold RowG.good at h1
  simp only [Bool.and_eq_true, beq_iff_eq, decide_eq_true_eq, List.all_eq_true] at h1
  obtain ⟨⟨⟨⟨⟨⟨⟨⟨⟨⟨a1, a2⟩, a3⟩, a4⟩, a5⟩, a6⟩, a7⟩, a8⟩, a9⟩, a10⟩, a11⟩ := h1
  exact ⟨a1, ⟨⟨by omega, a3⟩, by omega, by omega, ⟨⟨by omega, a7⟩, ⟨by omega, a9⟩, ⟨by omega, a11⟩⟩⟩⟩
def TabG (w : World) (b : Nat) : Prop := b < w.heap.size ∧ ∀ j r, rowsG[j]? = some r → ∃ a, (∀ t u, (rowCG a r)[t]? = some u → w.cell? ⟨b, j * 25 + t, none⟩ = some u) ∧ RdG w w.heap.size a r.m
inductive KindG where
  | sl (l : List Nat)
  | isl (l : List Int)
  | num (z : Int)
  | cm (c : Cm)
  | en (e : En)
  | mg (m : Mg)
  | row (r : RowG)
  | big
def KindG.V : KindG → Value → World → Prop
  | .sl l, v, w => ∃ A c, v = .slice A l.length c ∧ Rd w w.heap.size A l.length (bv l)
  | .isl l, v, w => ∃ A c, v = .slice A l.length c ∧ Rd w w.heap.size A l.length (iv l) ∧ l.length ≤ c ∧ c ≤ maxLen
  | .num z, v, w => v = .int .i64 z
  | .cm c, v, w => ∃ a, v = .agg (cmdC a c) ∧ RdC w w.heap.size a c
  | .en e, v, w => ∃ a, v = .agg (entC a e) ∧ RdC w w.heap.size a e.c
  | .mg m, v, w => ∃ a, v = .agg (msgC a m) ∧ RdG w w.heap.size a m
  | .row r, v, w => ∃ a, v = .agg (rowCG a r) ∧ RdG w w.heap.size a r.m
  | .big, v, w => ∃ b, v = .slice (some ⟨b, 0, none⟩) 30 30 ∧ TabG w b
def kindsG : List KindG := [.mg ⟨0, 0, 0, 0, 0, 0, false, 0, 0, 0, 0, [], 0, 0, [], [], 0, En.zero⟩,
  .row ⟨⟨0, 0, 0, 0, 0, 0, false, 0, 0, 0, 0, [], 0, 0, [], [], 0, En.zero⟩, false⟩,
  .mg ⟨1, 0, 0, 0, 0, 0, false, 0, 0, 0, 0, [], 0, 0, [], [], 0, En.zero⟩,
  .row ⟨⟨1, 0, 0, 0, 0, 0, false, 0, 0, 0, 0, [], 0, 0, [], [], 0, En.zero⟩, true⟩,
  .mg ⟨9, 0, 0, 0, 0, 0, false, 0, 0, 0, 0, [], 0, 0, [], [], 0, En.zero⟩,
  .row ⟨⟨9, 0, 0, 0, 0, 0, false, 0, 0, 0, 0, [], 0, 0, [], [], 0, En.zero⟩, false⟩,
  .mg ⟨(-1), 0, 0, 0, 0, 0, false, 0, 0, 0, 0, [], 0, 0, [], [], 0, En.zero⟩,
  .row ⟨⟨(-1), 0, 0, 0, 0, 0, false, 0, 0, 0, 0, [], 0, 0, [], [], 0, En.zero⟩, false⟩,
  .num 1099511627776,
  .mg ⟨1, 6, 6, 1099511627776, 0, 0, false, 0, 0, 0, 0, [], 0, 0, [], [], 0, En.zero⟩,
  .row ⟨⟨1, 6, 6, 1099511627776, 0, 0, false, 0, 0, 0, 0, [], 0, 0, [], [], 0, En.zero⟩, true⟩,
  .mg ⟨1, 7, 0, 0, 0, 0, false, 0, 0, 0, 0, [], 0, 0, [], [], 0, En.zero⟩,
  .row ⟨⟨1, 7, 0, 0, 0, 0, false, 0, 0, 0, 0, [], 0, 0, [], [], 0, En.zero⟩, false⟩,
  .mg ⟨1, 0, (-1), 0, 0, 0, false, 0, 0, 0, 0, [], 0, 0, [], [], 0, En.zero⟩,
  .row ⟨⟨1, 0, (-1), 0, 0, 0, false, 0, 0, 0, 0, [], 0, 0, [], [], 0, En.zero⟩, false⟩,
  .num 1099511627776,
  .num 1099511627777,
  .mg ⟨1, 0, 0, 1099511627777, 0, 0, false, 0, 0, 0, 0, [], 0, 0, [], [], 0, En.zero⟩,
  .row ⟨⟨1, 0, 0, 1099511627777, 0, 0, false, 0, 0, 0, 0, [], 0, 0, [], [], 0, En.zero⟩, false⟩,
  .mg ⟨1, 0, 0, (-1), 0, 0, false, 0, 0, 0, 0, [], 0, 0, [], [], 0, En.zero⟩,
  .row ⟨⟨1, 0, 0, (-1), 0, 0, false, 0, 0, 0, 0, [], 0, 0, [], [], 0, En.zero⟩, false⟩,
  .num 1099511627776,
  .num 1099511627776,
  .mg ⟨2, 0, 0, 0, 1099511627776, 1099511627776, false, 0, 0, 0, 0, [], 0, 0, [], [], 0, En.zero⟩,
  .row ⟨⟨2, 0, 0, 0, 1099511627776, 1099511627776, false, 0, 0, 0, 0, [], 0, 0, [], [], 0, En.zero⟩, true⟩,
  .num 1099511627776,
  .num 1099511627777,
  .mg ⟨2, 0, 0, 0, 1099511627777, 0, false, 0, 0, 0, 0, [], 0, 0, [], [], 0, En.zero⟩,
  .row ⟨⟨2, 0, 0, 0, 1099511627777, 0, false, 0, 0, 0, 0, [], 0, 0, [], [], 0, En.zero⟩, false⟩,
  .mg ⟨2, 0, 0, 0, 0, (-1), false, 0, 0, 0, 0, [], 0, 0, [], [], 0, En.zero⟩,
  .row ⟨⟨2, 0, 0, 0, 0, (-1), false, 0, 0, 0, 0, [], 0, 0, [], [], 0, En.zero⟩, false⟩,
  .num 1099511627776,
  .mg ⟨3, 0, 0, 0, 0, 1099511627776, false, 127, 6, 0, 0, [], 0, 0, [], [], 0, En.zero⟩,
  .row ⟨⟨3, 0, 0, 0, 0, 1099511627776, false, 127, 6, 0, 0, [], 0, 0, [], [], 0, En.zero⟩, true⟩,
  .mg ⟨3, 0, 0, 0, 0, 0, false, 128, 0, 0, 0, [], 0, 0, [], [], 0, En.zero⟩,
  .row ⟨⟨3, 0, 0, 0, 0, 0, false, 128, 0, 0, 0, [], 0, 0, [], [], 0, En.zero⟩, false⟩,
  .mg ⟨3, 0, 0, 0, 0, 0, false, 0, 7, 0, 0, [], 0, 0, [], [], 0, En.zero⟩,
  .row ⟨⟨3, 0, 0, 0, 0, 0, false, 0, 7, 0, 0, [], 0, 0, [], [], 0, En.zero⟩, false⟩,
  .num 1099511627776,
  .mg ⟨4, 0, 0, 0, 0, 0, false, 0, 0, 1099511627776, 0, [], 0, 0, [], [], 0, En.zero⟩,
  .row ⟨⟨4, 0, 0, 0, 0, 0, false, 0, 0, 1099511627776, 0, [], 0, 0, [], [], 0, En.zero⟩, true⟩,
  .num 1099511627776,
  .num 1099511627777,
  .mg ⟨4, 0, 0, 0, 0, 0, false, 0, 0, 1099511627777, 0, [], 0, 0, [], [], 0, En.zero⟩,
  .row ⟨⟨4, 0, 0, 0, 0, 0, false, 0, 0, 1099511627777, 0, [], 0, 0, [], [], 0, En.zero⟩, false⟩,
  .sl (List.replicate 64 0),
  .mg ⟨5, 0, 0, 0, 0, 0, false, 0, 0, 0, 0, (List.replicate 64 0), 0, 0, [], [], 0, En.zero⟩,
  .row ⟨⟨5, 0, 0, 0, 0, 0, false, 0, 0, 0, 0, (List.replicate 64 0), 0, 0, [], [], 0, En.zero⟩, true⟩,
  .sl (List.replicate 65 0),
  .mg ⟨5, 0, 0, 0, 0, 0, false, 0, 0, 0, 0, (List.replicate 65 0), 0, 0, [], [], 0, En.zero⟩,
  .row ⟨⟨5, 0, 0, 0, 0, 0, false, 0, 0, 0, 0, (List.replicate 65 0), 0, 0, [], [], 0, En.zero⟩, false⟩,
  .mg ⟨5, 0, 0, 0, 0, 0, false, 0, 0, 0, (-1), [], 0, 0, [], [], 0, En.zero⟩,
  .row ⟨⟨5, 0, 0, 0, 0, 0, false, 0, 0, 0, (-1), [], 0, 0, [], [], 0, En.zero⟩, false⟩,
  .isl (List.replicate 7 0),
  .isl (List.replicate 8 0),
  .mg ⟨7, 0, 0, 0, 0, 0, false, 0, 0, 0, 0, [], 0, 0, (List.replicate 7 0), (List.replicate 8 0), 0, En.zero⟩,
  .row ⟨⟨7, 0, 0, 0, 0, 0, false, 0, 0, 0, 0, [], 0, 0, (List.replicate 7 0), (List.replicate 8 0), 0, En.zero⟩, true⟩,
  .isl (List.replicate 8 0),
  .mg ⟨7, 0, 0, 0, 0, 0, false, 0, 0, 0, 0, [], 0, 0, (List.replicate 8 0), [], 0, En.zero⟩,
  .row ⟨⟨7, 0, 0, 0, 0, 0, false, 0, 0, 0, 0, [], 0, 0, (List.replicate 8 0), [], 0, En.zero⟩, false⟩,
  .isl (List.replicate 9 0),
  .mg ⟨7, 0, 0, 0, 0, 0, false, 0, 0, 0, 0, [], 0, 0, [], (List.replicate 9 0), 0, En.zero⟩,
  .row ⟨⟨7, 0, 0, 0, 0, 0, false, 0, 0, 0, 0, [], 0, 0, [], (List.replicate 9 0), 0, En.zero⟩, false⟩,
  .isl [(-1)],
  .mg ⟨7, 0, 0, 0, 0, 0, false, 0, 0, 0, 0, [], 0, 0, [(-1)], [], 0, En.zero⟩,
  .row ⟨⟨7, 0, 0, 0, 0, 0, false, 0, 0, 0, 0, [], 0, 0, [(-1)], [], 0, En.zero⟩, false⟩,
  .num 1099511627776,
  .num 1099511627777,
  .mg ⟨7, 0, 0, 0, 0, 0, false, 0, 0, 0, 0, [], 1099511627777, 0, [], [], 0, En.zero⟩,
  .row ⟨⟨7, 0, 0, 0, 0, 0, false, 0, 0, 0, 0, [], 1099511627777, 0, [], [], 0, En.zero⟩, false⟩,
  .num 1099511627776,
  .mg ⟨8, 0, 0, 0, 0, 0, false, 0, 0, 0, 0, [], 0, 0, [], [], 1099511627776, En.zero⟩,
  .row ⟨⟨8, 0, 0, 0, 0, 0, false, 0, 0, 0, 0, [], 0, 0, [], [], 1099511627776, En.zero⟩, true⟩,
  .sl (List.replicate 32 0),
  .cm ⟨1073741824, 1073741824, (List.replicate 32 0), [], []⟩,
  .en ⟨1073741824, 1073741824, ⟨1073741824, 1073741824, (List.replicate 32 0), [], []⟩⟩,
  .mg ⟨8, 0, 0, 0, 0, 0, false, 0, 0, 0, 0, [], 0, 0, [], [], 0, ⟨1073741824, 1073741824, ⟨1073741824, 1073741824, (List.replicate 32 0), [], []⟩⟩⟩,
  .row ⟨⟨8, 0, 0, 0, 0, 0, false, 0, 0, 0, 0, [], 0, 0, [], [], 0, ⟨1073741824, 1073741824, ⟨1073741824, 1073741824, (List.replicate 32 0), [], []⟩⟩⟩, true⟩,
  .en ⟨1073741825, 0, ⟨0, 0, [], [], []⟩⟩,
  .mg ⟨8, 0, 0, 0, 0, 0, false, 0, 0, 0, 0, [], 0, 0, [], [], 0, ⟨1073741825, 0, ⟨0, 0, [], [], []⟩⟩⟩,
  .row ⟨⟨8, 0, 0, 0, 0, 0, false, 0, 0, 0, 0, [], 0, 0, [], [], 0, ⟨1073741825, 0, ⟨0, 0, [], [], []⟩⟩⟩, false⟩,
  .sl (List.replicate 33 0),
  .cm ⟨0, 0, [], (List.replicate 33 0), []⟩,
  .en ⟨0, 0, ⟨0, 0, [], (List.replicate 33 0), []⟩⟩,
  .mg ⟨8, 0, 0, 0, 0, 0, false, 0, 0, 0, 0, [], 0, 0, [], [], 0, ⟨0, 0, ⟨0, 0, [], (List.replicate 33 0), []⟩⟩⟩,
  .row ⟨⟨8, 0, 0, 0, 0, 0, false, 0, 0, 0, 0, [], 0, 0, [], [], 0, ⟨0, 0, ⟨0, 0, [], (List.replicate 33 0), []⟩⟩⟩, false⟩,
  .isl (List.replicate 8 0),
  .mg ⟨6, 0, 0, 0, 0, 0, false, 999, 0, 0, 0, [], 0, 0, (List.replicate 8 0), [], 0, En.zero⟩,
  .row ⟨⟨6, 0, 0, 0, 0, 0, false, 999, 0, 0, 0, [], 0, 0, (List.replicate 8 0), [], 0, En.zero⟩, true⟩,
  .big,
  .big]
def dstG (i : Nat) : Nat := ([13, 14, 15, 16, 17, 18, 19, 20, 21, 22, 23, 24, 25, 26, 27, 28, 29, 30, 31, 32, 33, 34, 35, 36, 37, 38, 39, 40, 41, 42, 43, 44, 45, 46, 47, 48, 49, 50, 51, 52, 53, 54, 55, 56, 57, 58, 59, 60, 61, 62, 63, 64, 65, 66, 67, 68, 69, 70, 71, 72, 73, 74, 75, 76, 77, 78, 79, 80, 81, 82, 83, 84, 85, 86, 87, 88, 89, 90, 91, 92, 93, 94, 95, 96, 97, 98, 99, 100, 101, 102, 6] : List Nat).getD i 0
def depsG (i : Nat) : List Nat := ([[], [0], [], [2], [], [4], [], [6], [], [8], [9], [], [11], [], [13], [], [15], [16], [17], [], [19], [], [], [21, 22], [23], [], [25], [26], [27], [], [29], [], [31], [32], [], [34], [], [36], [], [38], [39], [], [41], [42], [43], [], [45], [46], [], [48], [49], [], [51], [], [], [53, 54], [55], [], [57], [58], [], [60], [61], [], [63], [64], [], [66], [67], [68], [], [70], [71], [], [73], [74], [75], [76], [], [78], [79], [], [81], [82], [83], [84], [], [86], [87], [1, 3, 5, 7, 10, 12, 14, 18, 20, 24, 28, 30, 33, 35, 37, 40, 44, 47, 50, 52, 56, 59, 62, 65, 69, 72, 77, 80, 85, 88], [89]] : List (List Nat)).getD i []
def VL (ks : List KindG) (i : Nat) (v : Value) (w : World) : Prop := match ks[i]? with
  | some k => k.V v w
  | none => True
def VG (i : Nat) (v : Value) (w : World) : Prop := VL kindsG i v w
def kindsA : List KindG := [.isl (List.replicate 7 0), .isl (List.replicate 8 0), .isl (List.replicate 7 0), .isl (List.replicate 8 0)]
def dstA (i : Nat) : Nat := ([11, 12, 4, 5] : List Nat).getD i 0
def depsA (i : Nat) : List Nat := ([[], [], [0], [1]] : List (List Nat)).getD i []
def VA (i : Nat) (v : Value) (w : World) : Prop := VL kindsA i v w
theorem Rd.ext {w w' : World} {A : Option Addr} {n : Nat} {vs : List Value} (h : Rd w w.heap.size A n vs) (he : Ext w w') : Rd w' w'.heap.size A n vs := h.keep he.2 he.1
theorem RdC.ext {w w' : World} {ca : CA} {c : Cm} (h : RdC w w.heap.size ca c) (he : Ext w w') : RdC w' w'.heap.size ca c := ⟨h.rk.ext he, h.rv.ext he, h.ro.ext he⟩
theorem RdG.ext {w w' : World} {a : GA} {m : Mg} (h : RdG w w.heap.size a m) (he : Ext w w') : RdG w' w'.heap.size a m := ⟨h.d.ext he, h.h.ext he, h.n.ext he, h.c.ext he, h.hl, h.nl⟩
theorem KindG.ext (k : KindG) {v : Value} {w w' : World} (h : k.V v w) (he : Ext w w') : k.V v w' := by
  cases k with
  | sl l => obtain ⟨A, c, h1, h2⟩ := h; exact ⟨A, c, h1, h2.ext he⟩
  | isl l => obtain ⟨A, c, h1, h2, h3⟩ := h; exact ⟨A, c, h1, h2.ext he, h3⟩
  | num z => exact h
  | cm c => obtain ⟨a, h1, h2⟩ := h; exact ⟨a, h1, h2.ext he⟩
  | en e => obtain ⟨a, h1, h2⟩ := h; exact ⟨a, h1, h2.ext he⟩
  | mg m => obtain ⟨a, h1, h2⟩ := h; exact ⟨a, h1, h2.ext he⟩
  | row r => obtain ⟨a, h1, h2⟩ := h; exact ⟨a, h1, h2.ext he⟩
  | big =>
    obtain ⟨b, h1, hlt, h2⟩ := h
    refine ⟨b, h1, Nat.lt_of_lt_of_le hlt he.1, fun j r hr => ?_⟩
    obtain ⟨a, g1, g2⟩ := h2 j r hr
    exact ⟨a, fun t u hu => (he.2 _ hlt).trans (g1 t u hu), g2.ext he⟩
theorem VL.ext (ks : List KindG) (i : Nat) (v : Value) (w w' : World) (h : VL ks i v w) (he : Ext w w') : VL ks i v w' := by
  unfold VL at h ⊢
  cases hk : ks[i]? with
  | none => trivial
  | some k => rw [hk] at h; exact k.ext h he
theorem VG.ext (i : Nat) (v : Value) (w w' : World) (h : VG i v w) (he : Ext w w') : VG i v w' := VL.ext _ i v w w' h he
theorem VA.ext (i : Nat) (v : Value) (w w' : World) (h : VA i v w) (he : Ext w w') : VA i v w' := VL.ext _ i v w w' h he
theorem ev_tmp {a : Act} {t : Nat} {v : Value} (h : a.eval (.tmp t) = v) : a.tmps[t]?.getD undef = v := by rw [← h]; simp [Act.eval]
theorem makeB_run (w : World) (n : Nat) (hn : n ≤ 1000) : (Instr.makeSlice 23 (.int .i64 (n : Int)) (.int .i64 (n : Int))).run Try.prog w = .ok (.slice (some ⟨w.heap.size, 0, none⟩) n n) (w.alloc (.cells (madeCells #[.int .u8 0] (n * 1)) 5)) := by
  obtain ⟨i, hi, hz, hsz, hby⟩ := info_parts byteT.info
  have hr := run_make (P := Try.prog) w 23 5 i (.int .u8 0) Try.underlying23 hi hz .i64 .i64 n n (by omega) (Int.le_refl _) (by rw [hby]; omega) (by omega)
  simp only [Int.toNat_natCast, hsz] at hr
  exact hr
theorem makeI_run (w : World) (n : Nat) (hn : n ≤ 1000) : (Instr.makeSlice 22 (.int .i64 (n : Int)) (.int .i64 (n : Int))).run Try.prog w = .ok (.slice (some ⟨w.heap.size, 0, none⟩) n n) (w.alloc (.cells (madeCells #[.int .i64 0] (n * 1)) 3)) := by
  obtain ⟨i, hi, hz, hsz, hby⟩ := info_parts cellI.info
  have hr := run_make (P := Try.prog) w 22 3 i (.int .i64 0) Try.underlying22 hi hz .i64 .i64 n n (by omega) (Int.le_refl _) (by rw [hby]; omega) (by omega)
  simp only [Int.toNat_natCast, hsz] at hr
  exact hr
theorem rd_zerosB (w : World) (n : Nat) : Rd (w.alloc (.cells (madeCells #[.int .u8 0] (n * 1)) 5)) (w.alloc (.cells (madeCells #[.int .u8 0] (n * 1)) 5)).heap.size (some ⟨w.heap.size, 0, none⟩) (List.replicate n 0).length (bv (List.replicate n 0)) := by
  have h := Rd.made w (madeCells (Value.int .u8 0).cells (n * 1)) 5 (0, 0) n (by simp [madeCells])
  rw [made_zeros] at h
  rw [List.length_replicate]
  exact h.fit
theorem made_zerosI (n : Nat) : (madeCells (Value.int .i64 0).cells (n * 1)).toList = iv (List.replicate n 0) := by
  apply List.ext_getElem?
  intro i
  rw [Nat.mul_one]
  rcases Nat.lt_or_ge i n with h | h
  · simp [madeCells, Value.cells, iv, h, Nat.mod_one]
  · simp [madeCells, iv, h]
theorem rd_zerosI (w : World) (n : Nat) : Rd (w.alloc (.cells (madeCells #[.int .i64 0] (n * 1)) 3)) (w.alloc (.cells (madeCells #[.int .i64 0] (n * 1)) 3)).heap.size (some ⟨w.heap.size, 0, none⟩) (List.replicate n (0 : Int)).length (iv (List.replicate n 0)) := by
  have h := Rd.made w (madeCells (Value.int .i64 0).cells (n * 1)) 3 (0, 0) n (by simp [madeCells])
  rw [made_zerosI] at h
  rw [List.length_replicate]
  exact h.fit
theorem chunk {A C : Array Value} {o k : Nat} (h : (C.toList.drop o).take k = A.toList) : ∀ j u, A[j]? = some u → C[o + j]? = some u := fun j u hu => by
  have h1 : A.toList[j]? = some u := by simpa using hu
  rw [← h] at h1
  have hj : j < k := by
    have := (List.getElem?_eq_some_iff.1 h1).1
    simp at this; omega
  rw [List.getElem?_take, if_pos hj, List.getElem?_drop] at h1
  simpa using h1
theorem tab_rowG {w : World} {a : GA} {r : RowG} {C : Array Value} {j b : Nat} {t : TypeId} (hb : w.heap.size = b) (hC : ∀ k u, (rowCG a r)[k]? = some u → C[j * 25 + k]? = some u) (h : RdG w w.heap.size a r.m) :
    ∃ a, (∀ k u, (rowCG a r)[k]? = some u → (w.alloc (.cells C t)).cell? ⟨b, j * 25 + k, none⟩ = some u) ∧ RdG (w.alloc (.cells C t)) (w.alloc (.cells C t)).heap.size a r.m := by
  subst hb
  exact ⟨a, fun k u hu => by rw [World.cell?_alloc_mark]; exact hC k u hu, h.ext (Ext.of_below ((Below.refl _ _).alloc (Nat.le_refl _) _))⟩
theorem deps_of {md : Region.Mode} {ops : Array Oper} {deps : Nat → List Nat} (h : ((List.range ops.size).all fun i => (deps i).all fun j => Region.waitsFor md ops i j) = true) : ∀ i, i < ops.size → ∀ j ∈ deps i, Region.waitsFor md ops i j = true :=
  fun i hi j hj => List.all_eq_true.1 (List.all_eq_true.1 h i (List.mem_range.2 hi)) j hj
end Go.Proofs.Ytijcbbommaeejaa

namespace Go.Proofs.Ytijcbbommaeejaa
open Go.RowKit
set_option linter.unusedVariables false
def slotsG : List Nat := [14, 16, 18, 20, 23, 25, 27, 31, 33, 37, 41, 43, 46, 48, 50, 53, 57, 60, 63, 65, 69, 72, 75, 78, 82, 85, 90, 93, 98, 101]
def rowDepG : List Nat := [1, 3, 5, 7, 10, 12, 14, 18, 20, 24, 28, 30, 33, 35, 37, 40, 44, 47, 50, 52, 56, 59, 62, 65, 69, 72, 77, 80, 85, 88]
def partsG : Array (Nat × Operand) := #[(0, .tmp 14), (1, .tmp 16), (2, .tmp 18), (3, .tmp 20), (4, .tmp 23), (5, .tmp 25), (6, .tmp 27), (7, .tmp 31), (8, .tmp 33), (9, .tmp 37), (10, .tmp 41), (11, .tmp 43), (12, .tmp 46), (13, .tmp 48), (14, .tmp 50), (15, .tmp 53), (16, .tmp 57), (17, .tmp 60), (18, .tmp 63), (19, .tmp 65), (20, .tmp 69), (21, .tmp 72), (22, .tmp 75), (23, .tmp 78), (24, .tmp 82), (25, .tmp 85), (26, .tmp 90), (27, .tmp 93), (28, .tmp 98), (29, .tmp 101)]
theorem partsG_list : partsG.toList = (slotsG.zipIdx 0).map fun x => (x.2, Operand.tmp x.1) := rfl
theorem partsG_eval (a : Act) : (partsG.map fun (i, x) => (i, a.eval x)).toList = ((slotsG.map fun s => a.eval (.tmp s)).zipIdx 0).map fun x => (x.2, x.1) := by
  rw [Array.toList_map, partsG_list, List.zipIdx_map, List.map_map, List.map_map]
  rfl
theorem rowDep_kinds : (List.range 30).map (fun j => kindsG[rowDepG.getD j 0]?) = (List.range 30).map (fun j => (rowsG[j]?).map KindG.row) := by kernel_rfl
theorem rowDep_kind {j : Nat} (hj : j < 30) : kindsG[rowDepG.getD j 0]? = (rowsG[j]?).map KindG.row := by
  have h := congrArg (fun l => l[j]?) rowDep_kinds
  simpa only [List.getElem?_map, List.getElem?_range hj, Option.map_some, Option.some.injEq] using h
theorem rowDep_deps {j : Nat} (hj : j < 30) : rowDepG.getD j 0 ∈ depsG 89 ∧ dstG (rowDepG.getD j 0) = slotsG.getD j 0 := by
  have h1 : ((List.range 30).all fun j => (depsG 89).contains (rowDepG.getD j 0) && (dstG (rowDepG.getD j 0) == slotsG.getD j 0)) = true := by kernel_rfl
  have h2 := List.all_eq_true.1 h1 j (List.mem_range.2 hj)
  rw [Bool.and_eq_true, List.contains_iff_mem, beq_iff_eq] at h2
  exact h2
theorem rowsG_lt {j : Nat} {r : RowG} (h : rowsG[j]? = some r) : j < 30 := by
  have h1 := (List.getElem?_eq_some_iff.1 h).1
  rwa [rowsG_length] at h1
theorem step_big {Q : Exit → Act → World → Prop} {w0 : World} {Fr : Act → Prop} (o : Oper) (ho : o.op = .buildSlice 31 30 partsG) : OpOKF Try.prog Q w0 VG dstG depsG Fr 89 o := by
  intro a w1 hF hB hdep K hK
  have hv : ∀ (j : Nat) (r : RowG), rowsG[j]? = some r → ∃ ga, a.eval (.tmp (slotsG.getD j 0)) = .agg (rowCG ga r) ∧ RdG w1 w1.heap.size ga r.m := by
    intro j r hr
    have hj := rowsG_lt hr
    obtain ⟨h1, h2⟩ := rowDep_deps hj
    have h3 := hdep _ h1
    rw [h2] at h3
    unfold VG VL at h3
    rw [rowDep_kind hj, hr] at h3
    exact h3
  obtain ⟨vs, hvs⟩ : ∃ vs, (slotsG.map fun s => a.eval (.tmp s)) = vs := ⟨_, rfl⟩
  have hlen : vs.length = 30 := by rw [← hvs, List.length_map]; rfl
  have hget : ∀ (j : Nat) (r : RowG), rowsG[j]? = some r → ∃ ga, vs[j]? = some (Value.agg (rowCG ga r)) ∧ RdG w1 w1.heap.size ga r.m := by
    intro j r hr
    have hj := rowsG_lt hr
    obtain ⟨ga, e1, h2⟩ := hv j r hr
    refine ⟨ga, ?_, h2⟩
    have hs : slotsG[j]? = some (slotsG.getD j 0) := by
      have : j < slotsG.length := hj
      simp [List.getD, List.getElem?_eq_getElem this]
    rw [← hvs, List.getElem?_map, hs, Option.map_some, e1]
  have hsz : ∀ v ∈ vs, v.cells.size = 25 := by
    intro v hm
    obtain ⟨j, hj⟩ := List.mem_iff_getElem?.1 hm
    have hj30 : j < rowsG.length := by
      have := (List.getElem?_eq_some_iff.1 hj).1
      rw [rowsG_length]; omega
    obtain ⟨ga, e1, _⟩ := hget j _ (List.getElem?_eq_getElem hj30)
    rw [hj] at e1
    injection e1 with e1
    subst e1
    rfl
  obtain ⟨ie, z, g1, g2, g3⟩ : ∃ ie z, (Try.prog).info? 30 = some ie ∧ ie.zero = some z ∧ ie.size = 25 := ⟨_, _, rfl, rfl, by kernel_rfl⟩
  obtain ⟨r, hr, hrs, hk⟩ := Great.fill_dense (s := 25) (by omega) vs 0 ((Array.range (30 * 25)).map (z.cells[· % z.cells.size]!)) hsz (by rw [hlen]; simp)
  refine wp_buildSlice 31 30 30 partsG ho r ie z Try.underlying31 g1 g2 (by rw [g3]; decide) (by rw [g3]; decide) (by rw [g3, partsG_eval, hvs]; exact hr) ?_
  refine hK.out _ _ (Ext.of_below ((Below.refl _ _).alloc (Nat.le_refl _) _)) (hB.alloc hB.size _) ?_
  show KindG.V .big _ _
  refine ⟨w1.heap.size, rfl, by simp, fun j q hq => ?_⟩
  have hj := rowsG_lt hq
  obtain ⟨ga, e1, h2⟩ := hget j q hq
  refine tab_rowG rfl (fun k u hu => ?_) h2
  have hk25 : k < 25 := (Array.getElem?_eq_some_iff.1 hu).1
  rw [hk (j * 25 + k), hlen, if_pos (by omega), show (j * 25 + k) / 25 - 0 = j by omega, show (j * 25 + k) % 25 = k by omega, e1]
  exact hu
end Go.Proofs.Ytijcbbommaeejaa

