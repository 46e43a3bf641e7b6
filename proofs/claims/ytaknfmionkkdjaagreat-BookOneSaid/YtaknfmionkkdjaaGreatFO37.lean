/- BlobKit2 BookSlots -/
import Derived.Test.YtaknfmionkkdjaaGreatFO01
import Derived.Test.YtaknfmionkkdjaaGreatFO03
import Derived.Test.YtaknfmionkkdjaaGreatFO15
import Derived.Test.YtaknfmionkkdjaaGreatFO20
import Derived.Test.YtaknfmionkkdjaaGreatFO28
import Derived.Test.YtaknfmionkkdjaaGreatFO29
import Derived.Test.YtaknfmionkkdjaaGreatFO35
import Derived.Test.YtaknfmionkkdjaaGreatFO36
import Derived.Deep.MidRow
namespace Go.Proofs.YtaknfmionkkdjaaGreat
open Go.RowKit
set_option linter.unusedVariables false
theorem OwnQ.grownE {W w w' : World} {A A' : Option Addr} {n c base' size' n' c' : Nat} {xs' : List Value} {qs : List (List Nat)} (h : OwnQ W w A n c qs) (ho : w.ownsRow base' 40 size' (.slice A' n' c') n' xs') (hg : w.grownBy w' (Value.slice A' n' c').ownBlock) : OwnQ W w' A n c qs := by
  obtain ⟨vs, h1, h2⟩ := h
  exact ⟨vs, own_grown_t h1 ho (by decide) hg, ⟨h2.1, fun i l hl => by obtain ⟨A2, c2, e, h3⟩ := h2.2 i l hl; exact ⟨A2, c2, e, own_grown_t h3 ho (by decide) hg⟩⟩⟩
theorem OwnP.grownE {W w w' : World} {A A' : Option Addr} {n c base' size' n' c' : Nat} {xs' : List Value} {qs : List Pr} (h : OwnP W w A n c qs) (ho : w.ownsRow base' 40 size' (.slice A' n' c') n' xs') (hg : w.grownBy w' (Value.slice A' n' c').ownBlock) : OwnP W w' A n c qs := by
  obtain ⟨vs, h1, h2⟩ := h
  exact ⟨vs, own_grown_t h1 ho (by decide) hg, ⟨h2.1, fun i l hl => by obtain ⟨A2, c2, e, h3⟩ := h2.2 i l hl; exact ⟨A2, c2, e, own_grown_t h3 ho (by decide) hg⟩⟩⟩
theorem OwnM.grownE {W w w' : World} {A' : Option Addr} {a : MA} {m : Mc} {base' size' n' c' : Nat} {xs' : List Value} (h : OwnM W w a m) (ho : w.ownsRow base' 40 size' (.slice A' n' c') n' xs') (hg : w.grownBy w' (Value.slice A' n' c').ownBlock) : OwnM W w' a m := by
  refine ⟨⟨own_grown_t h.o.o0 ho (by decide) hg, h.o.o1.grownE ho hg, own_grown_t h.o.o2 ho (by decide) hg, h.o.o3.grownE ho hg⟩, ?_⟩
  obtain ⟨vs, h1, h2⟩ := h.t
  exact ⟨vs, own_grown_t h1 ho (by decide) hg, h2.imp fun _ _ _ h => own_grown_t h ho (by decide) hg⟩
section
variable {P : Program} {t e : TypeId} {z : Value} {bytes size : Nat} {w : World}
theorem wp_append_atE (base : Nat) (hb0 : base ≤ w.heap.size) (hT : CellS P t e z size bytes) {o : Oper} {a : Act} {next : Act → World → Prop} {Q : Exit → Act → World → Prop} (s x : Operand)
    (ho : o.op = .call { callee := .builtin .append, args := #[s, x], argTypes := #[t, t] })
    {A : Option Addr} {n c : Nat} {vs : List Value} (hs : a.eval s = .slice A n c) (hown : w.ownsRow base e size (.slice A n c) n vs)
    {B : Nat} {A' : Option Addr} {m c' : Nat} {ws : List Value} (hx : a.eval x = .slice A' m c') (hr : Rd w B A' (m * size) ws) (h1 : ∀ u ∈ ws, u.oneCell' = true) (hnm : n + m ≤ 1073741824) (hby : bytes ≤ 1000)
    (h : ∀ A2 c2 w2, w2.ownsRow base e size (.slice A2 (n + m) c2) (n + m) (vs ++ ws) → w.grownBy w2 (Value.slice A n c).ownBlock → next (a.put o.dst (.slice A2 (n + m) c2)) w2) : o.wp P a w next Q := by
  obtain ⟨i, hi, hz, hsz, hbi⟩ := info_parts hT.info
  obtain ⟨v', w', hrun, h2, h3, h4⟩ := run_append_rdS (P := P) w base t o.type e i z size bytes hT.under hi hz hsz hbi hT.one hT.pos _ n vs hown B A' m c' ws hr h1
    (by unfold maxLen; omega) (by have := Nat.mul_le_mul hnm hby; omega) hb0
  obtain ⟨A2, c2, rfl, hr2⟩ := Rd.of_ownS h2 hT.pos
  have hgo := h A2 c2 w' h2 h3
  unfold Oper.wp execOp
  simp only [ho, resolve, invoke, builtin, Sem.run_bind, Sem.run_pure, Result.andThen_ok, List.map_toArray, List.map_cons, List.map_nil, hs, hx, hrun]
  exact hgo
theorem wpList_append_atE (base : Nat) (hb0 : base ≤ w.heap.size) (hT : CellS P t e z size bytes) {ops : Array Oper} {rest : List Oper} {o : Oper} {a : Act} {Q : Exit → Act → World → Prop} (s x : Operand)
    (ho : o.op = .call { callee := .builtin .append, args := #[s, x], argTypes := #[t, t] }) (hw : Region.wanted o (yielded ops a.tmps) = true)
    {A : Option Addr} {n c : Nat} {vs : List Value} (hs : a.eval s = .slice A n c) (hown : w.ownsRow base e size (.slice A n c) n vs)
    {B : Nat} {A' : Option Addr} {m c' : Nat} {ws : List Value} (hx : a.eval x = .slice A' m c') (hr : Rd w B A' (m * size) ws) (h1 : ∀ u ∈ ws, u.oneCell' = true) (hnm : n + m ≤ 1073741824) (hby : bytes ≤ 1000)
    (h : ∀ A2 c2 w2, w2.ownsRow base e size (.slice A2 (n + m) c2) (n + m) (vs ++ ws) → w.grownBy w2 (Value.slice A n c).ownBlock → wpList P ops Q rest (a.put o.dst (.slice A2 (n + m) c2)) w2) :
    wpList P ops Q (o :: rest) a w := by
  unfold wpList
  rw [if_pos hw]
  exact .inl (wp_append_atE base hb0 hT s x ho hs hown hx hr h1 hnm hby h)
end
/-- an own row of entries grows by one -/
theorem OwnEs.snoc {W w w' : World} {A A2 : Option Addr} {n c c2 : Nat} {vs : List Value} {es : List En} {a : CA} {e : En} (ho : w.ownsRow W.heap.size 40 7 (.slice A n c) n vs) (hc : CellsE (fun a k => OwnC W w a k) vs es) (hr : OwnC W w a e.c)
    (hg : w.grownBy w' (Value.slice A n c).ownBlock) (ho2 : w'.ownsRow W.heap.size 40 7 (.slice A2 (n + 1) c2) (n + 1) (vs ++ entL a e)) : OwnEs W w' A2 (n + 1) c2 (es ++ [e]) := by
  have hk : ∀ {a : CA} {k : Cm}, OwnC W w a k → OwnC W w' a k := fun h => ⟨own_grown_t h.k ho (by decide) hg, own_grown_t h.v ho (by decide) hg, own_grown_t h.o ho (by decide) hg⟩
  exact ⟨vs ++ entL a e, ho2, (hc.imp fun _ _ h => hk h).append (CellsE.one (R := fun a k => OwnC W w' a k) (hk hr))⟩
end Go.Proofs.YtaknfmionkkdjaaGreat

namespace Go.Proofs.YtaknfmionkkdjaaGreat
open Go.RowKit
set_option linter.unusedVariables false
abbrev VE := CA × En
/-- a slot's eight cells -/
def slotL : Option VE → List Value
  | none => [.int .i64 0, .int .i64 0, .int .i64 0, .int .i64 0, .slice none 0 0, .slice none 0 0, .slice none 0 0, .bool false]
  | some v => [.int .i64 v.2.s, .int .i64 v.2.q, .int .i64 v.2.c.kind, .int .i64 v.2.c.who, .slice v.1.Ak v.2.c.key.length v.1.ck, .slice v.1.Av v.2.c.val.length v.1.cv, .slice v.1.Ao v.2.c.old.length v.1.co, .bool true]
theorem slotL_length (o : Option VE) : (slotL o).length = 8 := by cases o <;> rfl
theorem slotL_one (o : Option VE) : ∀ u ∈ slotL o, u.oneCell' = true := by
  intro u hu
  cases o with
  | none => simp [slotL] at hu; rcases hu with rfl | rfl | rfl <;> rfl
  | some v => simp [slotL] at hu; rcases hu with rfl | rfl | rfl | rfl | rfl | rfl | rfl | rfl <;> rfl
def cellsE (ss : List (Option VE)) : List Value := ss.flatMap slotL
theorem cellsE_cons (o : Option VE) (r : List (Option VE)) : cellsE (o :: r) = slotL o ++ cellsE r := rfl
theorem cellsE_length (ss : List (Option VE)) : (cellsE ss).length = ss.length * 8 := by
  induction ss with
  | nil => rfl
  | cons s r ih => rw [cellsE_cons, List.length_append, slotL_length, ih, List.length_cons]; omega
theorem cellsE_append (ss tt : List (Option VE)) : cellsE (ss ++ tt) = cellsE ss ++ cellsE tt := by simp [cellsE]
theorem cellsE_drop (ss : List (Option VE)) (k : Nat) : (cellsE ss).drop (k * 8) = cellsE (ss.drop k) := by
  induction k generalizing ss with
  | zero => simp
  | succ k ih =>
    cases ss with
    | nil => simp [cellsE]
    | cons s r =>
      rw [cellsE_cons, List.drop_succ_cons, ← ih, List.drop_append, slotL_length, List.drop_of_length_le (by rw [slotL_length]; omega), List.nil_append]
      congr 1
      omega
theorem cellsE_at {ss : List (Option VE)} {k q : Nat} {o : Option VE} {v : Value} (h : ss[k]? = some o) (hv : (slotL o)[q]? = some v) : (cellsE ss)[k * 8 + q]? = some v := by
  induction ss generalizing k with
  | nil => simp at h
  | cons s r ih =>
    cases k with
    | zero =>
      simp at h; subst h
      rw [Nat.zero_mul, Nat.zero_add, cellsE_cons, List.getElem?_append_left (List.getElem?_eq_some_iff.1 hv).1]
      exact hv
    | succ k =>
      rw [cellsE_cons, List.getElem?_append_right (by rw [slotL_length]; omega), slotL_length, show (k + 1) * 8 + q - 8 = k * 8 + q by omega]
      exact ih (by simpa using h)
/-- cells set one behind the other -/
def setL (xs : List Value) (i : Nat) : List Value → List Value
  | [] => xs
  | v :: r => setL (xs.set i v) (i + 1) r
theorem setL_get (xs : List Value) (i : Nat) (vs : List Value) (h : i + vs.length ≤ xs.length) (j : Nat) : (setL xs i vs)[j]? = if i ≤ j ∧ j < i + vs.length then vs[j - i]? else xs[j]? := by
  induction vs generalizing xs i with
  | nil => simp [setL]; intro h1 h2; omega
  | cons v r ih =>
    simp only [List.length_cons] at h ⊢
    rw [setL, ih (xs.set i v) (i + 1) (by rw [List.length_set]; omega)]
    by_cases h1 : j = i
    · subst h1
      rw [if_neg (by omega), if_pos (by omega), List.getElem?_set_self (by omega)]
      simp
    · by_cases h2 : i + 1 ≤ j ∧ j < i + 1 + r.length
      · rw [if_pos h2, if_pos (by omega)]
        rw [show j - i = (j - (i + 1)) + 1 by omega]; rfl
      · rw [if_neg h2, if_neg (by omega), List.getElem?_set_ne (by omega)]
theorem cellsE_set (ss : List (Option VE)) (k : Nat) (o : Option VE) (hk : k < ss.length) : setL (cellsE ss) (k * 8) (slotL o) = cellsE (ss.set k o) := by
  apply List.ext_getElem?
  intro j
  rw [setL_get _ _ _ (by rw [cellsE_length, slotL_length]; omega), slotL_length]
  by_cases hj : j < ss.length * 8
  · have hj8 : j = j / 8 * 8 + j % 8 := by omega
    have hq : j / 8 < ss.length := by omega
    obtain ⟨o', ho'⟩ : ∃ o', (ss.set k o)[j / 8]? = some o' := ⟨_, List.getElem?_eq_getElem (by rw [List.length_set]; exact hq)⟩
    obtain ⟨v, hv⟩ : ∃ v, (slotL o')[j % 8]? = some v := ⟨_, List.getElem?_eq_getElem (by rw [slotL_length]; omega)⟩
    have hr : (cellsE (ss.set k o))[j]? = some v := by rw [hj8]; exact cellsE_at ho' hv
    rw [hr]
    by_cases hc : k * 8 ≤ j ∧ j < k * 8 + 8
    · rw [if_pos hc]
      have e : j / 8 = k := by omega
      rw [e, List.getElem?_set_self (by omega)] at ho'
      injection ho' with ho'
      subst ho'
      rw [show j - k * 8 = j % 8 by omega, hv]
    · rw [if_neg hc]
      have e : k ≠ j / 8 := by omega
      rw [List.getElem?_set_ne e] at ho'
      rw [hj8]
      exact cellsE_at ho' hv
  · rw [if_neg (by omega), List.getElem?_eq_none (by rw [cellsE_length]; omega), List.getElem?_eq_none (by rw [cellsE_length, List.length_set]; omega)]
theorem grown_setCells (g : Nat) : ∀ (vs : List Value) (o : Nat) (w : World), w.grownBy (w.setCells g o vs) (some g)
  | [], o, w => World.grownBy.refl _ _
  | v :: r, o, w => by
    rw [World.setCells]
    have h1 := grown_set w g o v
    have h2 := grown_setCells g r (o + 1) (w.setCell ⟨g, o, none⟩ v)
    exact ⟨h2.os.trans h1.os, h2.tape.trans h1.tape, h2.output.trans h1.output, Nat.le_trans h1.size h2.size, fun k hk hn => (h2.block k (Nat.lt_of_lt_of_le hk h1.size) hn).trans (h1.block k hk hn)⟩
theorem OffRow.setCells {base size n c g o : Nat} {e : TypeId} : ∀ (vs : List Value) (i : Nat) (w : World) (xs : List Value), OffRow w base e size (some ⟨g, o, none⟩) n c xs → i + vs.length ≤ n * size → OffRow (w.setCells g (o + i) vs) base e size (some ⟨g, o, none⟩) n c (setL xs i vs)
  | [], i, w, xs, h, _ => h
  | v :: r, i, w, xs, h, hi => by
    rw [World.setCells]
    simp only [List.length_cons] at hi
    exact OffRow.setCells r (i + 1) _ _ (h.set (i := i) (by omega) v) (by omega)
/-- numbers far below the end of the integers -/
def FitB (n : Nat) : Prop := n ≤ 2000000000000
theorem FitB.out {n : Nat} (h : FitB n) : n ≤ 2000000000000 := h
theorem slotT : (Tryz.prog.info? 102).map (fun i => (i.zero, i.size, i.bytes)) = some (some (.agg #[.int .i64 0, .int .i64 0, .int .i64 0, .int .i64 0, .slice none 0 0, .slice none 0 0, .slice none 0 0, .bool false]), 8, 112) := by kernel_rfl
/-- a window of entries in memory -/
structure WinE (w : World) (b fr wh : Nat) (A : Option Addr) (n c : Nat) (ss : List (Option VE)) : Prop where
  blk : Blk w b 99 #[.int .i64 (fr : Int), .int .i64 (wh : Int), .slice A n c]
  row : OffRow w 0 102 8 A n c (cellsE ss)
  fit : FitB (fr + n)
  ent : ∀ a e, some (a, e) ∈ ss → RdC9 w a e.c
/-- its blocks -/
def winS (b : Nat) (A : Option Addr) : Nat → Prop := fun q => q = b ∨ ∃ g o, A = some ⟨g, o, none⟩ ∧ q = g
/-- the types of a book's blocks -/
abbrev TB : List TypeId := [80, 99, 102]
/-- from w to w' only blocks of S were turned; those of S' are of S, or new -/
structure Adv (S : Nat → Prop) (w : World) (S' : Nat → Prop) (w' : World) : Prop where
  keeps : Keeps S w w'
  grow : ∀ q, S' q → S q ∨ w.heap.size ≤ q
section
variable {S S' S'' : Nat → Prop} {w w' w'' : World}
theorem Adv.refl (S : Nat → Prop) (w : World) : Adv S w S w := ⟨Keeps.refl _ _, fun _ h => .inl h⟩
theorem Adv.of_below (S : Nat → Prop) (h : Below w.heap.size w w') : Adv S w S w' := ⟨Keeps.of_below h, fun _ h => .inl h⟩
theorem Adv.trans (h : Adv S w S' w') (h' : Adv S' w' S'' w'') : Adv S w S'' w'' :=
  ⟨h.keeps.trans h'.keeps (fun q hq hlt => (h.grow q hq).resolve_right (by omega)), fun q hq => by
    rcases h'.grow q hq with h1 | h1
    · exact h.grow q h1
    · exact .inr (Nat.le_trans h.keeps.size h1)⟩
theorem Adv.below (h : Adv S w S' w') {W : World} (hB : Below W.heap.size W w) (hs : ∀ k, S k → W.heap.size ≤ k) : Below W.heap.size W w' := h.keeps.below hB hs
end
section
variable {w w' : World} {b fr wh n c : Nat} {A : Option Addr} {ss : List (Option VE)}
theorem WinE.len (h : WinE w b fr wh A n c ss) : ss.length = n := by
  have := h.row.len
  rw [cellsE_length] at this
  omega
theorem WinE.below (h : WinE w b fr wh A n c ss) (hb : Below w.heap.size w w') : WinE w' b fr wh A n c ss :=
  ⟨h.blk.below hb, h.row.below hb, h.fit, fun a e he => (h.ent a e he).below hb⟩
theorem WinE.drewN (h : WinE w b fr wh A n c ss) (k : Nat) : WinE (w.drewN k) b fr wh A n c ss := h.below (below_drewN (Below.refl _ _) k)
theorem WinE.of (h : WinE w b fr wh A n c ss) : Of (winS b A) TB w := by
  rintro q (rfl | ⟨g, o, rfl, rfl⟩) hq
  · exact ⟨_, _, _, h.blk, by simp⟩
  · obtain ⟨cur, hb⟩ := h.row.blkAt
    exact ⟨_, _, _, hb, by simp⟩
/-- what turns other blocks -/
theorem WinE.keeps {S : Nat → Prop} {T : List TypeId} (h : WinE w b fr wh A n c ss) (hk : Keeps S w w') (ho : Of S T w) (ht : 5 ∉ T) (hn : ∀ q, winS b A q → ¬ S q) : WinE w' b fr wh A n c ss := by
  refine ⟨h.blk.keeps hk (hn _ (.inl rfl)), ⟨h.row.len, h.row.le, h.row.max, h.row.blk.imp id ?_⟩, h.fit, fun a e he => (h.ent a e he).keeps hk ho ht⟩
  rintro ⟨g, o, cur, rfl, e2, e3, e4⟩
  exact ⟨g, o, cur, rfl, e2, e3.keeps hk (hn _ (.inr ⟨g, o, rfl, rfl⟩)), e4⟩
end
section
variable {S : Nat → Prop} {T : List TypeId} {W w w' : World}
theorem Owns.keeps {vs : List Value} {qs : List (List Nat)} (h : Owns W w vs qs) (hk : Keeps S w w') (ho : Of S T w) (h1 : 5 ∉ T) : Owns W w' vs qs :=
  ⟨h.len, fun i l hl => by obtain ⟨A, c, e, hq⟩ := h.cell i l hl; exact ⟨A, c, e, ownsRow_keeps hq hk ho h1⟩⟩
theorem OwnM.keeps {a : MA} {m : Mc} (h : OwnM W w a m) (hk : Keeps S w w') (ho : Of S T w) (h1 : 5 ∉ T) (h2 : 26 ∉ T) (h3 : 3 ∉ T) (h4 : 55 ∉ T) (h5 : 57 ∉ T) : OwnM W w' a m := by
  refine ⟨⟨ownsRow_keeps h.o.o0 hk ho h1, ?_, ownsRow_keeps h.o.o2 hk ho h3, ?_⟩, ?_⟩
  · obtain ⟨vs, q1, q2⟩ := h.o.o1; exact ⟨vs, ownsRow_keeps q1 hk ho h2, q2.keeps hk ho h1⟩
  · obtain ⟨vs, q1, q2⟩ := h.o.o3; exact ⟨vs, ownsRow_keeps q1 hk ho h4, q2.keeps hk ho h1⟩
  · obtain ⟨vs, q1, q2⟩ := h.t; exact ⟨vs, ownsRow_keeps q1 hk ho h5, q2.imp fun _ _ _ q => ownsRow_keeps q hk ho h1⟩
end
end Go.Proofs.YtaknfmionkkdjaaGreat

