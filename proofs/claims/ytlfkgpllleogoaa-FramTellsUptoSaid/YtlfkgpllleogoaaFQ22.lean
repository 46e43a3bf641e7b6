/- MesgSt MesgRow ChainKit CrcRef MsgBulk -/
import Derived.Test.YtlfkgpllleogoaaFQ11
import Derived.Test.YtlfkgpllleogoaaFQ14
import Derived.Test.YtlfkgpllleogoaaFQ21
import Derived.Laws.CopyOwn
import Derived.Test.YtlfkgpllleogoaaRows
namespace Go.Proofs.Ytlfkgpllleogoaa
open Go.RowKit
set_option linter.unusedVariables false
/-- a writer along the way: the variables g, g + 1; all within bounds so far (ok), laid X -/
structure WaSt (W wx : World) (b g : Nat) (cs : Array Value) (ok : Bool) (X : List Nat) (d : Nat) : Prop where
  ex : ∃ L f, WrAt W wx b L f ∧ f = !ok ∧ (ok = true → L = X) ∧ L.length ≤ d
  blk : Blk wx g 29 cs
  res : Blk wx (g + 1) 29 msgZ
  hb : b < g
  hg : W.heap.size ≤ g
section
variable {W wx wy : World} {b g d i : Nat} {cs : Array Value} {ok : Bool} {X : List Nat} {u : Value}
theorem WaSt.bel (h : WaSt W wx b g cs ok X d) : Below W.heap.size W wx := by
  obtain ⟨L, f, ⟨_, _, _, _, q, _⟩, _⟩ := h.ex
  exact q
theorem WaSt.step {L : List Nat} {f : Bool} {ok' : Bool} {Y : List Nat} {d' : Nat} (hb : b < g) (hg : W.heap.size ≤ g) (h1 : f = !ok) (h2 : ok = true → L = X) (h3 : L.length ≤ d) (hk : Blk wx g 29 cs) (hr : Blk wx (g + 1) 29 msgZ) (h : WrP W wx b L f ok' Y d' wy) : WaSt W wy b g cs (ok && ok') (X ++ Y) (d + d') := by
  obtain ⟨L', f', k1, k2, k3, k4, k5⟩ := h
  refine ⟨⟨L', f', k1, ?_, fun hok => ?_, by omega⟩, hk.grown k2 (by simp; omega), hr.grown k2 (by simp; omega), hb, hg⟩
  · rw [k3, h1]; cases ok <;> cases ok' <;> rfl
  · rw [Bool.and_eq_true] at hok
    rw [k4 (by rw [k3, h1, hok.1, hok.2]; rfl), h2 hok.1]
theorem WaSt.put (h : WaSt W wx b g cs ok X d) (i : Nat) (u : Value) : WaSt W (wx.setCell ⟨g, i, none⟩ u) b g (cs.setIfInBounds i u) ok X d := by
  obtain ⟨L, f, k1, k2, k3, k4⟩ := h.ex
  exact ⟨⟨L, f, k1.set h.blk (by decide) (by have := h.hb; omega) h.hg, k2, k3, k4⟩, h.blk.set_ i u, h.res.set_other (by omega), h.hb, h.hg⟩
theorem WaSt.num (h : WaSt W wx b g cs ok X d) (hd : d ≤ 10000) (z most : Int) : Calls Try.prog 101 #[.pointer (some ⟨b, 0, none⟩), .int .i64 z, .int .i64 most] wx fun e w' => e = .returned (.int .i64 (if wi most z then z else 0)) ∧ WaSt W w' b g cs (ok && wi most z) (X ++ eI z) (d + 9) := by
  obtain ⟨L, f, k1, k2, k3, k4⟩ := h.ex
  exact (wnum_any k1 (by omega) z most).mono fun e w' ⟨q1, q2⟩ => ⟨q1, WaSt.step h.hb h.hg k2 k3 k4 h.blk h.res q2⟩
theorem WaSt.flag (h : WaSt W wx b g cs ok X d) (hd : d ≤ 10000) (x : Bool) : Calls Try.prog 67 #[.iface 62 (.pointer (some ⟨b, 0, none⟩)), .bool x] wx fun e w' => e = .returned (.bool x) ∧ WaSt W w' b g cs (ok && true) (X ++ eI (if x = true then 1 else 0)) (d + 9) := by
  obtain ⟨L, f, k1, k2, k3, k4⟩ := h.ex
  exact (wflag_any k1 (by omega) x).mono fun e w' ⟨q1, q2⟩ => ⟨q1, WaSt.step h.hb h.hg k2 k3 k4 h.blk h.res q2⟩
theorem WaSt.data {A' : Option Addr} {c' : Nat} {x : List Nat} (h : WaSt W wx b g cs ok X d) (hd : d ≤ 10000) (hr : Rd W W.heap.size A' x.length (bv x)) (most : Int) (hm : most ≤ 100) : Calls Try.prog 99 #[.pointer (some ⟨b, 0, none⟩), .slice A' x.length c', .int .i64 most] wx fun e w' => (∃ A n c, e = .returned (.slice A n c)) ∧ WaSt W w' b g cs (ok && decide ((x.length : Int) ≤ most)) (X ++ Pk.encB x) (d + 109) := by
  have hbel := h.bel
  obtain ⟨L, f, k1, k2, k3, k4⟩ := h.ex
  exact (wdata_any k1 (by omega) (hr.below hbel) most hm).mono fun e w' ⟨q1, q2⟩ => ⟨q1, WaSt.step h.hb h.hg k2 k3 k4 h.blk h.res q2⟩
theorem WaSt.nums {A' : Option Addr} {c' : Nat} {l : List Int} (h : WaSt W wx b g cs ok X d) (hd : d ≤ 10000) (hr : Rd W W.heap.size A' l.length (iv l)) (hc : l.length ≤ c' ∧ c' ≤ maxLen) (most : Nat) (hm : most ≤ 8) : Calls Try.prog 102 #[.pointer (some ⟨b, 0, none⟩), .slice A' l.length c', .int .i64 (most : Int)] wx fun e w' => (∃ A n c, e = .returned (.slice A n c)) ∧ WaSt W w' b g cs (ok && wis most l) (X ++ (encN l.length ++ Pk.encs l)) (d + 100) := by
  obtain ⟨L, f, k1, k2, k3, k4⟩ := h.ex
  exact (wnums_any k1 (by omega) hr hc most hm).mono fun e w' ⟨q1, q2⟩ => ⟨q1, WaSt.step h.hb h.hg k2 k3 k4 h.blk h.res q2⟩
theorem WaSt.entry {ca : CA} {e : En} (h : WaSt W wx b g cs ok X d) (hd : d ≤ 10000) (hc : e.c.Wide) (hr : RdC W W.heap.size ca e.c) : Calls Try.prog 100 #[.pointer (some ⟨b, 0, none⟩), entV ca e] wx fun en w' => (∃ ca' e', en = .returned (entV ca' e')) ∧ WaSt W w' b g cs (ok && e.ok) (X ++ e.enc) (d + 200) := by
  obtain ⟨L, f, k1, k2, k3, k4⟩ := h.ex
  exact (wentry_any k1 (by omega) hc hr).mono fun e w' ⟨q1, q2⟩ => ⟨q1, WaSt.step h.hb h.hg k2 k3 k4 h.blk h.res q2⟩
end
/-- a reader along the way -/
structure RaSt (w wx : World) (b g : Nat) (cs : Array Value) (s : Pk.St) : Prop where
  r : RgSt w wx b s
  blk : Blk wx g 29 cs
  res : Blk wx (g + 1) 29 msgZ
  hb : b < w.heap.size
  hg : w.heap.size ≤ g
section
variable {w wx wy : World} {b g i : Nat} {cs : Array Value} {s : Pk.St} {u : Value}
theorem RaSt.step {s' : Pk.St} (h : RaSt w wx b g cs s) (hr : RdrAt wy b s') (ho : Only b wx wy) : RaSt w wy b g cs s' :=
  ⟨h.r.call hr ho, h.blk.grown ho (by have := h.hb; have := h.hg; simp; omega), h.res.grown ho (by have := h.hb; have := h.hg; simp; omega), h.hb, h.hg⟩
theorem RaSt.put (h : RaSt w wx b g cs s) (i : Nat) (u : Value) : RaSt w (wx.setCell ⟨g, i, none⟩ u) b g (cs.setIfInBounds i u) s :=
  ⟨h.r.set h.blk (by decide) (by decide) h.hg, h.blk.set_ i u, h.res.set_other (by omega), h.hb, h.hg⟩
theorem RaSt.num (h : RaSt w wx b g cs s) (z most : Int) {v : Nat} {s' : Pk.St} (hv : Pk.numV s most = v) (hs : Pk.numS s most = s') : Calls Try.prog 111 #[.agg #[.pointer (some ⟨b, 0, none⟩)], .int .i64 z, .int .i64 most] wx fun e w' => e = .returned (.int .i64 (v : Int)) ∧ RaSt w w' b g cs s' ∧ Only b wx w' :=
  (rnum11_any wx b s z most h.r.r hv hs).mono fun e w' ⟨q1, q2, q3⟩ => ⟨q1, h.step q2 q3, q3⟩
theorem RaSt.flag (h : RaSt w wx b g cs s) (x : Bool) {v : Nat} {s' : Pk.St} (hv : Pk.numV s 1 = v) (hs : Pk.numS s 1 = s') : Calls Try.prog 67 #[.iface 72 (.agg #[.pointer (some ⟨b, 0, none⟩)]), .bool x] wx fun e w' => e = .returned (.bool (decide (v = 1))) ∧ RaSt w w' b g cs s' ∧ Only b wx w' :=
  (rflag_any wx b s x h.r.r hv hs).mono fun e w' ⟨q1, q2, q3⟩ => ⟨q1, h.step q2 q3, q3⟩
theorem RaSt.data (h : RaSt w wx b g cs s) (A0 : Option Addr) (n0 c0 : Nat) (most : Int) {v : List Nat} {s' : Pk.St} (hv : Pk.bytV s most = v) (hs : Pk.bytS s most = s') : Calls Try.prog 109 #[.agg #[.pointer (some ⟨b, 0, none⟩)], .slice A0 n0 c0, .int .i64 most] wx fun e w' => ∃ A c, e = .returned (.slice A v.length c) ∧ OwnB w w' A v.length c v ∧ RaSt w w' b g cs s' ∧ Only b wx w' :=
  (rdata11_any wx b s A0 n0 c0 most h.r.r hv hs).mono fun e w' ⟨A, c, q1, q2, q3, q4⟩ => ⟨A, c, q1, own_of h.r.size q2, h.step q3 q4, q4⟩
theorem RaSt.nums (h : RaSt w wx b g cs s) (A0 : Option Addr) (n0 c0 : Nat) {most : Int} (hm0 : 0 ≤ most) (hm : most ≤ 100) {R : List Int} {s' : Pk.St} (hR : (stF most s).1 = R) (hs' : (stF most s).2 = s') : Calls Try.prog 112 #[.agg #[.pointer (some ⟨b, 0, none⟩)], .slice A0 n0 c0, .int .i64 most] wx fun e w' => ∃ A c, e = .returned (.slice A R.length c) ∧ OwnI w w' A R.length c R ∧ RaSt w w' b g cs s' ∧ Only b wx w' :=
  (rnums11_any wx b s A0 n0 c0 hm0 hm h.r.r hR hs').mono fun e w' ⟨A, c, q1, q2, q3, q4⟩ => ⟨A, c, q1, own_of h.r.size q2, h.step q3 q4, q4⟩
theorem RaSt.entry (h : RaSt w wx b g cs s) (ca : CA) (e0 : En) {e : En} {s' : Pk.St} (hv : En.read s = e) (hs : (En.get s).2 = s') : Calls Try.prog 110 #[.agg #[.pointer (some ⟨b, 0, none⟩)], entV ca e0] wx fun en w' => ∃ ca, en = .returned (entV ca e) ∧ OwnC w w' ca e.c ∧ RaSt w w' b g cs s' ∧ Only b wx w' :=
  (rentry11_any wx b s ca e0 h.r.r hv hs).mono fun e w' ⟨ca, q1, q2, q3, q4⟩ => ⟨ca, q1, q2.of h.r.size, h.step q3 q4, q4⟩
end
end Go.Proofs.Ytlfkgpllleogoaa

namespace Go.Proofs.Ytlfkgpllleogoaa
open Go.RowKit
set_option linter.unusedVariables false
section
variable {W w wx : World} {b g k : Nat} {t e : TypeId} {old cs c : Array Value}
theorem only_row (w : World) (g : Nat) (cs : Array Value) : Only g w (w.setRow g cs) :=
  ⟨rfl, rfl, rfl, by simp, fun k hk hne => setRow_other w g k cs (by rintro rfl; exact hne rfl)⟩
theorem Blk.row (h : Blk w g t old) (cs : Array Value) : Blk (w.setRow g cs) g t cs := setRow_heap w g old cs t (0, 0) h
theorem Blk.row_other (h : Blk w k t c) (hne : k ≠ g) (cs : Array Value) : Blk (w.setRow g cs) k t c := (setRow_other w g k cs hne).trans h
theorem own_row_t {base size n : Nat} {v : Value} {xs : List Value} (h : w.ownsRow base e size v n xs) (hb : Blk w b t old) (hne : e ≠ t) : (w.setRow b cs).ownsRow base e size v n xs := by
  refine h.kept (only_row w b cs) ?_
  rcases h.2 with ⟨h1, _⟩ | ⟨g, cap, cur, h1, _, hh, _⟩
  · rw [h1]; exact .inl rfl
  · rw [h1]
    refine .inr ?_
    show some g ≠ some b
    intro h0
    injection h0 with h0
    subst h0
    have hb' : w.heap[g]? = some (.cells old t (0, 0)) := hb
    rw [hb'] at hh
    injection hh with hh
    injection hh with _ h3 _
    exact hne h3.symm
theorem WrAt.row {L : List Nat} {f : Bool} (h : WrAt W w b L f) (hk : Blk w g t old) (h1 : 5 ≠ t) (hne : b ≠ g) (hg : W.heap.size ≤ g) : WrAt W (w.setRow g cs) b L f := by
  obtain ⟨A, c, k1, k2, k3, k4⟩ := h
  exact ⟨A, c, k1.row_other hne cs, own_row_t k2 hk h1, below_setRow k3 hg cs, k4⟩
theorem RgSt.rowS {s : Pk.St} (h : RgSt w wx b s) (hk : Blk wx g t old) (h1 : 5 ≠ t) (h2 : 101 ≠ t) (hg : w.heap.size ≤ g) : RgSt w (wx.setRow g cs) b s := by
  obtain ⟨A, n, c, hb, q1, q2, q3, q4, q5⟩ := h.r
  exact ⟨⟨A, n, c, hb.row_other (hb.apart hk h2) cs, q1, q2, q3, q4.grown (only_row wx g cs) hk h1, q5⟩, only_below h.only (below_setRow (Below.refl w.heap.size wx) hg cs) (Nat.le_refl _)⟩
theorem OwnG.rowS {a : GA} {m : Mg} (h : OwnG w wx a m) (hk : Blk wx g t old) (h1 : 5 ≠ t) (h2 : 3 ≠ t) : OwnG w (wx.setRow g cs) a m :=
  ⟨own_row_t h.d hk h1, own_row_t h.h hk h2, own_row_t h.n hk h2, ⟨own_row_t h.c.k hk h1, own_row_t h.c.v hk h1, own_row_t h.c.o hk h1⟩⟩
theorem WaSt.rowS {ok : Bool} {X : List Nat} {d : Nat} (h : WaSt W wx b g cs ok X d) (c : Array Value) : ∃ L f, WrAt W (wx.setRow (g + 1) c) b L f ∧ f = !ok ∧ (ok = true → L = X) := by
  obtain ⟨L, f, k1, k2, k3, k4⟩ := h.ex
  exact ⟨L, f, k1.row h.res (by decide) (by have := h.hb; omega) (by have := h.hg; omega), k2, k3⟩
theorem RaSt.rowS {a : GA} {m : Mg} {s : Pk.St} (h : RaSt w wx b g cs s) (ho : OwnG w wx a m) (c : Array Value) : RgSt w (wx.setRow (g + 1) c) b s ∧ OwnG w (wx.setRow (g + 1) c) a m :=
  ⟨h.r.rowS h.res (by decide) (by decide) (by have := h.hg; omega), ho.rowS h.res (by decide) (by decide)⟩
end
end Go.Proofs.Ytlfkgpllleogoaa

namespace Go.Proofs.Ytlfkgpllleogoaa
open Go.RowKit
set_option linter.unusedVariables false
section
variable {P : Program} {ops : Array Oper} {Q : Exit → Act → World → Prop} {a : Act} {w w' : World} {rest : List Oper} {o : Oper} {v : Value}
theorem ch_region {id : Nat} {l m n : List Oper} (hn : l.append m = n) (h : wpList P n.toArray Q n a w) : (Code.region id (l.append m).toArray false).wp P Q a w := by subst hn; exact wp_region_lit h
theorem ch_val (hw : Region.wanted o (yielded ops a.tmps) = true) (h : (execOp a.eval o).run P w = .ok (.value v) w') (hn : wpList P ops Q rest (a.put o.dst v) w') : wpList P ops Q (o :: rest) a w := by
  unfold wpList; rw [if_pos hw]; exact Or.inl (wp_of_run h hn)
theorem ch_no (hw : Region.wanted o (yielded ops a.tmps) = false) (hn : wpList P ops Q rest (a.put o.dst undef) w) : wpList P ops Q (o :: rest) a w := by
  unfold wpList; rw [if_neg (by rw [hw]; exact Bool.false_ne_true)]; exact hn
theorem ch_free (hg : o.guard = none) : Region.wanted o (yielded ops a.tmps) = true := by unfold Region.wanted; rw [hg]
theorem ch_want {j s : Nat} {c : Bool} (hg : o.guard = some (j, true)) (hd : (ops[j]?).bind (·.dst) = some s) (hs : a.tmps[s]? = some (.bool c)) : Region.wanted o (yielded ops a.tmps) = c := by
  unfold Region.wanted yielded
  rw [hg]
  simp only [hd, Option.bind_some, hs]
  cases c <;> rfl
theorem ch_put_ne {d j : Nat} (h : d ≠ j) : (a.put (some d) v).tmps[j]? = a.tmps[j]? := by
  unfold Act.put; simp [h]
theorem ch_put_eq {d : Nat} (h : d < a.tmps.size) : (a.put (some d) v).tmps[d]? = some v := by
  unfold Act.put; simp [h]
theorem ch_put_size {d : Nat} : (a.put (some d) v).tmps.size = a.tmps.size := by unfold Act.put; simp
theorem ch_put_def {d : Option Nat} : (a.put d v).defers = a.defers := by cases d <;> rfl
theorem ch_eval {t : Nat} (h : a.tmps[t]? = some v) : a.eval (.tmp t) = v := by unfold Act.eval; simp [h]
theorem ch_move {x : Operand} (ho : o.op = .move x) (hx : a.eval x = v) : (execOp a.eval o).run P w = .ok (.value v) w := by unfold execOp; rw [ho, ← hx]; rfl
theorem ch_assign {x : Operand} (ho : o.op = .assign x) (hx : a.eval x = v) : (execOp a.eval o).run P w = .ok (.value v) w := by unfold execOp; rw [ho, ← hx]; rfl
theorem ch_pick {c x y : Operand} {b : Bool} (ho : o.op = .pick c x y) (hc : a.eval c = .bool b) : (execOp a.eval o).run P w = .ok (.value (if b then a.eval x else a.eval y)) w := by unfold execOp; rw [ho]; simp only [hc]; cases b <;> rfl
theorem ch_field {ty : TypeId} {x : Operand} {i : Nat} {p : Value} (ho : o.op = .fieldAddr ty x i) (hx : a.eval x = p) (hf : (Instr.fieldAt ty p i).run P w = .ok v w) : (execOp a.eval o).run P w = .ok (.value v) w := by
  unfold execOp; simp only [ho, hx, Sem.run_bind, hf, Result.andThen_ok, Sem.run_pure]
theorem ch_load {ty : TypeId} {x : Operand} {p : Value} (ho : o.op = .load ty x) (hx : a.eval x = p) (hf : (Instr.loadAt ty p).run P w = .ok v w) : (execOp a.eval o).run P w = .ok (.value v) w := by
  unfold execOp; simp only [ho, hx, Sem.run_bind, hf, Result.andThen_ok, Sem.run_pure]
theorem ch_conv {s d : TypeId} {x : Operand} {p : Value} (ho : o.op = .convert s d x) (hx : a.eval x = p) (hf : (convert s d p).run P w = .ok v w) : (execOp a.eval o).run P w = .ok (.value v) w := by
  unfold execOp; simp only [ho, hx, Sem.run_bind, hf, Result.andThen_ok, Sem.run_pure]
theorem ch_bin {op : BinOp} {ty ty' : TypeId} {x y : Operand} {p q : Value} (ho : o.op = .binOp op ty x y ty') (hx : a.eval x = p) (hy : a.eval y = q) (hf : (eqGuard op ty x y p q).run P w = .ok () w) (hb : (binOp op ty p q).run P w = .ok v w) : (execOp a.eval o).run P w = .ok (.value v) w := by
  unfold execOp; simp only [ho, hx, hy, Sem.run_bind, hf, hb, Result.andThen_ok, Sem.run_pure]
end
section
variable {w : World} {g i : Nat}
theorem ch_ldI {z : Int} (h : w.cell? ⟨g, i, none⟩ = some (.int .i64 z)) : (Instr.loadAt 3 (.pointer (some ⟨g, i, none⟩))).run Try.prog w = .ok (.int .i64 z) w := by
  simp [go_sem, h]
theorem ch_ldB {z : Bool} (h : w.cell? ⟨g, i, none⟩ = some (.bool z)) : (Instr.loadAt 4 (.pointer (some ⟨g, i, none⟩))).run Try.prog w = .ok (.bool z) w := by
  simp [go_sem, h]
theorem ch_gI {x y : Operand} {p q : Int} : (eqGuard .eql 3 x y (.int .i64 p) (.int .i64 q)).run Try.prog w = .ok () w := by kernel_rfl
theorem ch_eI {p q : Int} : (binOp .eql 3 (.int .i64 p) (.int .i64 q)).run Try.prog w = .ok (.bool (p == q)) w := by kernel_rfl
theorem ch_eB {p q : Bool} : (binOp .eql 4 (.bool p) (.bool q)).run Try.prog w = .ok (.bool (p == q)) w := by kernel_rfl
end

/-- what lies below slot s is kept -/
structure Kp (s : Nat) (a a' : Act) : Prop where
  size : a'.tmps.size = a.tmps.size
  d : a'.defers = a.defers
  at_ : ∀ j, j < s → a'.tmps[j]? = a.tmps[j]?
theorem Kp.put {s d : Nat} (a : Act) (v : Value) (h : s ≤ d) : Kp s a (a.put (some d) v) := ⟨ch_put_size, ch_put_def, fun j hj => ch_put_ne (by omega)⟩
theorem Kp.trans {s s' : Nat} {a b c : Act} (h : Kp s a b) (h' : Kp s' b c) (hs : s ≤ s') : Kp s a c := ⟨h'.size.trans h.size, h'.d.trans h.d, fun j hj => (h'.at_ j (by omega)).trans (h.at_ j hj)⟩
/-- a frame in the middle of such a region: two variables in slots 2 and 3, and in slot r whether all was alike so far -/
structure ChF (wa : World) (N g g' r : Nat) (c : Bool) (a : Act) (w : World) : Prop where
  size : a.tmps.size = N
  d : a.defers = []
  p2 : a.tmps[2]? = some (.pointer (some ⟨g, 0, none⟩))
  p3 : a.tmps[3]? = some (.pointer (some ⟨g', 0, none⟩))
  r : a.tmps[r]? = some (.bool c)
  b : Below wa.heap.size wa w
theorem ChF.next {wa w w' : World} {N g g' r s : Nat} {c c' : Bool} {a a' : Act} (h : ChF wa N g g' r c a w) (hk : Kp s a a') (hs : 3 < s) {t : Nat} (ht : a'.tmps[t]? = some (.bool c')) (hb : Below w.heap.size w w') : ChF wa N g g' t c' a' w' :=
  ⟨hk.size.trans h.size, hk.d.trans h.d, (hk.at_ 2 (by omega)).trans h.p2, (hk.at_ 3 (by omega)).trans h.p3, ht, h.b.trans (hb.mono h.b.size)⟩
section
variable {P : Program} {ops : Array Oper} {Q : Exit → Act → World → Prop} {a : Act} {w wa : World} {rest : List Oper} {N g g' r s gi i : Nat} {c D : Bool} {X Y : Value} {tm ty : TypeId}
/-- the five or more operations under the guard: not wanted -/
theorem ch_skip {l : List Oper} (hl : ∀ o ∈ l, o.guard = some (gi, true) ∧ ∃ d, o.dst = some d ∧ s < d) (hgi : (ops[gi]?).bind (·.dst) = some s) (hs : a.tmps[s]? = some (.bool false))
    (hn : ∀ a', Kp (s + 1) a a' → wpList P ops Q rest a' w) : wpList P ops Q (l ++ rest) a w := by
  induction l generalizing a with
  | nil => exact hn a ⟨rfl, rfl, fun _ _ => rfl⟩
  | cons o l ih =>
    obtain ⟨hg, d, hd, hlt⟩ := hl o (by simp)
    refine ch_no (ch_want hg hgi hs) ?_
    rw [hd]
    have k := Kp.put (s := s + 1) a undef (show s + 1 ≤ d by omega)
    exact ih (fun o ho => hl o (by simp [ho])) ((k.at_ s (by omega)).trans hs) fun a' h => hn a' (k.trans h (Nat.le_refl _))
/-- one field, loaded from both and compared -/
theorem ch_group {o0 o1 o2 o3 o4 o5 o6 : Oper} (hN : s + 6 < N) (h3 : 3 < s) (hr : r < s) (hgi : (ops[gi]?).bind (·.dst) = some s)
    (q0 : o0.dst = some s ∧ o0.guard = none ∧ o0.op = .move (.tmp r)) (q1 : o1.dst = some (s + 1) ∧ o1.guard = some (gi, true) ∧ o1.op = .fieldAddr tm (.tmp 2) i)
    (q2 : o2.dst = some (s + 2) ∧ o2.guard = some (gi, true) ∧ o2.op = .load ty (.tmp (s + 1))) (q3 : o3.dst = some (s + 3) ∧ o3.guard = some (gi, true) ∧ o3.op = .fieldAddr tm (.tmp 3) i)
    (q4 : o4.dst = some (s + 4) ∧ o4.guard = some (gi, true) ∧ o4.op = .load ty (.tmp (s + 3))) (q5 : o5.dst = some (s + 5) ∧ o5.guard = some (gi, true) ∧ o5.op = .binOp .eql ty (.tmp (s + 2)) (.tmp (s + 4)) ty)
    (q6 : o6.dst = some (s + 6) ∧ o6.guard = none ∧ o6.op = .pick (.tmp s) (.tmp (s + 5)) (.const (.bool false)))
    (hF : ChF wa N g g' r c a w)
    (f1 : (Instr.fieldAt tm (.pointer (some ⟨g, 0, none⟩)) i).run P w = .ok (.pointer (some ⟨g, i, none⟩)) w) (l1 : (Instr.loadAt ty (.pointer (some ⟨g, i, none⟩))).run P w = .ok X w)
    (f2 : (Instr.fieldAt tm (.pointer (some ⟨g', 0, none⟩)) i).run P w = .ok (.pointer (some ⟨g', i, none⟩)) w) (l2 : (Instr.loadAt ty (.pointer (some ⟨g', i, none⟩))).run P w = .ok Y w)
    (e1 : (eqGuard .eql ty (.tmp (s + 2)) (.tmp (s + 4)) X Y).run P w = .ok () w) (e2 : (binOp .eql ty X Y).run P w = .ok (.bool D) w)
    (hn : ∀ a', ChF wa N g g' (s + 6) (c && D) a' w → wpList P ops Q rest a' w) : wpList P ops Q (o0 :: o1 :: o2 :: o3 :: o4 :: o5 :: o6 :: rest) a w := by
  obtain ⟨d0, g0, p0⟩ := q0
  obtain ⟨d1, g1, p1⟩ := q1
  obtain ⟨d2, g2, p2⟩ := q2
  obtain ⟨d3, g3, p3⟩ := q3
  obtain ⟨d4, g4, p4⟩ := q4
  obtain ⟨d5, g5, p5⟩ := q5
  obtain ⟨d6, g6, p6⟩ := q6
  have hsz := hF.size
  refine ch_val (ch_free g0) (ch_move p0 (ch_eval hF.r)) ?_
  rw [d0]
  have k1 := Kp.put (s := s) a (.bool c) (Nat.le_refl _)
  have v1 : (a.put (some s) (.bool c)).tmps[s]? = some (.bool c) := ch_put_eq (by omega)
  have z1 : (a.put (some s) (.bool c)).tmps.size = N := k1.size.trans hsz
  generalize a.put (some s) (.bool c) = a1 at k1 v1 z1 ⊢
  cases c with
  | false =>
    refine ch_skip (l := [o1, o2, o3, o4, o5]) (gi := gi) (s := s) ?_ hgi v1 fun a' hk => ?_
    · intro o ho
      simp only [List.mem_cons, List.not_mem_nil, or_false] at ho
      rcases ho with rfl | rfl | rfl | rfl | rfl
      · exact ⟨g1, _, d1, by omega⟩
      · exact ⟨g2, _, d2, by omega⟩
      · exact ⟨g3, _, d3, by omega⟩
      · exact ⟨g4, _, d4, by omega⟩
      · exact ⟨g5, _, d5, by omega⟩
    · refine ch_val (ch_free g6) (ch_pick p6 (ch_eval ((hk.at_ s (by omega)).trans v1))) ?_
      rw [d6]
      have k6 := Kp.put (s := s + 1) a' (if false = true then a'.eval (.tmp (s + 5)) else a'.eval (.const (.bool false))) (show s + 1 ≤ s + 6 by omega)
      exact hn _ (hF.next ((k1.trans hk (by omega)).trans k6 (by omega)) h3 (ch_put_eq (by rw [hk.size, z1]; exact hN)) (Below.refl _ _))
  | true =>
    have w1 : ∀ {o : Oper} {b : Act}, o.guard = some (gi, true) → Kp (s + 1) a1 b → Region.wanted o (yielded ops b.tmps) = true := fun hg hk => ch_want hg hgi ((hk.at_ s (by omega)).trans v1)
    have kk := fun (b : Act) (h : Kp (s + 1) a1 b) (d : Nat) (v : Value) (hd : s + 1 ≤ d) => h.trans (Kp.put (s := s + 1) b v hd) (Nat.le_refl _)
    have k0 : Kp (s + 1) a1 a1 := ⟨rfl, rfl, fun _ _ => rfl⟩
    refine ch_val (w1 g1 k0) (ch_field p1 (ch_eval ((k1.at_ 2 (by omega)).trans hF.p2)) f1) ?_
    rw [d1]
    have m1 := kk a1 k0 (s + 1) (.pointer (some ⟨g, i, none⟩)) (by omega)
    have u1 : (a1.put (some (s + 1)) (.pointer (some ⟨g, i, none⟩))).tmps[s + 1]? = some (.pointer (some ⟨g, i, none⟩)) := ch_put_eq (by omega)
    generalize a1.put (some (s + 1)) (.pointer (some ⟨g, i, none⟩)) = a2 at m1 u1 ⊢
    refine ch_val (w1 g2 m1) (ch_load p2 (ch_eval u1) l1) ?_
    rw [d2]
    have m2 := kk a2 m1 (s + 2) X (by omega)
    have u2 : (a2.put (some (s + 2)) X).tmps[s + 2]? = some X := ch_put_eq (by rw [m1.size]; omega)
    generalize a2.put (some (s + 2)) X = a3 at m2 u2 ⊢
    refine ch_val (w1 g3 m2) (ch_field p3 (ch_eval ((m2.at_ 3 (by omega)).trans ((k1.at_ 3 (by omega)).trans hF.p3))) f2) ?_
    rw [d3]
    have m3 := kk a3 m2 (s + 3) (.pointer (some ⟨g', i, none⟩)) (by omega)
    have u3 : (a3.put (some (s + 3)) (.pointer (some ⟨g', i, none⟩))).tmps[s + 3]? = some (.pointer (some ⟨g', i, none⟩)) := ch_put_eq (by rw [m2.size]; omega)
    have u2 : (a3.put (some (s + 3)) (.pointer (some ⟨g', i, none⟩))).tmps[s + 2]? = some X := (ch_put_ne (by omega)).trans u2
    generalize a3.put (some (s + 3)) (.pointer (some ⟨g', i, none⟩)) = a4 at m3 u3 u2 ⊢
    refine ch_val (w1 g4 m3) (ch_load p4 (ch_eval u3) l2) ?_
    rw [d4]
    have m4 := kk a4 m3 (s + 4) Y (by omega)
    have u4 : (a4.put (some (s + 4)) Y).tmps[s + 4]? = some Y := ch_put_eq (by rw [m3.size]; omega)
    have u2 : (a4.put (some (s + 4)) Y).tmps[s + 2]? = some X := (ch_put_ne (by omega)).trans u2
    generalize a4.put (some (s + 4)) Y = a5 at m4 u4 u2 ⊢
    refine ch_val (w1 g5 m4) (ch_bin p5 (ch_eval u2) (ch_eval u4) e1 e2) ?_
    rw [d5]
    have m5 := kk a5 m4 (s + 5) (.bool D) (by omega)
    have u5 : (a5.put (some (s + 5)) (.bool D)).tmps[s + 5]? = some (.bool D) := ch_put_eq (by rw [m4.size]; omega)
    generalize a5.put (some (s + 5)) (.bool D) = a6 at m5 u5 ⊢
    refine ch_val (ch_free g6) (ch_pick p6 (ch_eval ((m5.at_ s (by omega)).trans v1))) ?_
    rw [d6, if_pos rfl, ch_eval u5]
    have k6 := Kp.put (s := s + 1) a6 (.bool D) (show s + 1 ≤ s + 6 by omega)
    refine hn _ (hF.next ((k1.trans m5 (by omega)).trans k6 (by omega)) h3 ?_ (Below.refl _ _))
    rw [Bool.true_and]
    exact ch_put_eq (by rw [m5.size, z1]; exact hN)

theorem ch_call {o : Oper} {f : FuncId} {x y : Operand} {ts : Array TypeId} {R : World → Prop} {V : Value} (hw : Region.wanted o (yielded ops a.tmps) = true) (ho : o.op = .call { callee := .value (.func f), args := #[x, y], argTypes := ts })
    (hx : a.eval x = X) (hy : a.eval y = Y) (hcf : (callFunc f #[X, Y]).run P w = .ok (.enter f #[X, Y]) w) (hc : Calls P f #[X, Y] w fun e w' => e = .returned V ∧ R w') (hn : ∀ w', R w' → wpList P ops Q rest (a.put o.dst V) w') : wpList P ops Q (o :: rest) a w := by
  unfold wpList
  rw [if_pos hw]
  refine Or.inl ?_
  have hf : a.eval (.func f) = .func (.func f) #[] #[] := rfl
  have e : (execOp a.eval o).run P w = .ok (.enter f #[X, Y]) w := by
    unfold execOp
    simp only [ho, resolve, Deferred.ofValue, invoke, Sem.run_bind, Sem.run_pure, Result.andThen_ok, List.map_toArray, List.map_cons, List.map_nil, hx, hy, hf]
    exact hcf
  unfold Oper.wp
  rw [e]
  refine hc.mono ?_
  rintro e w' ⟨rfl, hR⟩
  exact hn w' hR
/-- the first field of all: no guard -/
theorem ch_first {o1 o2 o3 o4 o5 : Oper} (hN : s + 4 < N) (h3 : 3 < s)
    (q1 : o1.dst = some s ∧ o1.guard = none ∧ o1.op = .fieldAddr tm (.tmp 2) i)
    (q2 : o2.dst = some (s + 1) ∧ o2.guard = none ∧ o2.op = .load ty (.tmp s)) (q3 : o3.dst = some (s + 2) ∧ o3.guard = none ∧ o3.op = .fieldAddr tm (.tmp 3) i)
    (q4 : o4.dst = some (s + 3) ∧ o4.guard = none ∧ o4.op = .load ty (.tmp (s + 2))) (q5 : o5.dst = some (s + 4) ∧ o5.guard = none ∧ o5.op = .binOp .eql ty (.tmp (s + 1)) (.tmp (s + 3)) ty)
    (hsz : a.tmps.size = N) (hd : a.defers = []) (hp2 : a.tmps[2]? = some (.pointer (some ⟨g, 0, none⟩))) (hp3 : a.tmps[3]? = some (.pointer (some ⟨g', 0, none⟩))) (hb : Below wa.heap.size wa w)
    (f1 : (Instr.fieldAt tm (.pointer (some ⟨g, 0, none⟩)) i).run P w = .ok (.pointer (some ⟨g, i, none⟩)) w) (l1 : (Instr.loadAt ty (.pointer (some ⟨g, i, none⟩))).run P w = .ok X w)
    (f2 : (Instr.fieldAt tm (.pointer (some ⟨g', 0, none⟩)) i).run P w = .ok (.pointer (some ⟨g', i, none⟩)) w) (l2 : (Instr.loadAt ty (.pointer (some ⟨g', i, none⟩))).run P w = .ok Y w)
    (e1 : (eqGuard .eql ty (.tmp (s + 1)) (.tmp (s + 3)) X Y).run P w = .ok () w) (e2 : (binOp .eql ty X Y).run P w = .ok (.bool D) w)
    (hn : ∀ a', ChF wa N g g' (s + 4) D a' w → wpList P ops Q rest a' w) : wpList P ops Q (o1 :: o2 :: o3 :: o4 :: o5 :: rest) a w := by
  obtain ⟨d1, g1, p1⟩ := q1
  obtain ⟨d2, g2, p2⟩ := q2
  obtain ⟨d3, g3, p3⟩ := q3
  obtain ⟨d4, g4, p4⟩ := q4
  obtain ⟨d5, g5, p5⟩ := q5
  have kk := fun (b : Act) (h : Kp s a b) (d : Nat) (v : Value) (hd : s ≤ d) => h.trans (Kp.put (s := s) b v hd) (Nat.le_refl _)
  have k0 : Kp s a a := ⟨rfl, rfl, fun _ _ => rfl⟩
  refine ch_val (ch_free g1) (ch_field p1 (ch_eval hp2) f1) ?_
  rw [d1]
  have m1 := kk a k0 s (.pointer (some ⟨g, i, none⟩)) (by omega)
  have u1 : (a.put (some s) (.pointer (some ⟨g, i, none⟩))).tmps[s]? = some (.pointer (some ⟨g, i, none⟩)) := ch_put_eq (by omega)
  generalize a.put (some s) (.pointer (some ⟨g, i, none⟩)) = a2 at m1 u1 ⊢
  refine ch_val (ch_free g2) (ch_load p2 (ch_eval u1) l1) ?_
  rw [d2]
  have m2 := kk a2 m1 (s + 1) X (by omega)
  have u2 : (a2.put (some (s + 1)) X).tmps[s + 1]? = some X := ch_put_eq (by rw [m1.size]; omega)
  generalize a2.put (some (s + 1)) X = a3 at m2 u2 ⊢
  refine ch_val (ch_free g3) (ch_field p3 (ch_eval ((m2.at_ 3 (by omega)).trans hp3)) f2) ?_
  rw [d3]
  have m3 := kk a3 m2 (s + 2) (.pointer (some ⟨g', i, none⟩)) (by omega)
  have u3 : (a3.put (some (s + 2)) (.pointer (some ⟨g', i, none⟩))).tmps[s + 2]? = some (.pointer (some ⟨g', i, none⟩)) := ch_put_eq (by rw [m2.size]; omega)
  have u2 : (a3.put (some (s + 2)) (.pointer (some ⟨g', i, none⟩))).tmps[s + 1]? = some X := (ch_put_ne (by omega)).trans u2
  generalize a3.put (some (s + 2)) (.pointer (some ⟨g', i, none⟩)) = a4 at m3 u3 u2 ⊢
  refine ch_val (ch_free g4) (ch_load p4 (ch_eval u3) l2) ?_
  rw [d4]
  have m4 := kk a4 m3 (s + 3) Y (by omega)
  have u4 : (a4.put (some (s + 3)) Y).tmps[s + 3]? = some Y := ch_put_eq (by rw [m3.size]; omega)
  have u2 : (a4.put (some (s + 3)) Y).tmps[s + 1]? = some X := (ch_put_ne (by omega)).trans u2
  generalize a4.put (some (s + 3)) Y = a5 at m4 u4 u2 ⊢
  refine ch_val (ch_free g5) (ch_bin p5 (ch_eval u2) (ch_eval u4) e1 e2) ?_
  rw [d5]
  have m5 := kk a5 m4 (s + 4) (.bool D) (by omega)
  exact hn _ ⟨m5.size.trans hsz, m5.d.trans hd, (m5.at_ 2 (by omega)).trans hp2, (m5.at_ 3 (by omega)).trans hp3, ch_put_eq (by rw [m4.size]; omega), hb⟩
/-- one field, loaded from both, turned into strings, and compared -/
theorem ch_groupS {o0 o1 o2 o2c o3 o4 o4c o5 o6 : Oper} {tg : TypeId} {X' Y' : Value} (hN : s + 8 < N) (h3 : 3 < s) (hr : r < s) (hgi : (ops[gi]?).bind (·.dst) = some s)
    (q0 : o0.dst = some s ∧ o0.guard = none ∧ o0.op = .move (.tmp r)) (q1 : o1.dst = some (s + 1) ∧ o1.guard = some (gi, true) ∧ o1.op = .fieldAddr tm (.tmp 2) i)
    (q2 : o2.dst = some (s + 2) ∧ o2.guard = some (gi, true) ∧ o2.op = .load ty (.tmp (s + 1))) (q2c : o2c.dst = some (s + 3) ∧ o2c.guard = some (gi, true) ∧ o2c.op = .convert ty tg (.tmp (s + 2)))
    (q3 : o3.dst = some (s + 4) ∧ o3.guard = some (gi, true) ∧ o3.op = .fieldAddr tm (.tmp 3) i)
    (q4 : o4.dst = some (s + 5) ∧ o4.guard = some (gi, true) ∧ o4.op = .load ty (.tmp (s + 4))) (q4c : o4c.dst = some (s + 6) ∧ o4c.guard = some (gi, true) ∧ o4c.op = .convert ty tg (.tmp (s + 5)))
    (q5 : o5.dst = some (s + 7) ∧ o5.guard = some (gi, true) ∧ o5.op = .binOp .eql tg (.tmp (s + 3)) (.tmp (s + 6)) tg)
    (q6 : o6.dst = some (s + 8) ∧ o6.guard = none ∧ o6.op = .pick (.tmp s) (.tmp (s + 7)) (.const (.bool false)))
    (hF : ChF wa N g g' r c a w)
    (f1 : (Instr.fieldAt tm (.pointer (some ⟨g, 0, none⟩)) i).run P w = .ok (.pointer (some ⟨g, i, none⟩)) w) (l1 : (Instr.loadAt ty (.pointer (some ⟨g, i, none⟩))).run P w = .ok X w) (c1 : (convert ty tg X).run P w = .ok X' w)
    (f2 : (Instr.fieldAt tm (.pointer (some ⟨g', 0, none⟩)) i).run P w = .ok (.pointer (some ⟨g', i, none⟩)) w) (l2 : (Instr.loadAt ty (.pointer (some ⟨g', i, none⟩))).run P w = .ok Y w) (c2 : (convert ty tg Y).run P w = .ok Y' w)
    (e1 : (eqGuard .eql tg (.tmp (s + 3)) (.tmp (s + 6)) X' Y').run P w = .ok () w) (e2 : (binOp .eql tg X' Y').run P w = .ok (.bool D) w)
    (hn : ∀ a', ChF wa N g g' (s + 8) (c && D) a' w → wpList P ops Q rest a' w) : wpList P ops Q (o0 :: o1 :: o2 :: o2c :: o3 :: o4 :: o4c :: o5 :: o6 :: rest) a w := by
  obtain ⟨d0, g0, p0⟩ := q0
  obtain ⟨d1, g1, p1⟩ := q1
  obtain ⟨d2, g2, p2⟩ := q2
  obtain ⟨d2c, g2c, p2c⟩ := q2c
  obtain ⟨d3, g3, p3⟩ := q3
  obtain ⟨d4, g4, p4⟩ := q4
  obtain ⟨d4c, g4c, p4c⟩ := q4c
  obtain ⟨d5, g5, p5⟩ := q5
  obtain ⟨d6, g6, p6⟩ := q6
  have hsz := hF.size
  refine ch_val (ch_free g0) (ch_move p0 (ch_eval hF.r)) ?_
  rw [d0]
  have k1 := Kp.put (s := s) a (.bool c) (Nat.le_refl _)
  have v1 : (a.put (some s) (.bool c)).tmps[s]? = some (.bool c) := ch_put_eq (by omega)
  have z1 : (a.put (some s) (.bool c)).tmps.size = N := k1.size.trans hsz
  generalize a.put (some s) (.bool c) = a1 at k1 v1 z1 ⊢
  cases c with
  | false =>
    refine ch_skip (l := [o1, o2, o2c, o3, o4, o4c, o5]) (gi := gi) (s := s) ?_ hgi v1 fun a' hk => ?_
    · intro o ho
      simp only [List.mem_cons, List.not_mem_nil, or_false] at ho
      rcases ho with rfl | rfl | rfl | rfl | rfl | rfl | rfl
      · exact ⟨g1, _, d1, by omega⟩
      · exact ⟨g2, _, d2, by omega⟩
      · exact ⟨g2c, _, d2c, by omega⟩
      · exact ⟨g3, _, d3, by omega⟩
      · exact ⟨g4, _, d4, by omega⟩
      · exact ⟨g4c, _, d4c, by omega⟩
      · exact ⟨g5, _, d5, by omega⟩
    · refine ch_val (ch_free g6) (ch_pick p6 (ch_eval ((hk.at_ s (by omega)).trans v1))) ?_
      rw [d6]
      have k6 := Kp.put (s := s + 1) a' (if false = true then a'.eval (.tmp (s + 7)) else a'.eval (.const (.bool false))) (show s + 1 ≤ s + 8 by omega)
      exact hn _ (hF.next ((k1.trans hk (by omega)).trans k6 (by omega)) h3 (ch_put_eq (by rw [hk.size, z1]; exact hN)) (Below.refl _ _))
  | true =>
    have w1 : ∀ {o : Oper} {b : Act}, o.guard = some (gi, true) → Kp (s + 1) a1 b → Region.wanted o (yielded ops b.tmps) = true := fun hg hk => ch_want hg hgi ((hk.at_ s (by omega)).trans v1)
    have kk := fun (b : Act) (h : Kp (s + 1) a1 b) (d : Nat) (v : Value) (hd : s + 1 ≤ d) => h.trans (Kp.put (s := s + 1) b v hd) (Nat.le_refl _)
    have k0 : Kp (s + 1) a1 a1 := ⟨rfl, rfl, fun _ _ => rfl⟩
    refine ch_val (w1 g1 k0) (ch_field p1 (ch_eval ((k1.at_ 2 (by omega)).trans hF.p2)) f1) ?_
    rw [d1]
    have m1 := kk a1 k0 (s + 1) (.pointer (some ⟨g, i, none⟩)) (by omega)
    have u1 : (a1.put (some (s + 1)) (.pointer (some ⟨g, i, none⟩))).tmps[s + 1]? = some (.pointer (some ⟨g, i, none⟩)) := ch_put_eq (by omega)
    generalize a1.put (some (s + 1)) (.pointer (some ⟨g, i, none⟩)) = a2 at m1 u1 ⊢
    refine ch_val (w1 g2 m1) (ch_load p2 (ch_eval u1) l1) ?_
    rw [d2]
    have m2 := kk a2 m1 (s + 2) X (by omega)
    have u2 : (a2.put (some (s + 2)) X).tmps[s + 2]? = some X := ch_put_eq (by rw [m1.size]; omega)
    generalize a2.put (some (s + 2)) X = a3 at m2 u2 ⊢
    refine ch_val (w1 g2c m2) (ch_conv p2c (ch_eval u2) c1) ?_
    rw [d2c]
    have m3 := kk a3 m2 (s + 3) X' (by omega)
    have v3 : (a3.put (some (s + 3)) X').tmps[s + 3]? = some X' := ch_put_eq (by rw [m2.size]; omega)
    generalize a3.put (some (s + 3)) X' = a4 at m3 v3 ⊢
    refine ch_val (w1 g3 m3) (ch_field p3 (ch_eval ((m3.at_ 3 (by omega)).trans ((k1.at_ 3 (by omega)).trans hF.p3))) f2) ?_
    rw [d3]
    have m4 := kk a4 m3 (s + 4) (.pointer (some ⟨g', i, none⟩)) (by omega)
    have u4 : (a4.put (some (s + 4)) (.pointer (some ⟨g', i, none⟩))).tmps[s + 4]? = some (.pointer (some ⟨g', i, none⟩)) := ch_put_eq (by rw [m3.size]; omega)
    have v3 : (a4.put (some (s + 4)) (.pointer (some ⟨g', i, none⟩))).tmps[s + 3]? = some X' := (ch_put_ne (by omega)).trans v3
    generalize a4.put (some (s + 4)) (.pointer (some ⟨g', i, none⟩)) = a5 at m4 u4 v3 ⊢
    refine ch_val (w1 g4 m4) (ch_load p4 (ch_eval u4) l2) ?_
    rw [d4]
    have m5 := kk a5 m4 (s + 5) Y (by omega)
    have u5 : (a5.put (some (s + 5)) Y).tmps[s + 5]? = some Y := ch_put_eq (by rw [m4.size]; omega)
    have v3 : (a5.put (some (s + 5)) Y).tmps[s + 3]? = some X' := (ch_put_ne (by omega)).trans v3
    generalize a5.put (some (s + 5)) Y = a6 at m5 u5 v3 ⊢
    refine ch_val (w1 g4c m5) (ch_conv p4c (ch_eval u5) c2) ?_
    rw [d4c]
    have m6 := kk a6 m5 (s + 6) Y' (by omega)
    have u6 : (a6.put (some (s + 6)) Y').tmps[s + 6]? = some Y' := ch_put_eq (by rw [m5.size]; omega)
    have v3 : (a6.put (some (s + 6)) Y').tmps[s + 3]? = some X' := (ch_put_ne (by omega)).trans v3
    generalize a6.put (some (s + 6)) Y' = a7 at m6 u6 v3 ⊢
    refine ch_val (w1 g5 m6) (ch_bin p5 (ch_eval v3) (ch_eval u6) e1 e2) ?_
    rw [d5]
    have m7 := kk a7 m6 (s + 7) (.bool D) (by omega)
    have u7 : (a7.put (some (s + 7)) (.bool D)).tmps[s + 7]? = some (.bool D) := ch_put_eq (by rw [m6.size]; omega)
    generalize a7.put (some (s + 7)) (.bool D) = a8 at m7 u7 ⊢
    refine ch_val (ch_free g6) (ch_pick p6 (ch_eval ((m7.at_ s (by omega)).trans v1))) ?_
    rw [d6, if_pos rfl, ch_eval u7]
    have k6 := Kp.put (s := s + 1) a8 (.bool D) (show s + 1 ≤ s + 8 by omega)
    refine hn _ (hF.next ((k1.trans m7 (by omega)).trans k6 (by omega)) h3 ?_ (Below.refl _ _))
    rw [Bool.true_and]
    exact ch_put_eq (by rw [m7.size, z1]; exact hN)
/-- one field, loaded from both and compared by a call -/
theorem ch_groupC {o0 o1 o2 o3 o4 o5 o6 : Oper} {f : FuncId} {ts : Array TypeId} (hN : s + 6 < N) (h3 : 3 < s) (hr : r < s) (hgi : (ops[gi]?).bind (·.dst) = some s)
    (q0 : o0.dst = some s ∧ o0.guard = none ∧ o0.op = .move (.tmp r)) (q1 : o1.dst = some (s + 1) ∧ o1.guard = some (gi, true) ∧ o1.op = .fieldAddr tm (.tmp 2) i)
    (q2 : o2.dst = some (s + 2) ∧ o2.guard = some (gi, true) ∧ o2.op = .load ty (.tmp (s + 1))) (q3 : o3.dst = some (s + 3) ∧ o3.guard = some (gi, true) ∧ o3.op = .fieldAddr tm (.tmp 3) i)
    (q4 : o4.dst = some (s + 4) ∧ o4.guard = some (gi, true) ∧ o4.op = .load ty (.tmp (s + 3))) (q5 : o5.dst = some (s + 5) ∧ o5.guard = some (gi, true) ∧ o5.op = .call { callee := .value (.func f), args := #[.tmp (s + 2), .tmp (s + 4)], argTypes := ts })
    (q6 : o6.dst = some (s + 6) ∧ o6.guard = none ∧ o6.op = .pick (.tmp s) (.tmp (s + 5)) (.const (.bool false)))
    (hF : ChF wa N g g' r c a w)
    (f1 : (Instr.fieldAt tm (.pointer (some ⟨g, 0, none⟩)) i).run P w = .ok (.pointer (some ⟨g, i, none⟩)) w) (l1 : (Instr.loadAt ty (.pointer (some ⟨g, i, none⟩))).run P w = .ok X w)
    (f2 : (Instr.fieldAt tm (.pointer (some ⟨g', 0, none⟩)) i).run P w = .ok (.pointer (some ⟨g', i, none⟩)) w) (l2 : (Instr.loadAt ty (.pointer (some ⟨g', i, none⟩))).run P w = .ok Y w)
    (hcf : (callFunc f #[X, Y]).run P w = .ok (.enter f #[X, Y]) w) (hc : Calls P f #[X, Y] w fun e w' => e = .returned (.bool D) ∧ Below w.heap.size w w')
    (hn : ∀ a' w', ChF wa N g g' (s + 6) (c && D) a' w' → wpList P ops Q rest a' w') : wpList P ops Q (o0 :: o1 :: o2 :: o3 :: o4 :: o5 :: o6 :: rest) a w := by
  obtain ⟨d0, g0, p0⟩ := q0
  obtain ⟨d1, g1, p1⟩ := q1
  obtain ⟨d2, g2, p2⟩ := q2
  obtain ⟨d3, g3, p3⟩ := q3
  obtain ⟨d4, g4, p4⟩ := q4
  obtain ⟨d5, g5, p5⟩ := q5
  obtain ⟨d6, g6, p6⟩ := q6
  have hsz := hF.size
  refine ch_val (ch_free g0) (ch_move p0 (ch_eval hF.r)) ?_
  rw [d0]
  have k1 := Kp.put (s := s) a (.bool c) (Nat.le_refl _)
  have v1 : (a.put (some s) (.bool c)).tmps[s]? = some (.bool c) := ch_put_eq (by omega)
  have z1 : (a.put (some s) (.bool c)).tmps.size = N := k1.size.trans hsz
  generalize a.put (some s) (.bool c) = a1 at k1 v1 z1 ⊢
  cases c with
  | false =>
    refine ch_skip (l := [o1, o2, o3, o4, o5]) (gi := gi) (s := s) ?_ hgi v1 fun a' hk => ?_
    · intro o ho
      simp only [List.mem_cons, List.not_mem_nil, or_false] at ho
      rcases ho with rfl | rfl | rfl | rfl | rfl
      · exact ⟨g1, _, d1, by omega⟩
      · exact ⟨g2, _, d2, by omega⟩
      · exact ⟨g3, _, d3, by omega⟩
      · exact ⟨g4, _, d4, by omega⟩
      · exact ⟨g5, _, d5, by omega⟩
    · refine ch_val (ch_free g6) (ch_pick p6 (ch_eval ((hk.at_ s (by omega)).trans v1))) ?_
      rw [d6]
      have k6 := Kp.put (s := s + 1) a' (if false = true then a'.eval (.tmp (s + 5)) else a'.eval (.const (.bool false))) (show s + 1 ≤ s + 6 by omega)
      exact hn _ _ (hF.next ((k1.trans hk (by omega)).trans k6 (by omega)) h3 (ch_put_eq (by rw [hk.size, z1]; exact hN)) (Below.refl _ _))
  | true =>
    have w1 : ∀ {o : Oper} {b : Act}, o.guard = some (gi, true) → Kp (s + 1) a1 b → Region.wanted o (yielded ops b.tmps) = true := fun hg hk => ch_want hg hgi ((hk.at_ s (by omega)).trans v1)
    have kk := fun (b : Act) (h : Kp (s + 1) a1 b) (d : Nat) (v : Value) (hd : s + 1 ≤ d) => h.trans (Kp.put (s := s + 1) b v hd) (Nat.le_refl _)
    have k0 : Kp (s + 1) a1 a1 := ⟨rfl, rfl, fun _ _ => rfl⟩
    refine ch_val (w1 g1 k0) (ch_field p1 (ch_eval ((k1.at_ 2 (by omega)).trans hF.p2)) f1) ?_
    rw [d1]
    have m1 := kk a1 k0 (s + 1) (.pointer (some ⟨g, i, none⟩)) (by omega)
    have u1 : (a1.put (some (s + 1)) (.pointer (some ⟨g, i, none⟩))).tmps[s + 1]? = some (.pointer (some ⟨g, i, none⟩)) := ch_put_eq (by omega)
    generalize a1.put (some (s + 1)) (.pointer (some ⟨g, i, none⟩)) = a2 at m1 u1 ⊢
    refine ch_val (w1 g2 m1) (ch_load p2 (ch_eval u1) l1) ?_
    rw [d2]
    have m2 := kk a2 m1 (s + 2) X (by omega)
    have u2 : (a2.put (some (s + 2)) X).tmps[s + 2]? = some X := ch_put_eq (by rw [m1.size]; omega)
    generalize a2.put (some (s + 2)) X = a3 at m2 u2 ⊢
    refine ch_val (w1 g3 m2) (ch_field p3 (ch_eval ((m2.at_ 3 (by omega)).trans ((k1.at_ 3 (by omega)).trans hF.p3))) f2) ?_
    rw [d3]
    have m3 := kk a3 m2 (s + 3) (.pointer (some ⟨g', i, none⟩)) (by omega)
    have u3 : (a3.put (some (s + 3)) (.pointer (some ⟨g', i, none⟩))).tmps[s + 3]? = some (.pointer (some ⟨g', i, none⟩)) := ch_put_eq (by rw [m2.size]; omega)
    have u2 : (a3.put (some (s + 3)) (.pointer (some ⟨g', i, none⟩))).tmps[s + 2]? = some X := (ch_put_ne (by omega)).trans u2
    generalize a3.put (some (s + 3)) (.pointer (some ⟨g', i, none⟩)) = a4 at m3 u3 u2 ⊢
    refine ch_val (w1 g4 m3) (ch_load p4 (ch_eval u3) l2) ?_
    rw [d4]
    have m4 := kk a4 m3 (s + 4) Y (by omega)
    have u4 : (a4.put (some (s + 4)) Y).tmps[s + 4]? = some Y := ch_put_eq (by rw [m3.size]; omega)
    have u2 : (a4.put (some (s + 4)) Y).tmps[s + 2]? = some X := (ch_put_ne (by omega)).trans u2
    generalize a4.put (some (s + 4)) Y = a5 at m4 u4 u2 ⊢
    refine ch_call (w1 g5 m4) p5 (ch_eval u2) (ch_eval u4) hcf hc fun w' hw' => ?_
    rw [d5]
    have m5 := kk a5 m4 (s + 5) (.bool D) (by omega)
    have u5 : (a5.put (some (s + 5)) (.bool D)).tmps[s + 5]? = some (.bool D) := ch_put_eq (by rw [m4.size]; omega)
    generalize a5.put (some (s + 5)) (.bool D) = a6 at m5 u5 ⊢
    refine ch_val (ch_free g6) (ch_pick p6 (ch_eval ((m5.at_ s (by omega)).trans v1))) ?_
    rw [d6, if_pos rfl, ch_eval u5]
    have k6 := Kp.put (s := s + 1) a6 (.bool D) (show s + 1 ≤ s + 6 by omega)
    refine hn _ _ (hF.next ((k1.trans m5 (by omega)).trans k6 (by omega)) h3 ?_ hw')
    rw [Bool.true_and]
    exact ch_put_eq (by rw [m5.size, z1]; exact hN)
end
end Go.Proofs.Ytlfkgpllleogoaa

namespace Go.Proofs.Ytlfkgpllleogoaa
open Go.RowKit
set_option linter.unusedVariables false
theorem refnext_any (c x : Nat) (hc : Crc.U32 c) (hx : x < 256) (w : World) :
    Calls Try.prog 77 #[.int .u32 c, .int .u8 x] w fun e w' => e = .returned (.int .u32 (Crc.nxt c x : Nat)) ∧ w = w' := by
  have hcx : Crc.U32 (c ^^^ x) := Crc.xor_lt32 hc (by omega)
  go_enter Try.func77, Try.ntmps77
  have hx0 : bits .xor .u32 (c : Int) (x : Int) = ((c ^^^ x : Nat) : Int) := u32_xor_nat c x hc (by omega)
  go_wp2
  go_loop [0, 5, 6] (fun c' i _ => ∃ k : Nat, k ≤ 8 ∧ i = .int .i64 k ∧ c' = .int .u32 (Crc.stpN k (c ^^^ x) : Nat)) (fun _ i _ => 8 - (intOf i).toNat)
  case atStart => exact ⟨0, by omega, rfl, by first | rfl | (rw [hx0]; rfl)⟩
  case round =>
    obtain ⟨k, hk, rfl, rfl⟩ := hrel
    have hs : Crc.U32 (Crc.stpN k (c ^^^ x)) := Crc.stpN_lt k hcx
    by_cases hlt : k < 8
    · go_wp2
      · have ho : (bits .and .u32 (Crc.stpN k (c ^^^ x) : Int) 1 == 1) = true := by assumption
        go_round
        case rel => exact ⟨k + 1, by omega, by go_num, by rw [Crc.stp_odd hs ho]; rfl⟩
        case measure => simp [intOf]; omega
      · have ho : (bits .and .u32 (Crc.stpN k (c ^^^ x) : Int) 1 == 1) = false := by assumption
        go_round
        case rel => exact ⟨k + 1, by omega, by go_num, by rw [Crc.stp_even hs ho]; rfl⟩
        case measure => simp [intOf]; omega
    · go_wp2
      go_ret
      exact ⟨ret_int (by have : k = 8 := by omega
                         subst this; rfl), rfl⟩
theorem refsum_any (l : List Nat) (hl : ∀ x ∈ l, x < 256) (a : Option Addr) (n cap B : Nat) (hn : n ≤ maxLen) (w : World) (h : Rd w B a n (bv l)) :
    Calls Try.prog 72 #[.slice a n cap] w fun e w' => e = .returned (.int .u32 (Crc.sum l : Nat)) ∧ w = w' := by
  unfold maxLen at hn
  have hlen := Lib.hid h.length
  have H := Lib.hid h
  clear h
  have H0 := Lib.hid (Crc.run_zero 4294967295 l)
  go_enter Try.func72, Try.ntmps72
  go_wp2
  go_loop [3, 4] (fun c i => ∃ k : Nat, k ≤ n ∧ i = .int .i64 k ∧ c = .int .u32 (Crc.run 4294967295 (l.take k) : Nat)) (fun _ i => n - (intOf i).toNat)
  case atStart => exact ⟨0, by omega, rfl, by rw [H0.out]; rfl⟩
  case round =>
    obtain ⟨k, hk, rfl, rfl⟩ := hrel
    have hs : Crc.U32 (Crc.run 4294967295 (l.take k)) := Crc.run_lt _ (by omega) (Crc.take_lt hl k)
    by_cases hlt : k < n
    · obtain ⟨b, o, rfl, hk', hc⟩ := H.out.bytes_at hlt
      have hx : l[k] < 256 := hl _ (List.getElem_mem hk')
      have HT := Lib.hid (Crc.run_take 4294967295 l k hk')
      go_wp2_with (go_at_call 77; refine (refnext_any _ _ hs hx _).mono ?_; rintro e w' ⟨rfl, rfl⟩)
      go_round
      case rel => exact ⟨k + 1, by omega, by go_num, by rw [HT.out]⟩
      case measure => simp [intOf]; omega
    · have HK := Lib.hid (show k = l.length from by have := hlen.out; omega)
      have hx := u32_xor_nat (Crc.run 4294967295 (l.take k)) 4294967295 hs (by omega)
      have HX := Lib.hid hx
      clear hx
      go_wp2
      go_ret
      exact ⟨ret_int (by
        refine Eq.trans HX.out ?_
        rw [HK.out, List.take_length]; rfl), rfl⟩
end Go.Proofs.Ytlfkgpllleogoaa

namespace Go.Proofs.Ytlfkgpllleogoaa
set_option linter.unusedVariables false
theorem bulk_one {H : Type} (d : DataW H) : 1 ≤ Rows.uptoBulk d := by
  cases d with
  | lit l => cases l <;> simp [Rows.uptoBulk]
  | nil => simp [Rows.uptoBulk]
  | ptr d => simp [Rows.uptoBulk]
  | slice elems spare => simp [Rows.uptoBulk]
  | agg parts => simp [Rows.uptoBulk]
  | iface t d => simp [Rows.uptoBulk]
  | map entries => simp [Rows.uptoBulk]
  | held h => simp [Rows.uptoBulk]
theorem bulk_part {H : Type} {d : DataW H} {l : List (DataW H)} (h : d ∈ l) : Rows.uptoBulk d ≤ Rows.uptoBulkAll l := by
  induction l with
  | nil => cases h
  | cons x r ih =>
    rw [Rows.uptoBulkAll]
    rcases List.mem_cons.1 h with e | e
    · rw [e]; exact Nat.le_add_right _ _
    · exact Nat.le_trans (ih e) (Nat.le_add_left _ _)
theorem bulk_agg {H : Type} {d : DataW H} {l : List (DataW H)} (h : d ∈ l) : Rows.uptoBulk d ≤ Rows.uptoBulk (.agg l) := by
  rw [Rows.uptoBulk]; exact Nat.le_trans (bulk_part h) (Nat.le_add_right _ _)
theorem bulk_len {H : Type} (l : List (DataW H)) : l.length ≤ Rows.uptoBulkAll l := by
  induction l with
  | nil => exact Nat.zero_le _
  | cons x r ih => have := bulk_one x; rw [Rows.uptoBulkAll, List.length_cons]; omega
theorem bulk_slen {H : Type} (d : DataW H) : slen d ≤ Rows.uptoBulk d := by
  cases d with
  | slice e s => have := bulk_len e; rw [Rows.uptoBulk]; simp only [slen]; omega
  | _ => exact Nat.zero_le _
/-- the rows of a message's entry are no longer than its bulk -/
theorem LongG.le {H : Type} {d : DataW H} {m : Mg} (h : LongG d m) : m.ent.c.key.length ≤ Rows.uptoBulk d ∧ m.ent.c.val.length ≤ Rows.uptoBulk d ∧ m.ent.c.old.length ≤ Rows.uptoBulk d := by
  obtain ⟨xs, p0, p1, c0, c1, dk, dv, dd, rfl, hm, h1, h2, h3⟩ := h
  have e1 := bulk_agg hm
  have e2 : Rows.uptoBulk (DataW.agg [c0, c1, dk, dv, dd]) ≤ Rows.uptoBulk (DataW.agg [p0, p1, .agg [c0, c1, dk, dv, dd]]) := bulk_agg (by simp)
  have k1 := bulk_agg (show dk ∈ [c0, c1, dk, dv, dd] by simp)
  have k2 := bulk_agg (show dv ∈ [c0, c1, dk, dv, dd] by simp)
  have k3 := bulk_agg (show dd ∈ [c0, c1, dk, dv, dd] by simp)
  have s1 := bulk_slen dk
  have s2 := bulk_slen dv
  have s3 := bulk_slen dd
  exact ⟨by omega, by omega, by omega⟩
theorem LongG.small {H : Type} {d : DataW H} {m : Mg} {l : List (DataW H)} (h : LongG d m) (hd : d ∈ l) (hk : Rows.uptoSmall H l = true) : m.ent.c.key.length ≤ 1048576 ∧ m.ent.c.val.length ≤ 1048576 ∧ m.ent.c.old.length ≤ 1048576 := by
  have hb : Rows.uptoBulkAll l ≤ 1048576 := of_decide_eq_true hk
  have h1 := bulk_part hd
  obtain ⟨k1, k2, k3⟩ := h.le
  exact ⟨by omega, by omega, by omega⟩
end Go.Proofs.Ytlfkgpllleogoaa

