/- MesgSt MesgRow MesgAwake -/
import Derived.Test.YtlfkgpllleogoaaMT01
import Derived.Test.YtlfkgpllleogoaaMT25
import Derived.Laws.CopyOwn
import Derived.ArgAppend
import Derived.OwnWalk
namespace Go.Proofs.Ytlfkgpllleogoaa
open Go.RowKit
set_option linter.unusedVariables false
/-- a writer along the way: the variables g, g + 1; all within bounds so far (ok), laid X -/
structure WaSt (W wx : World) (b g : Nat) (cs : Array Value) (ok : Bool) (X : List Nat) (d : Nat) : Prop where
  ex : ∃ L f, WrAt W wx b L f ∧ f = !ok ∧ (ok = true → L = X) ∧ L.length ≤ d
  blk : Blk wx g 29 cs
  res : Blk wx (g + 1) 29 msgZ
  hb : b < g
  hg : W.heap.size ≤ g
section
variable {W wx wy : World} {b g d i : Nat} {cs : Array Value} {ok : Bool} {X : List Nat} {u : Value}
theorem WaSt.bel (h : WaSt W wx b g cs ok X d) : Below W.heap.size W wx := by
  obtain ⟨L, f, ⟨_, _, _, _, q, _⟩, _⟩ := h.ex
  exact q
theorem WaSt.step {L : List Nat} {f : Bool} {ok' : Bool} {Y : List Nat} {d' : Nat} (hb : b < g) (hg : W.heap.size ≤ g) (h1 : f = !ok) (h2 : ok = true → L = X) (h3 : L.length ≤ d) (hk : Blk wx g 29 cs) (hr : Blk wx (g + 1) 29 msgZ) (h : WrP W wx b L f ok' Y d' wy) : WaSt W wy b g cs (ok && ok') (X ++ Y) (d + d') := by
  obtain ⟨L', f', k1, k2, k3, k4, k5⟩ := h
  refine ⟨⟨L', f', k1, ?_, fun hok => ?_, by omega⟩, hk.grown k2 (by simp; omega), hr.grown k2 (by simp; omega), hb, hg⟩
  · rw [k3, h1]; cases ok <;> cases ok' <;> rfl
  · rw [Bool.and_eq_true] at hok
    rw [k4 (by rw [k3, h1, hok.1, hok.2]; rfl), h2 hok.1]
theorem WaSt.put (h : WaSt W wx b g cs ok X d) (i : Nat) (u : Value) : WaSt W (wx.setCell ⟨g, i, none⟩ u) b g (cs.setIfInBounds i u) ok X d := by
  obtain ⟨L, f, k1, k2, k3, k4⟩ := h.ex
  exact ⟨⟨L, f, k1.set h.blk (by decide) (by have := h.hb; omega) h.hg, k2, k3, k4⟩, h.blk.set_ i u, h.res.set_other (by omega), h.hb, h.hg⟩
theorem WaSt.num (h : WaSt W wx b g cs ok X d) (hd : d ≤ 10000) (z most : Int) : Calls Try.prog 101 #[.pointer (some ⟨b, 0, none⟩), .int .i64 z, .int .i64 most] wx fun e w' => e = .returned (.int .i64 (if wi most z then z else 0)) ∧ WaSt W w' b g cs (ok && wi most z) (X ++ eI z) (d + 9) := by
  obtain ⟨L, f, k1, k2, k3, k4⟩ := h.ex
  exact (wnum_any k1 (by omega) z most).mono fun e w' ⟨q1, q2⟩ => ⟨q1, WaSt.step h.hb h.hg k2 k3 k4 h.blk h.res q2⟩
theorem WaSt.flag (h : WaSt W wx b g cs ok X d) (hd : d ≤ 10000) (x : Bool) : Calls Try.prog 67 #[.iface 62 (.pointer (some ⟨b, 0, none⟩)), .bool x] wx fun e w' => e = .returned (.bool x) ∧ WaSt W w' b g cs (ok && true) (X ++ eI (if x = true then 1 else 0)) (d + 9) := by
  obtain ⟨L, f, k1, k2, k3, k4⟩ := h.ex
  exact (wflag_any k1 (by omega) x).mono fun e w' ⟨q1, q2⟩ => ⟨q1, WaSt.step h.hb h.hg k2 k3 k4 h.blk h.res q2⟩
theorem WaSt.data {A' : Option Addr} {c' : Nat} {x : List Nat} (h : WaSt W wx b g cs ok X d) (hd : d ≤ 10000) (hr : Rd W W.heap.size A' x.length (bv x)) (most : Int) (hm : most ≤ 100) : Calls Try.prog 99 #[.pointer (some ⟨b, 0, none⟩), .slice A' x.length c', .int .i64 most] wx fun e w' => (∃ A n c, e = .returned (.slice A n c)) ∧ WaSt W w' b g cs (ok && decide ((x.length : Int) ≤ most)) (X ++ Pk.encB x) (d + 109) := by
  have hbel := h.bel
  obtain ⟨L, f, k1, k2, k3, k4⟩ := h.ex
  exact (wdata_any k1 (by omega) (hr.below hbel) most hm).mono fun e w' ⟨q1, q2⟩ => ⟨q1, WaSt.step h.hb h.hg k2 k3 k4 h.blk h.res q2⟩
theorem WaSt.nums {A' : Option Addr} {c' : Nat} {l : List Int} (h : WaSt W wx b g cs ok X d) (hd : d ≤ 10000) (hr : Rd W W.heap.size A' l.length (iv l)) (hc : l.length ≤ c' ∧ c' ≤ maxLen) (most : Nat) (hm : most ≤ 8) : Calls Try.prog 102 #[.pointer (some ⟨b, 0, none⟩), .slice A' l.length c', .int .i64 (most : Int)] wx fun e w' => (∃ A n c, e = .returned (.slice A n c)) ∧ WaSt W w' b g cs (ok && wis most l) (X ++ (encN l.length ++ Pk.encs l)) (d + 100) := by
  obtain ⟨L, f, k1, k2, k3, k4⟩ := h.ex
  exact (wnums_any k1 (by omega) hr hc most hm).mono fun e w' ⟨q1, q2⟩ => ⟨q1, WaSt.step h.hb h.hg k2 k3 k4 h.blk h.res q2⟩
theorem WaSt.entry {ca : CA} {e : En} (h : WaSt W wx b g cs ok X d) (hd : d ≤ 10000) (hc : e.c.Wide) (hr : RdC W W.heap.size ca e.c) : Calls Try.prog 100 #[.pointer (some ⟨b, 0, none⟩), entV ca e] wx fun en w' => (∃ ca' e', en = .returned (entV ca' e')) ∧ WaSt W w' b g cs (ok && e.ok) (X ++ e.enc) (d + 200) := by
  obtain ⟨L, f, k1, k2, k3, k4⟩ := h.ex
  exact (wentry_any k1 (by omega) hc hr).mono fun e w' ⟨q1, q2⟩ => ⟨q1, WaSt.step h.hb h.hg k2 k3 k4 h.blk h.res q2⟩
end
/-- a reader along the way -/
structure RaSt (w wx : World) (b g : Nat) (cs : Array Value) (s : Pk.St) : Prop where
  r : RgSt w wx b s
  blk : Blk wx g 29 cs
  res : Blk wx (g + 1) 29 msgZ
  hb : b < w.heap.size
  hg : w.heap.size ≤ g
section
variable {w wx wy : World} {b g i : Nat} {cs : Array Value} {s : Pk.St} {u : Value}
theorem RaSt.step {s' : Pk.St} (h : RaSt w wx b g cs s) (hr : RdrAt wy b s') (ho : Only b wx wy) : RaSt w wy b g cs s' :=
  ⟨h.r.call hr ho, h.blk.grown ho (by have := h.hb; have := h.hg; simp; omega), h.res.grown ho (by have := h.hb; have := h.hg; simp; omega), h.hb, h.hg⟩
theorem RaSt.put (h : RaSt w wx b g cs s) (i : Nat) (u : Value) : RaSt w (wx.setCell ⟨g, i, none⟩ u) b g (cs.setIfInBounds i u) s :=
  ⟨h.r.set h.blk (by decide) (by decide) h.hg, h.blk.set_ i u, h.res.set_other (by omega), h.hb, h.hg⟩
theorem RaSt.num (h : RaSt w wx b g cs s) (z most : Int) {v : Nat} {s' : Pk.St} (hv : Pk.numV s most = v) (hs : Pk.numS s most = s') : Calls Try.prog 111 #[.agg #[.pointer (some ⟨b, 0, none⟩)], .int .i64 z, .int .i64 most] wx fun e w' => e = .returned (.int .i64 (v : Int)) ∧ RaSt w w' b g cs s' ∧ Only b wx w' :=
  (rnum11_any wx b s z most h.r.r hv hs).mono fun e w' ⟨q1, q2, q3⟩ => ⟨q1, h.step q2 q3, q3⟩
theorem RaSt.flag (h : RaSt w wx b g cs s) (x : Bool) {v : Nat} {s' : Pk.St} (hv : Pk.numV s 1 = v) (hs : Pk.numS s 1 = s') : Calls Try.prog 67 #[.iface 72 (.agg #[.pointer (some ⟨b, 0, none⟩)]), .bool x] wx fun e w' => e = .returned (.bool (decide (v = 1))) ∧ RaSt w w' b g cs s' ∧ Only b wx w' :=
  (rflag_any wx b s x h.r.r hv hs).mono fun e w' ⟨q1, q2, q3⟩ => ⟨q1, h.step q2 q3, q3⟩
theorem RaSt.data (h : RaSt w wx b g cs s) (A0 : Option Addr) (n0 c0 : Nat) (most : Int) {v : List Nat} {s' : Pk.St} (hv : Pk.bytV s most = v) (hs : Pk.bytS s most = s') : Calls Try.prog 109 #[.agg #[.pointer (some ⟨b, 0, none⟩)], .slice A0 n0 c0, .int .i64 most] wx fun e w' => ∃ A c, e = .returned (.slice A v.length c) ∧ OwnB w w' A v.length c v ∧ RaSt w w' b g cs s' ∧ Only b wx w' :=
  (rdata11_any wx b s A0 n0 c0 most h.r.r hv hs).mono fun e w' ⟨A, c, q1, q2, q3, q4⟩ => ⟨A, c, q1, own_of h.r.size q2, h.step q3 q4, q4⟩
theorem RaSt.nums (h : RaSt w wx b g cs s) (A0 : Option Addr) (n0 c0 : Nat) {most : Int} (hm0 : 0 ≤ most) (hm : most ≤ 100) {R : List Int} {s' : Pk.St} (hR : (stF most s).1 = R) (hs' : (stF most s).2 = s') : Calls Try.prog 112 #[.agg #[.pointer (some ⟨b, 0, none⟩)], .slice A0 n0 c0, .int .i64 most] wx fun e w' => ∃ A c, e = .returned (.slice A R.length c) ∧ OwnI w w' A R.length c R ∧ RaSt w w' b g cs s' ∧ Only b wx w' :=
  (rnums11_any wx b s A0 n0 c0 hm0 hm h.r.r hR hs').mono fun e w' ⟨A, c, q1, q2, q3, q4⟩ => ⟨A, c, q1, own_of h.r.size q2, h.step q3 q4, q4⟩
theorem RaSt.entry (h : RaSt w wx b g cs s) (ca : CA) (e0 : En) {e : En} {s' : Pk.St} (hv : En.read s = e) (hs : (En.get s).2 = s') : Calls Try.prog 110 #[.agg #[.pointer (some ⟨b, 0, none⟩)], entV ca e0] wx fun en w' => ∃ ca, en = .returned (entV ca e) ∧ OwnC w w' ca e.c ∧ RaSt w w' b g cs s' ∧ Only b wx w' :=
  (rentry11_any wx b s ca e0 h.r.r hv hs).mono fun e w' ⟨ca, q1, q2, q3, q4⟩ => ⟨ca, q1, q2.of h.r.size, h.step q3 q4, q4⟩
theorem OwnG.old {a : GA} {m : Mg} {row : Option Nat} (h : OwnG w wx a m) (hg : wx.grownBy wy row) (ho : Old w row) : OwnG w wy a m := ⟨own_old h.d hg ho, own_old h.h hg ho, own_old h.n hg ho, h.c.old hg ho⟩
end
end Go.Proofs.Ytlfkgpllleogoaa

namespace Go.Proofs.Ytlfkgpllleogoaa
open Go.RowKit
set_option linter.unusedVariables false
section
variable {W w wx : World} {b g k : Nat} {t e : TypeId} {old cs c : Array Value}
theorem only_row (w : World) (g : Nat) (cs : Array Value) : Only g w (w.setRow g cs) :=
  ⟨rfl, rfl, rfl, by simp, fun k hk hne => setRow_other w g k cs (by rintro rfl; exact hne rfl)⟩
theorem Blk.row (h : Blk w g t old) (cs : Array Value) : Blk (w.setRow g cs) g t cs := setRow_heap w g old cs t (0, 0) h
theorem Blk.row_other (h : Blk w k t c) (hne : k ≠ g) (cs : Array Value) : Blk (w.setRow g cs) k t c := (setRow_other w g k cs hne).trans h
theorem own_row_t {base size n : Nat} {v : Value} {xs : List Value} (h : w.ownsRow base e size v n xs) (hb : Blk w b t old) (hne : e ≠ t) : (w.setRow b cs).ownsRow base e size v n xs := by
  refine h.kept (only_row w b cs) ?_
  rcases h.2 with ⟨h1, _⟩ | ⟨g, cap, cur, h1, _, hh, _⟩
  · rw [h1]; exact .inl rfl
  · rw [h1]
    refine .inr ?_
    show some g ≠ some b
    intro h0
    injection h0 with h0
    subst h0
    have hb' : w.heap[g]? = some (.cells old t (0, 0)) := hb
    rw [hb'] at hh
    injection hh with hh
    injection hh with _ h3 _
    exact hne h3.symm
theorem WrAt.row {L : List Nat} {f : Bool} (h : WrAt W w b L f) (hk : Blk w g t old) (h1 : 5 ≠ t) (hne : b ≠ g) (hg : W.heap.size ≤ g) : WrAt W (w.setRow g cs) b L f := by
  obtain ⟨A, c, k1, k2, k3, k4⟩ := h
  exact ⟨A, c, k1.row_other hne cs, own_row_t k2 hk h1, below_setRow k3 hg cs, k4⟩
theorem RgSt.rowS {s : Pk.St} (h : RgSt w wx b s) (hk : Blk wx g t old) (h1 : 5 ≠ t) (h2 : 101 ≠ t) (hg : w.heap.size ≤ g) : RgSt w (wx.setRow g cs) b s := by
  obtain ⟨A, n, c, hb, q1, q2, q3, q4, q5⟩ := h.r
  exact ⟨⟨A, n, c, hb.row_other (hb.apart hk h2) cs, q1, q2, q3, q4.grown (only_row wx g cs) hk h1, q5⟩, only_below h.only (below_setRow (Below.refl w.heap.size wx) hg cs) (Nat.le_refl _)⟩
theorem OwnG.rowS {a : GA} {m : Mg} (h : OwnG w wx a m) (hk : Blk wx g t old) (h1 : 5 ≠ t) (h2 : 3 ≠ t) : OwnG w (wx.setRow g cs) a m :=
  ⟨own_row_t h.d hk h1, own_row_t h.h hk h2, own_row_t h.n hk h2, ⟨own_row_t h.c.k hk h1, own_row_t h.c.v hk h1, own_row_t h.c.o hk h1⟩⟩
theorem WaSt.rowS {ok : Bool} {X : List Nat} {d : Nat} (h : WaSt W wx b g cs ok X d) (c : Array Value) : ∃ L f, WrAt W (wx.setRow (g + 1) c) b L f ∧ f = !ok ∧ (ok = true → L = X) := by
  obtain ⟨L, f, k1, k2, k3, k4⟩ := h.ex
  exact ⟨L, f, k1.row h.res (by decide) (by have := h.hb; omega) (by have := h.hg; omega), k2, k3⟩
theorem RaSt.rowS {a : GA} {m : Mg} {s : Pk.St} (h : RaSt w wx b g cs s) (ho : OwnG w wx a m) (c : Array Value) : RgSt w (wx.setRow (g + 1) c) b s ∧ OwnG w (wx.setRow (g + 1) c) a m :=
  ⟨h.r.rowS h.res (by decide) (by decide) (by have := h.hg; omega), ho.rowS h.res (by decide) (by decide)⟩
end
end Go.Proofs.Ytlfkgpllleogoaa

namespace Go.Proofs.Ytlfkgpllleogoaa
open Go.RowKit
set_option linter.unusedVariables false
namespace mesgA
def M1 : Mg := { Mg.zero with kind := 7, frm := 1, dst := 2, view := 300, hop := 4, seq := 5, hav := [5, 4], nee := [5] }
def M7 : Mg := { Mg.zero with kind := 1, frm := 7 }
theorem e1 : M1.enc = [7, 1, 2, 172, 2, 4, 5, 2, 5, 4, 1, 5] := by decide +kernel
theorem d1 : Mg.dec [7, 1, 2, 172, 2, 4, 5, 2, 5, 4, 1, 5] = some M1 := by decide +kernel
theorem d2 : Mg.dec ([7, 1, 2, 172, 2, 4, 5, 2, 5, 4, 1, 5] ++ [0]) = none := by decide +kernel
theorem e0 : Mg.zero.enc = [] := by decide +kernel
theorem e7 : M7.enc = [] := by decide +kernel
theorem n1 : decide (M1 = Mg.zero) = false := by decide +kernel
theorem w1 : M1.Wide := ⟨⟨by decide, by decide⟩, by decide, by decide, Cm.Fits.zero.wide⟩
theorem w7 : M7.Wide := ⟨⟨by decide, by decide⟩, by decide, by decide, Cm.Fits.zero.wide⟩
end mesgA
/-- a load of a whole block, where it is asked for -/
theorem wpList_load_rowG {P : Program} {ops : Array Oper} {rest : List Oper} {o : Oper} {a : Act} {w : World} {Q : Exit → Act → World → Prop} (hw : Region.wanted o (yielded ops a.tmps) = true) (ty : TypeId) (x : Operand) (ho : o.op = .load ty x)
    (g : Nat) (hx : a.eval x = .pointer (some ⟨g, 0, none⟩)) (t : TypeId) (cs : Array Value) (fr : Nat × Nat) (d : TypeDesc) (hg : w.heap[g]? = some (.cells cs t fr))
    (hu : P.underlying ty = some d) (hd : (match d with | .struct _ | .array _ _ => true | _ => false) = true) (hi : (P.info? ty).map (·.size) = some cs.size)
    (h : wpList P ops Q rest (a.put o.dst (.agg cs)) w) : wpList P ops Q (o :: rest) a w := by
  unfold wpList
  rw [if_pos hw]
  exact Or.inl (wp_load_row ty x ho g hx t cs fr d hg hu hd hi h)
set_option maxRecDepth 100000 in
/-- append of one byte; the row that it came of stays -/
theorem wpList_append_keep {W w : World} {ops : Array Oper} {rest : List Oper} {o : Oper} {a : Act} {Q : Exit → Act → World → Prop} (hg : o.guard = none) (s x : Operand)
    (ho : o.op = .call { callee := .builtin .append, args := #[s, x], argTypes := #[22, 22] })
    {A : Option Addr} {n c : Nat} {l : List Nat} (hs : a.eval s = .slice A n c) (hown : OwnB W w A n c l) {k y : Nat} (hx : a.eval x = .slice (some ⟨k, 0, none⟩) 1 1) (hr : w.cell? ⟨k, 0, none⟩ = some (.int .u8 (y : Int))) (hn : n ≤ 1000000) (hB : Below W.heap.size W w)
    (h : ∀ A2 c2 w2, OwnB W w2 A2 (n + 1) c2 (l ++ [y]) → Rd w2 w2.heap.size A n (bv l) → Below W.heap.size W w2 → w.grownBy w2 (Value.slice A n c).ownBlock → wpList Try.prog ops Q rest (a.put o.dst (.slice A2 (n + 1) c2)) w2) : wpList Try.prog ops Q (o :: rest) a w := by
  have hln := own_len hown
  have hbv : bv (l ++ [y]) = bv l ++ [.int .u8 (y : Int)] := by simp [bv]
  have hnew : ∀ j u, ([.int .u8 (y : Int)] : List Value)[j]? = some u → w.cell? ((⟨k, 0, none⟩ : Addr).add j) = some u := by
    intro j u hu
    cases j with
    | zero => simp at hu; subst hu; simpa [Addr.add] using hr
    | succ j => simp at hu
  obtain ⟨ht, hz, hu⟩ := cellB
  cases hi : Try.prog.info? 5 with
  | none => rw [hi] at hz; cases hz
  | some i =>
  rw [hi] at hz
  have hz' : i.zero = some (.int .u8 0) ∧ i.size = 1 ∧ i.bytes = 1 := by simpa using hz
  by_cases hfit : n + 1 ≤ c
  · rcases hown.2 with ⟨h1, _⟩ | ⟨g, cap, cur, h1, hrest⟩
    · injection h1 with h1 h2 h3; omega
    · have h1' : Value.slice A n c = .slice (some ⟨g, 0, none⟩) n cap := h1
      injection h1' with e1 e2 e3
      subst e1 e3
      refine wpList_append_fits (P := Try.prog) w hg s x 22 ho W.heap.size 5 i 1 ht hi hz'.2.1 g n c (bv l) hs hown ⟨k, 0, none⟩ 1 1 [.int .u8 (y : Int)] hx rfl hnew (by intro u hu; simp at hu; subst hu; rfl) hfit ?_
      intro w' r1 r2
      have r1' : OwnB W w' (some ⟨g, 0, none⟩) (n + 1) c (l ++ [y]) := by unfold OwnB; rw [hbv]; exact r1
      refine h (some ⟨g, 0, none⟩) c w' r1' ?_ (hB.grown r2 hB.size (fun k hk => (hown.lt k hk).1)) r2
      have q := Rd.own_ r1'
      refine ⟨by rw [bv_length]; exact hln, fun hn0 => ?_⟩
      obtain ⟨b', o', q1, q2, q3⟩ := q.2 (by omega)
      refine ⟨b', o', q1, q2, fun i hi => ?_⟩
      rw [q3 i (by omega), hbv, List.getElem?_append_left (by rw [bv_length]; omega)]
  · have hA : A = none → n = 0 ∧ c = 0 := by
      intro hA
      rcases hown.2 with ⟨h1, _⟩ | ⟨g, cap, cur, h1, _⟩
      · injection h1 with h1 h2 h3; exact ⟨h2, h3⟩
      · have h1' : Value.slice A n c = .slice (some ⟨g, 0, none⟩) n cap := h1
        injection h1' with e1; rw [hA] at e1; cases e1
    refine wpList_append_grows (P := Try.prog) w hg s x 22 ho 5 i (.int .u8 0) 1 1 ht hi hz'.1 hz'.2.1 hz'.2.2 rfl (by omega) A n c (bv l) hs hA (by rw [bv_length, hln]; omega) ?_ ⟨k, 0, none⟩ 1 1 [.int .u8 (y : Int)] hx rfl hnew (by intro u hu; simp at hu; subst hu; rfl) (by omega) (by unfold maxLen; omega) (by omega) ?_
    · intro b hb j u hj
      obtain ⟨b', o', q1, q2, q3⟩ := (Rd.own_ hown).2 (by have := (List.getElem?_eq_some_iff.1 hj).1; rw [bv_length] at this; omega)
      rw [hb] at q1; injection q1 with q1; subst q1
      have := q3 j (by have := (List.getElem?_eq_some_iff.1 hj).1; rw [bv_length] at this; omega)
      rw [hj] at this
      have e : (⟨b', o', none⟩ : Addr).add j = ⟨b', o' + j, none⟩ := by unfold Addr.add; split <;> simp_all
      rw [e]; exact this
    · intro v' w' r1 r2
      have hbw : Below w.heap.size w w' := ⟨r2.os, r2.tape, r2.output, r2.size, fun i hi => r2.block i hi (by simp)⟩
      rcases r1.2 with ⟨h1, h2⟩ | ⟨g, cap, cur, h1, hrest⟩
      · exfalso; simp at h2
      · subst h1
        have r1' : OwnB w w' (some ⟨g, 0, none⟩) (n + 1) cap (l ++ [y]) := by unfold OwnB; rw [hbv]; exact r1
        exact h (some ⟨g, 0, none⟩) cap w' (own_of hB.size r1') ((Rd.own_ hown).below hbw).fit (hB.trans (hbw.mono hB.size)) ⟨r2.os, r2.tape, r2.output, r2.size, fun i hi _ => r2.block i hi (by simp)⟩
end Go.Proofs.Ytlfkgpllleogoaa

