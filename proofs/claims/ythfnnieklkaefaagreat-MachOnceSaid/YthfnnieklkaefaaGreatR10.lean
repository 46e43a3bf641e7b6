/- MachRef InPlaceKit FifoWalks ObjsCopy LockC0 LockWalks LockWalks2 -/
import Derived.Test.YthfnnieklkaefaaGreatR01
import Derived.Test.YthfnnieklkaefaaGreatR02
import Derived.Test.YthfnnieklkaefaaGreatR03
import Derived.Test.YthfnnieklkaefaaGreatR05
import Derived.Test.YthfnnieklkaefaaGreatR07
import Derived.Test.YthfnnieklkaefaaGreatR08
import Derived.Test.YthfnnieklkaefaaGreatR09
import Derived.Laws.CopyRow
import Derived.Deep.DeepCutAuto
import Derived.Deep.RegionLaw
import Derived.Deep.RegionWith
namespace Go.Proofs.YthfnnieklkaefaaGreat
open Go.RowKit
set_option linter.unusedVariables false
/-- the variables of a step: the machine, the entry, the two answers' -/
structure VarsM (w wx : World) (b : Nat) (a : MA) (m : Mc) (ca : CA) (e : En) : Prop where
  v0 : Blk wx b 37 (machC a m)
  v1 : Blk wx (b + 1) 28 (entC ca e)
  v2 : Blk wx (b + 1 + 1) 37 #[.slice none 0 0, .slice none 0 0, .slice none 0 0, .slice none 0 0, .slice none 0 0]
  v3 : Blk wx (b + 1 + 1 + 1) 40 #[.int .i64 0, .slice none 0 0, .int .i64 0]
  rm : RdM wx w.heap.size a m
  rc : RdC wx w.heap.size ca e.c
  bel : Below w.heap.size w wx
theorem VarsM.below {w wx wy : World} {b : Nat} {a : MA} {m : Mc} {ca : CA} {e : En} (h : VarsM w wx b a m ca e) (hb : Below wx.heap.size wx wy) : VarsM w wy b a m ca e :=
  have hw : Below w.heap.size wx wy := hb.mono h.bel.size
  ⟨h.v0.below hb, h.v1.below hb, h.v2.below hb, h.v3.below hb, h.rm.below hw, h.rc.below hw, h.bel.trans hw⟩
theorem VarsM.start {w : World} {a : MA} {m : Mc} {ca : CA} {e : En} {B B' : Nat} (h : RdM w B a m) (h' : RdC w B' ca e.c) :
    VarsM w ((((w.alloc (.cells (machC a m) 37)).alloc (.cells (entC ca e) 28)).alloc (.cells #[.slice none 0 0, .slice none 0 0, .slice none 0 0, .slice none 0 0, .slice none 0 0] 37)).alloc (.cells #[.int .i64 0, .slice none 0 0, .int .i64 0] 40)) w.heap.size a m ca e := by
  have b1 : Below w.heap.size w (w.alloc (.cells (machC a m) 37)) := (Below.refl _ _).alloc (Nat.le_refl _) _
  have b2 := b1.alloc b1.size (.cells (entC ca e) 28)
  have b3 := b2.alloc b2.size (.cells #[.slice none 0 0, .slice none 0 0, .slice none 0 0, .slice none 0 0, .slice none 0 0] 37)
  have b4 := b3.alloc b3.size (.cells #[.int .i64 0, .slice none 0 0, .int .i64 0] 40)
  refine ⟨(((Blk.new w _ _).alloc _).alloc _).alloc _, ?_, ?_, ?_, h.fit.below b4, h'.fit.below b4, b4⟩
  · have := ((Blk.new (w.alloc (.cells (machC a m) 37)) 28 (entC ca e)).alloc (.cells #[.slice none 0 0, .slice none 0 0, .slice none 0 0, .slice none 0 0, .slice none 0 0] 37)).alloc (.cells #[.int .i64 0, .slice none 0 0, .int .i64 0] 40)
    rwa [World.size_alloc] at this
  · have := (Blk.new ((w.alloc (.cells (machC a m) 37)).alloc (.cells (entC ca e) 28)) 37 #[.slice none 0 0, .slice none 0 0, .slice none 0 0, .slice none 0 0, .slice none 0 0]).alloc (.cells #[.int .i64 0, .slice none 0 0, .int .i64 0] 40)
    rwa [World.size_alloc, World.size_alloc] at this
  · have := Blk.new (((w.alloc (.cells (machC a m) 37)).alloc (.cells (entC ca e) 28)).alloc (.cells #[.slice none 0 0, .slice none 0 0, .slice none 0 0, .slice none 0 0, .slice none 0 0] 37)) 40 #[.int .i64 0, .slice none 0 0, .int .i64 0]
    rwa [World.size_alloc, World.size_alloc, World.size_alloc] at this
/-- what a walk reads of them -/
theorem VarsM.cells {w wx : World} {b : Nat} {a : MA} {m : Mc} {ca : CA} {e : En} (h : VarsM w wx b a m ca e) :
    (wx.cell? ⟨b, 0, none⟩ = some (.slice a.o.A0 m.o.reg.length a.o.c0) ∧ wx.cell? ⟨b, 1, none⟩ = some (.slice a.o.A1 m.o.q.length a.o.c1) ∧ wx.cell? ⟨b, 2, none⟩ = some (.slice a.o.A2 m.o.lk.length a.o.c2) ∧ wx.cell? ⟨b, 3, none⟩ = some (.slice a.o.A3 m.o.mp.length a.o.c3) ∧ wx.cell? ⟨b, 4, none⟩ = some (.slice a.At m.t.length a.ct)) ∧
    (wx.cell? ⟨b + 1, 0, none⟩ = some (.int .i64 e.s) ∧ wx.cell? ⟨b + 1, 1, none⟩ = some (.int .i64 e.q) ∧ wx.cell? ⟨b + 1, 2, none⟩ = some (.int .i64 e.c.kind) ∧ wx.cell? ⟨b + 1, 3, none⟩ = some (.int .i64 e.c.who) ∧ wx.cell? ⟨b + 1, 4, none⟩ = some (.slice ca.Ak e.c.key.length ca.ck) ∧ wx.cell? ⟨b + 1, 5, none⟩ = some (.slice ca.Av e.c.val.length ca.cv) ∧ wx.cell? ⟨b + 1, 6, none⟩ = some (.slice ca.Ao e.c.old.length ca.co)) ∧
    (wx.frozen? ⟨b + 1 + 1, 0, none⟩ = false ∧ wx.frozen? ⟨b + 1 + 1, 1, none⟩ = false ∧ wx.frozen? ⟨b + 1 + 1, 2, none⟩ = false ∧ wx.frozen? ⟨b + 1 + 1, 3, none⟩ = false ∧ wx.frozen? ⟨b + 1 + 1, 4, none⟩ = false) ∧
    (wx.frozen? ⟨b + 1 + 1 + 1, 0, none⟩ = false ∧ wx.frozen? ⟨b + 1 + 1 + 1, 1, none⟩ = false ∧ wx.frozen? ⟨b + 1 + 1 + 1, 2, none⟩ = false) ∧
    (wx.cell? ⟨b + 1 + 1, 0, none⟩ = some (.slice none 0 0) ∧ wx.cell? ⟨b + 1 + 1, 1, none⟩ = some (.slice none 0 0) ∧ wx.cell? ⟨b + 1 + 1, 2, none⟩ = some (.slice none 0 0) ∧ wx.cell? ⟨b + 1 + 1, 3, none⟩ = some (.slice none 0 0) ∧ wx.cell? ⟨b + 1 + 1, 4, none⟩ = some (.slice none 0 0)) ∧
    (wx.cell? ⟨b + 1 + 1 + 1, 0, none⟩ = some (.int .i64 0) ∧ wx.cell? ⟨b + 1 + 1 + 1, 1, none⟩ = some (.slice none 0 0) ∧ wx.cell? ⟨b + 1 + 1 + 1, 2, none⟩ = some (.int .i64 0)) :=
  ⟨five (t := 37) h.v0, seven h.v1, five_frozen h.v2, ⟨h.v3.frozen 0, h.v3.frozen 1, h.v3.frozen 2⟩, five h.v2, ⟨h.v3.cell 0, h.v3.cell 1, h.v3.cell 2⟩⟩
/-- the two answers' variables are written -/
theorem VarsM.end_ {w wx : World} {b : Nat} {a : MA} {m : Mc} {ca : CA} {e : En} (h : VarsM w wx b a m ca e) (hw : w.heap.size ≤ b) {r : MAns} {a' : MA} {A : Option Addr} {c : Nat} (ho : OwnM w wx a' r.m) (hv : OwnB w wx A r.v.length c r.v)
    (x0 x1 x2 x3 x4 y0 y1 y2 : Value) (hx : #[x0, x1, x2, x3, x4] = machC a' r.m) (hy : #[y0, y1, y2] = #[.int .i64 r.e, .slice A r.v.length c, .int .i64 r.n]) {en : Ending} (he : en = .returned (.tuple #[.agg #[x0, x1, x2, x3, x4], .agg #[y0, y1, y2]])) :
    let wy := ((((((((wx.setCell ⟨b + 1 + 1, 0, none⟩ x0).setCell ⟨b + 1 + 1, 1, none⟩ x1).setCell ⟨b + 1 + 1, 2, none⟩ x2).setCell ⟨b + 1 + 1, 3, none⟩ x3).setCell ⟨b + 1 + 1, 4, none⟩ x4).setCell ⟨b + 1 + 1 + 1, 0, none⟩ y0).setCell ⟨b + 1 + 1 + 1, 1, none⟩ y1).setCell ⟨b + 1 + 1 + 1, 2, none⟩ y2)
    Blk wy (b + 1 + 1) 37 #[x0, x1, x2, x3, x4] ∧ Blk wy (b + 1 + 1 + 1) 40 #[y0, y1, y2] ∧ GotM w w r en wy := by
  intro wy
  obtain ⟨k1, k2, k3, k4, k5⟩ := put5 h.v2 x0 x1 x2 x3 x4
  have l0 := k5 (b + 1 + 1 + 1) _ _ (by omega) h.v3
  obtain ⟨l1, l2, l3⟩ := put3 l0 y0 y1 y2
  have q := k3 w a' r.m ho (by decide) (by decide) (by decide) (by decide) (by decide)
  have q2 := k4 _ _ _ _ _ _ hv (by decide)
  have hbel := l2 w (by omega) (k2 w (by omega) h.bel)
  refine ⟨((k1.set_other (by omega)).set_other (by omega)).set_other (by omega), l1, a', A, c, ?_, ?_, l3 _ _ _ _ _ _ q2 (by decide), hbel, hbel⟩
  · rw [he, hx, hy]; rfl
  · exact ((q.set_t l0 (by decide) (by decide) (by decide) (by decide) (by decide)).set_t (l0.set_ _ _) (by decide) (by decide) (by decide) (by decide) (by decide)).set_t ((l0.set_ _ _).set_ _ _) (by decide) (by decide) (by decide) (by decide) (by decide)
theorem VarsM.set {w wx : World} {b g i : Nat} {u : Value} {a : MA} {m : Mc} {ca : CA} {e : En} (h : VarsM w wx b a m ca e) (hw : w.heap.size ≤ b) (hg : b + 1 + 1 + 1 < g) : VarsM w (wx.setCell ⟨g, i, none⟩ u) b a m ca e :=
  have hb : Below w.heap.size wx (wx.setCell ⟨g, i, none⟩ u) := (Below.refl _ _).setCell (p := ⟨g, i, none⟩) (by show w.heap.size ≤ g; omega) u
  ⟨h.v0.set_other (by omega), h.v1.set_other (by omega), h.v2.set_other (by omega), h.v3.set_other (by omega), h.rm.below hb, h.rc.below hb, h.bel.trans hb⟩
/-- what a region reads, wherever its operations stand -/
def SM (b g h : Nat) (mc ec rc oc : Array Value) (w' : World) : Prop := Blk w' b 37 mc ∧ Blk w' (b + 1) 28 ec ∧ Blk w' g 40 rc ∧ Blk w' h 34 oc
theorem SM.below {b g h : Nat} {mc ec rc oc : Array Value} {w w' : World} (hs : SM b g h mc ec rc oc w) (hb : Below w.heap.size w w') : SM b g h mc ec rc oc w' := ⟨hs.1.below hb, hs.2.1.below hb, hs.2.2.1.below hb, hs.2.2.2.below hb⟩
theorem SM.set {b g h k i : Nat} {u : Value} {mc ec rc oc : Array Value} {w : World} (hs : SM b g h mc ec rc oc w) (h1 : b ≠ k) (h2 : b + 1 ≠ k) (h3 : g ≠ k) (h4 : h ≠ k) : SM b g h mc ec rc oc (w.setCell ⟨k, i, none⟩ u) := ⟨hs.1.set_other h1, hs.2.1.set_other h2, hs.2.2.1.set_other h3, hs.2.2.2.set_other h4⟩
theorem SM.set5 {b g h k : Nat} {u0 u1 u2 u3 u4 : Value} {mc ec rc oc : Array Value} {w : World} (hs : SM b g h mc ec rc oc w) (h1 : b ≠ k) (h2 : b + 1 ≠ k) (h3 : g ≠ k) (h4 : h ≠ k) : SM b g h mc ec rc oc (((((w.setCell ⟨k, 0, none⟩ u0).setCell ⟨k, 1, none⟩ u1).setCell ⟨k, 2, none⟩ u2).setCell ⟨k, 3, none⟩ u3).setCell ⟨k, 4, none⟩ u4) := ((((hs.set h1 h2 h3 h4).set h1 h2 h3 h4).set h1 h2 h3 h4).set h1 h2 h3 h4).set h1 h2 h3 h4
theorem SM.set3 {b g h k : Nat} {u0 u1 u2 : Value} {mc ec rc oc : Array Value} {w : World} (hs : SM b g h mc ec rc oc w) (h1 : b ≠ k) (h2 : b + 1 ≠ k) (h3 : g ≠ k) (h4 : h ≠ k) : SM b g h mc ec rc oc (((w.setCell ⟨k, 0, none⟩ u0).setCell ⟨k, 1, none⟩ u1).setCell ⟨k, 2, none⟩ u2) := ((hs.set h1 h2 h3 h4).set h1 h2 h3 h4).set h1 h2 h3 h4
end Go.Proofs.YthfnnieklkaefaaGreat

namespace Go.Proofs.YthfnnieklkaefaaGreat
open Go.RowKit
set_option linter.unusedVariables false
theorem adr_add (g o j : Nat) : (⟨g, o, none⟩ : Addr).add j = ⟨g, o + j, none⟩ := by unfold Addr.add; split <;> simp_all
section
variable {P : Program} {t e : TypeId} {z : Value} {size bytes : Nat}
/-- what a slice that reads holds, at its address -/
theorem Rd.news {w : World} {B n : Nat} {A : Option Addr} {vs : List Value} (h : Rd w B A n vs) (hn : 0 < n) : ∃ a, A = some a ∧ ∀ j u, vs[j]? = some u → w.cell? (a.add j) = some u := by
  obtain ⟨b, o, rfl, _, hc⟩ := h.2 hn
  refine ⟨_, rfl, fun j u hu => ?_⟩
  have hj : j < n := by have := (List.getElem?_eq_some_iff.1 hu).1; rw [h.1] at this; exact this
  rw [adr_add, hc j hj, hu]
/-- append in place, as one step of a region that draws -/
theorem step_append_fits {W w : World} (hT : CellS P t e z size bytes) {ops : Array Oper} {o : Oper} {a : Act} {K : Act → World → Prop} {Q : Exit → Act → World → Prop} {E : Prop} (s x : Operand)
    (ho : o.op = .call { callee := .builtin .append, args := #[s, x], argTypes := #[t, t] }) (hg : o.guard = none)
    {g n c : Nat} {vs : List Value} (hs : a.eval s = .slice (some ⟨g, 0, none⟩) n c) (hown : w.ownsRow W.heap.size e size (.slice (some ⟨g, 0, none⟩) n c) n vs)
    {B : Nat} {A' : Option Addr} {m c' : Nat} {ws : List Value} (hx : a.eval x = .slice A' m c') (hr : Rd w B A' (m * size) ws) (h1 : ∀ u ∈ ws, u.oneCell' = true) (hm : 0 < m) (hroom : n + m ≤ c) (hB : Below W.heap.size W w)
    (h : ∀ w2, w2.ownsRow W.heap.size e size (.slice (some ⟨g, 0, none⟩) (n + m) c) (n + m) (vs ++ ws) → Below W.heap.size W w2 → w.grownBy w2 (some g) → K (a.put o.dst (.slice (some ⟨g, 0, none⟩) (n + m) c)) w2) :
    if Region.wanted o (yielded ops a.tmps) = true then Oper.wp P o a w K Q else E := by
  have hw : Region.wanted o (yielded ops a.tmps) = true := by simp [Region.wanted, hg]
  rw [if_pos hw]
  obtain ⟨i, hi, hz, hsz, hbi⟩ := info_parts hT.info
  obtain ⟨ad, rfl, hnews⟩ := hr.news (Nat.mul_pos hm hT.pos)
  obtain ⟨w', hrun, h2, h3⟩ := run_append_fits (P := P) w W.heap.size t o.type e i size hT.under hi hsz g n c vs hown ad m c' ws hr.1 hnews h1 hroom
  have hlt := hown.lt
  have hB2 : Below W.heap.size W w' := hB.grown h3 hB.size (fun k hk => (hlt k hk).1)
  have hgo := h w' h2 hB2 h3
  unfold Oper.wp execOp
  simp only [ho, resolve, invoke, builtin, Sem.run_bind, Sem.run_pure, Result.andThen_ok, List.map_toArray, List.map_cons, List.map_nil, hs, hx, hrun]
  exact hgo
theorem wpList_append_fits {W w : World} (hT : CellS P t e z size bytes) {ops : Array Oper} {rest : List Oper} {o : Oper} {a : Act} {Q : Exit → Act → World → Prop} (s x : Operand)
    (ho : o.op = .call { callee := .builtin .append, args := #[s, x], argTypes := #[t, t] }) (hw : Region.wanted o (yielded ops a.tmps) = true)
    {g n c : Nat} {vs : List Value} (hs : a.eval s = .slice (some ⟨g, 0, none⟩) n c) (hown : w.ownsRow W.heap.size e size (.slice (some ⟨g, 0, none⟩) n c) n vs)
    {B : Nat} {A' : Option Addr} {m c' : Nat} {ws : List Value} (hx : a.eval x = .slice A' m c') (hr : Rd w B A' (m * size) ws) (h1 : ∀ u ∈ ws, u.oneCell' = true) (hm : 0 < m) (hroom : n + m ≤ c) (hB : Below W.heap.size W w)
    (h : ∀ w2, w2.ownsRow W.heap.size e size (.slice (some ⟨g, 0, none⟩) (n + m) c) (n + m) (vs ++ ws) → Below W.heap.size W w2 → w.grownBy w2 (some g) → wpList P ops Q rest (a.put o.dst (.slice (some ⟨g, 0, none⟩) (n + m) c)) w2) :
    wpList P ops Q (o :: rest) a w := by
  obtain ⟨i, hi, hz, hsz, hbi⟩ := info_parts hT.info
  obtain ⟨ad, rfl, hnews⟩ := hr.news (Nat.mul_pos hm hT.pos)
  obtain ⟨w', hrun, h2, h3⟩ := run_append_fits (P := P) w W.heap.size t o.type e i size hT.under hi hsz g n c vs hown ad m c' ws hr.1 hnews h1 hroom
  have hlt := hown.lt
  have hB2 : Below W.heap.size W w' := hB.grown h3 hB.size (fun k hk => (hlt k hk).1)
  have hgo := h w' h2 hB2 h3
  unfold wpList
  rw [if_pos hw]
  refine Or.inl ?_
  unfold Oper.wp execOp
  simp only [ho, resolve, invoke, builtin, Sem.run_bind, Sem.run_pure, Result.andThen_ok, List.map_toArray, List.map_cons, List.map_nil, hs, hx, hrun]
  exact hgo
end
/-- a row of the call's own, some of whose cells are written over -/
theorem own_written {w : World} {base g n c size n' : Nat} {e : TypeId} {vs vs' : List Value} (h : w.ownsRow base e size (.slice (some ⟨g, 0, none⟩) n c) n vs) (cs : Array Value) (hcs : cs.size = c * size) (hn : n' ≤ c) (hl : vs'.length = n' * size) (ht : cs.toList.take (n' * size) = vs') :
    (w.setRow g cs).ownsRow base e size (.slice (some ⟨g, 0, none⟩) n' c) n' vs' ∧ w.grownBy (w.setRow g cs) (some g) := by
  rcases h.2 with ⟨h1, _⟩ | ⟨g', cap, cur, hv, hb, hh, hnc, hm, hs, htk⟩
  · simp at h1
  · simp only [Value.slice.injEq, Option.some.injEq, Addr.mk.injEq, and_true, true_and] at hv
    obtain ⟨rfl, rfl⟩ := hv
    exact ⟨⟨hl, .inr ⟨g, c, cs, rfl, hb, setRow_heap w g cur _ e _ hh, hn, hm, hcs, ht⟩⟩, ⟨rfl, rfl, rfl, by simp, fun k _ hk => setRow_other w g k _ (fun e => hk (by simp [e]))⟩⟩
theorem own_cur {w : World} {base g n c size : Nat} {e : TypeId} {vs : List Value} (h : w.ownsRow base e size (.slice (some ⟨g, 0, none⟩) n c) n vs) : ∃ cur, Blk w g e cur ∧ cur.size = c * size ∧ cur.toList.take (n * size) = vs ∧ n ≤ c ∧ base ≤ g := by
  rcases h.2 with ⟨h1, _⟩ | ⟨g', cap, cur, hv, hb, hh, hnc, hm, hs, htk⟩
  · simp at h1
  · simp only [Value.slice.injEq, Option.some.injEq, Addr.mk.injEq, and_true, true_and] at hv
    obtain ⟨rfl, rfl⟩ := hv
    exact ⟨cur, hh, hs, htk, hnc, hb⟩
/-- copy into a block that is known -/
theorem run_copy_blk {P : Program} (w : World) (dT sT ty elem : TypeId) (g o dLen dCap : Nat) (a : Addr) (sLen sCap : Nat) (cur : Array Value) (t : TypeId) (cs : List Value) (size m : Nat)
    (hu : P.underlying dT = some (.slice elem)) (hs : (P.info? elem).map (·.size) = some size)
    (hg : Blk w g t cur) (hm : m = Nat.min sLen dLen) (hn : cs.length = m * size)
    (hsrc : ∀ j v, cs[j]? = some v → w.cell? (a.add j) = some v) (hfit : o + cs.length ≤ cur.size) (h1 : ∀ v ∈ cs, v.oneCell' = true) :
    (Builtin.copy_ #[dT, sT] ty #[.slice (some ⟨g, o, none⟩) dLen dCap, .slice (some a) sLen sCap]).run P w =
      .ok (.int .i64 (m : Int)) (w.setRow g (cur.toList.take o ++ cs ++ cur.toList.drop (o + cs.length)).toArray) := by
  have hl := run_loadCells_list (P := P) w a cs hsrc
  have hst := run_storeCells_at P g o t cs 0 cur w hg (by simpa using hfit) h1
  cases hq : P.info? elem with
  | none => simp [hq] at hs
  | some i =>
    have hi : i.size = size := by simpa [hq] using hs
    rw [hn] at hl
    simp only [Nat.add_zero] at hst
    simp [Builtin.copy_, run_underlying hu, Builtin.lenOf, Builtin.firstCells, sizeOf, typeInfo, hq, hi, ← hm, hl, hst, goInt]
/-- clear of one element -/
theorem run_clear_one {P : Program} (w : World) (t ty e : TypeId) (i : TypeInfo) (z : Value) (ht : P.underlying t = some (.slice e)) (hi : P.info? e = some i) (hz : i.zero = some z) (h1 : ∀ u ∈ z.cells.toList, u.oneCell' = true)
    (g o c : Nat) (cur : Array Value) (hg : Blk w g e cur) (hfit : o + z.cells.size ≤ cur.size) :
    (Builtin.clear_ #[t] ty #[.slice (some ⟨g, o, none⟩) 1 c]).run P w = .ok (.tuple #[]) (w.setRow g (cur.toList.take o ++ z.cells.toList ++ cur.toList.drop (o + z.cells.size)).toArray) := by
  have hzc : (Builtin.zeroCells z.cells 1).toList = z.cells.toList := by
    unfold Builtin.zeroCells
    apply List.ext_getElem?
    intro j
    rcases Nat.lt_or_ge j z.cells.size with hj | hj
    · simp [hj, Nat.mod_eq_of_lt hj]
    · simp [hj]
  have hst := run_storeCells_at P g o e z.cells.toList 0 cur w hg (by simpa using hfit) h1
  simp only [Nat.add_zero] at hst
  simp [Builtin.clear_, run_underlying ht, zeroValue, typeInfo, hi, hz, hzc, hst]
end Go.Proofs.YthfnnieklkaefaaGreat

namespace Go.Proofs.YthfnnieklkaefaaGreat
open Go.RowKit
set_option linter.unusedVariables false
theorem Blk.far {w w' : World} {g n c base' size' : Nat} {t e' : TypeId} {cs : Array Value} {A' : Option Addr} {xs' : List Value} (h : Blk w g t cs) (ho : w.ownsRow base' e' size' (.slice A' n c) n xs') (hne : t ≠ e') (hg : w.grownBy w' (Value.slice A' n c).ownBlock) : Blk w' g t cs := by
  refine h.grown hg ?_
  rcases own_blk ho with ⟨q1, _, _⟩ | ⟨g', cur', q1, _, hk'⟩
  · rw [q1]; intro h0; cases h0
  · rw [q1]; intro h0
    have h3 : g = g' := by simpa [Value.ownBlock] using h0
    exact Blk.apart h hk' hne h3
set_option maxRecDepth 100000 in
theorem copied_raw (qs : List (List Nat)) (A : Option Addr) (n c B : Nat) (hn : n ≤ 100000) (hL : LimL qs) (w : World) (hr : RdQ w B A n qs) :
    Calls Tryz.prog 144 #[.slice A n c] w (GotQ w w qs) := by
  have HL := Lib.hid hL
  have HR := Lib.hid hr.fit
  have hlen := hr.length
  obtain ⟨i0, hi0, hi1, hi2, hi3⟩ := info_parts cellQ.info
  clear hr hL
  go_enter Tryz.func144, Tryz.ntmps144
  go_wp2_with (first
    | (at_make
       refine wpList_make_own w rfl _ _ 31 rfl w.heap.size 24 i0 _ 1 Tryz.underlying31 hi0 hi1 hi2 _ _ _ (n + 1) rfl rfl (by push_cast; rfl) (by rw [hi3]; omega) (by unfold maxLen; omega) (Nat.le_refl _) ?_
       intro w0 hown0 hg0)
    | fail)
  go_loopw [3, 12] (fun s3 s12 wr => ∃ (k c' : Nat) (A' : Option Addr), k ≤ n ∧ s12 = .int .i64 (k : Int) ∧ s3 = .slice A' k c' ∧ Hid (OwnQ w wr A' k c' (qs.take k)) ∧ Hid (Below w.heap.size w wr)) (fun _ s12 _ => n - (intOf s12).toNat)
  case atStart => exact ⟨0, _, _, Nat.zero_le _, rfl, rfl, Lib.hid ⟨[], hown0, by simpa using Owns.nil w w0⟩, Lib.hid ((Below.refl _ _).grown hg0 (Nat.le_refl _) (fun k hk => by cases hk))⟩
  case round =>
    obtain ⟨k, c', A', hk, rfl, rfl, HO, HB⟩ := hrel
    by_cases hlt : k < n
    · obtain ⟨b, o, l, A1, c1, rfl, hl, hcell, hrd⟩ := (HR.out.below HB.out).at hlt
      have hll : Lim 0 l.length := HL.out l (List.mem_of_getElem? hl)
      have HRD := Lib.hid hrd
      have HLL := Lib.hid hl
      clear hrd hl
      go_wp2_with (first
        | (go_at_call 69; refine (clone_any (W := w) hll HRD.out HB.out).mono ?_; rintro e w1 ⟨A2, c2, rfl, ho2, hB2, hb2⟩; obtain ⟨vs, hv1, hv2⟩ := HO.out.below hb2)
        | (at_builtin
           refine wpList_append_cells (W := w) cellQ (.tmp 16) (.tmp 19) rfl (by rfl) rfl (ownsRow_below hv1 ((Below.refl _ _).alloc (Nat.le_refl _) _)) rfl (Rd.oneV _ _ _) (by intro u hu; simp at hu; subst hu; rfl) (by omega) (by omega) (hB2.alloc hB2.size _) ?_
           intro A3 c3 w3 hown3 hB3 hg3)
        | fail)
      go_roundw
      case rel =>
        refine ⟨k + 1, c3, A3, by omega, by go_num, rfl, Lib.hid ?_, Lib.hid hB3⟩
        have b1 : Below w1.heap.size w1 (w1.alloc (.cells #[.slice A2 l.length c2] 24)) := (Below.refl _ _).alloc (Nat.le_refl _) _
        refine ⟨vs ++ [.slice A2 l.length c2], hown3, ?_⟩
        rw [List.take_add_one, HLL.out]
        exact ((hv2.snoc ho2).below b1).grown (ownsRow_below hv1 b1) hg3
      case measure => simp only [intOf]; omega
    · obtain rfl : k = n := by omega
      go_wp2_with fail
      go_ret
      have HO2 := HO.out
      rw [List.take_of_length_le (by omega)] at HO2
      subst hlen
      exact ⟨A', c', rfl, HO2, HB.out, HB.out⟩
theorem copied_any {W w : World} {qs : List (List Nat)} {A : Option Addr} {n c B : Nat} (hn : n ≤ 100000) (hL : LimL qs) (hr : RdQ w B A n qs) (hB : Below W.heap.size W w) :
    Calls Tryz.prog 144 #[.slice A n c] w (GotQ W w qs) :=
  (copied_raw qs A n c B hn hL w hr).mono fun e w' h => GotQ.of hB h
set_option maxRecDepth 100000 in
theorem push_raw {w : World} {qs : List (List Nat)} {v : List Nat} {A A' : Option Addr} {n c n' c' B B' : Nat} (hn : n ≤ 100000) (hL : LimL qs) (hn' : Lim 0 n') (hr : RdQ w B A n qs) (hr' : Rd w B' A' n' (bv v)) :
    Calls Tryz.prog 91 #[.slice A n c, .slice A' n' c'] w (GotQR w w (pushS qs v) (pushE qs v) [] (pushN qs v)) := by
  have hB := Below.refl w.heap.size w
  have HL := Lib.hid hL
  have HR := Lib.hid hr.fit
  have HR' := Lib.hid hr'.fit
  obtain rfl := hr.length
  obtain rfl := hr'.length
  have b0 : Below w.heap.size w (w.alloc (.cells zeroR 40)) := (Below.refl _ _).alloc (Nat.le_refl _) _
  clear hr hr' hL
  unfold pushS pushE pushN
  by_cases hlt : 16 < v.length
  · rw [if_pos hlt, if_pos hlt, if_pos hlt]
    go_enter Tryz.func91, Tryz.ntmps91
    go_wp2_with (first
      | (go_at_call 144; refine (copied_any (W := w) hn HL.out (HR.out.below b0) (hB.alloc hB.size _)).mono ?_; rintro e w1 ⟨A1, c1, rfl, ho1, hB1, hb1⟩; have HK := Lib.hid ((Blk.new w 40 zeroR).below hb1); obtain ⟨x0, x1, x2, f0, f1, f2⟩ := three HK.out)
      | fail)
    obtain ⟨k1, k2, k3⟩ := put3 HK.out (.int .i64 1) (.slice none 0 0) (.int .i64 0)
    have hbw : Below w.heap.size w w1 := b0.trans (hb1.mono (by simp))
    refine bodyPost_ret (results_tmp_cell_row rfl _ _ _ _ _ _ rfl k1 Tryz.underlying40 rfl (by kernel_rfl)) rfl ?_
    exact ⟨A1, c1, none, 0, rfl, ho1.put3 HK.out (by decide) (by decide) _ _ _, own_nil _ _, k2 w (Nat.le_refl _) hB1, k2 w (Nat.le_refl _) hbw⟩
  · rw [if_neg hlt, if_neg hlt, if_neg hlt]
    by_cases hf : 8 ≤ qs.length
    · rw [if_pos hf, if_pos hf, if_pos hf]
      go_enter Tryz.func91, Tryz.ntmps91
      go_wp2_with (first
        | (go_at_call 144; refine (copied_any (W := w) hn HL.out (HR.out.below b0) (hB.alloc hB.size _)).mono ?_; rintro e w1 ⟨A1, c1, rfl, ho1, hB1, hb1⟩; have HK := Lib.hid ((Blk.new w 40 zeroR).below hb1); obtain ⟨x0, x1, x2, f0, f1, f2⟩ := three HK.out)
        | fail)
      obtain ⟨k1, k2, k3⟩ := put3 HK.out (.int .i64 3) (.slice none 0 0) (.int .i64 0)
      have hbw : Below w.heap.size w w1 := b0.trans (hb1.mono (by simp))
      refine bodyPost_ret (results_tmp_cell_row rfl _ _ _ _ _ _ rfl k1 Tryz.underlying40 rfl (by kernel_rfl)) rfl ?_
      exact ⟨A1, c1, none, 0, rfl, ho1.put3 HK.out (by decide) (by decide) _ _ _, own_nil _ _, k2 w (Nat.le_refl _) hB1, k2 w (Nat.le_refl _) hbw⟩
    · rw [if_neg hf, if_neg hf, if_neg hf]
      go_enter Tryz.func91, Tryz.ntmps91
      go_wp2_with (first
        | (go_at_call 144; refine (copied_any (W := w) hn HL.out (HR.out.below b0) (hB.alloc hB.size _)).mono ?_; rintro e w1 ⟨A1, c1, rfl, ho1, hB1, hb1⟩; have hbw : Below w.heap.size w w1 := b0.trans (hb1.mono (by simp)))
        | (go_at_call 69; refine (clone_any (W := w) hn' (HR'.out.below hbw) hB1).mono ?_; rintro e w2 ⟨A2, c2, rfl, ho2, hB2, hb2⟩; obtain ⟨vs, hv1, hv2⟩ := ho1.below hb2)
        | (at_builtin
           refine wpList_append_cells (W := w) cellQ (.tmp 19) (.tmp 22) rfl (by rfl) rfl (ownsRow_below hv1 ((Below.refl _ _).alloc (Nat.le_refl _) _)) rfl (Rd.oneV _ _ _) (by intro u hu; simp at hu; subst hu; rfl) (by omega) (by omega) (hB2.alloc hB2.size _) ?_
           intro A3 c3 w3 hown3 hB3 hg3
           have b1 : Below w2.heap.size w2 (w2.alloc (.cells #[.slice A2 v.length c2] 24)) := (Below.refl _ _).alloc (Nat.le_refl _) _
           have HQ : Hid (OwnQ w w3 A3 (qs.length + 1) c3 (qs ++ [v])) := Lib.hid ⟨vs ++ [.slice A2 v.length c2], hown3, ((hv2.snoc ho2).below b1).grown (ownsRow_below hv1 b1) hg3⟩
           have HK := Lib.hid (((((Blk.new w 40 zeroR).below hb1).below hb2).alloc (.cells #[.slice A2 v.length c2] 24)).far (ownsRow_below hv1 b1) (by decide) hg3)
           obtain ⟨x0, x1, x2, f0, f1, f2⟩ := three HK.out
           have HB3 := Lib.hid hB3
           clear hown3 hB3)
        | fail)
      obtain ⟨k1, k2, k3⟩ := put3 HK.out (.int .i64 0) (.slice none 0 0) (.int .i64 ((qs.length : Int) + 1))
      refine bodyPost_ret (results_tmp_cell_row rfl _ _ _ _ _ _ rfl k1 Tryz.underlying40 rfl (by kernel_rfl)) rfl ?_
      have e : (qs ++ [v]).length = qs.length + 1 := by simp
      have h3 := k2 w (Nat.le_refl _) HB3.out
      exact ⟨A3, c3, none, 0, by rw [e]; rfl, by rw [e]; exact HQ.out.put3 HK.out (by decide) (by decide) _ _ _, own_nil _ _, h3, h3⟩
theorem push_any {W w : World} {qs : List (List Nat)} {v : List Nat} {A A' : Option Addr} {n c n' c' B B' : Nat} (hn : n ≤ 100000) (hL : LimL qs) (hn' : Lim 0 n') (hr : RdQ w B A n qs) (hr' : Rd w B' A' n' (bv v)) (hB : Below W.heap.size W w) :
    Calls Tryz.prog 91 #[.slice A n c, .slice A' n' c'] w (GotQR W w (pushS qs v) (pushE qs v) [] (pushN qs v)) :=
  (push_raw hn hL hn' hr hr').mono fun e w' h => GotQR.of hB h
set_option maxHeartbeats 2000000 in
set_option maxRecDepth 100000 in
theorem pop_raw {w : World} {qs : List (List Nat)} {A : Option Addr} {n c B : Nat} (hn : n ≤ 100000) (hc : n ≤ c) (hL : LimL qs) (hr : RdQ w B A n qs) :
    Calls Tryz.prog 92 #[.slice A n c] w (GotQR w w qs.tail (popE qs) (popV qs) 0) := by
  have hB := Below.refl w.heap.size w
  have HL := Lib.hid hL
  have HR := Lib.hid hr.fit
  obtain rfl := hr.length
  have b0 : Below w.heap.size w (w.alloc (.cells zeroR 40)) := (Below.refl _ _).alloc (Nat.le_refl _) _
  clear hr hL
  unfold popE popV
  rcases Nat.eq_zero_or_pos qs.length with h0 | h0
  · have hq : qs = [] := List.eq_nil_of_length_eq_zero h0
    subst hq
    rw [if_pos h0]
    clear h0
    go_enter Tryz.func92, Tryz.ntmps92
    go_wp2_with fail
    refine bodyPost_ret (results_tmp_cell_row rfl _ _ _ _ _ _ rfl (Blk.new w 40 #[.int .i64 4, .slice none 0 0, .int .i64 0]) Tryz.underlying40 rfl (by kernel_rfl)) rfl ?_
    have h3 : Below w.heap.size w (w.alloc (.cells #[.int .i64 4, .slice none 0 0, .int .i64 0] 40)) := (Below.refl _ _).alloc (Nat.le_refl _) _
    exact ⟨none, 0, none, 0, rfl, OwnQ.nil _ _, own_nil _ _, h3, h3⟩
  · have hq0 : ¬ qs.length = 0 := by omega
    rw [if_neg hq0]
    have hne : ((qs.length : Int) == 0) = false := by rw [beq_eq_false_iff_ne]; omega
    obtain ⟨b, o, l, A1, c1, rfl, hl, hcell, hrd⟩ := HR.out.at h0
    have hll : Lim 0 l.length := HL.out l (List.mem_of_getElem? hl)
    have hv : qs.head?.getD [] = l := by rw [List.head?_eq_getElem?, hl]; rfl
    rw [hv]
    have HRD := Lib.hid hrd
    have HL1 : Hid (LimL qs.tail) := Lib.hid (fun x hx => HL.out x (List.mem_of_mem_tail hx))
    have HR1 : Hid (RdQ w w.heap.size (cutAt (some ⟨b, o, none⟩) c 1) (qs.length - 1) qs.tail) := Lib.hid (by have := HR.out.drop (k := 1) (c := c) (by omega) hc; rwa [List.drop_one] at this)
    have htl : qs.tail.length = qs.length - 1 := by simp
    obtain ⟨i0, hi0, _, hi1, _⟩ := info_parts cellQ.info
    have esl : ∀ w : World, (Instr.slice 31 (.slice (some ⟨b, o, none⟩) qs.length c) (some (.int .i64 1)) none none).run Tryz.prog w = .ok (.slice (cutAt (some ⟨b, o, none⟩) c 1) (qs.length - 1) (c - 1)) w :=
      fun w => run_slice_from (P := Tryz.prog) Tryz.underlying31 hi0 hi1 (some ⟨b, o, none⟩) qs.length c 1 (by omega) w
    go_enter Tryz.func92, Tryz.ntmps92
    rw [Nat.add_zero] at hcell
    have hlt := World.block_lt_of_cell? w _ hcell
    have hcl : ∀ w' : World, Below w.heap.size w w' → w'.cell? ⟨b, o, none⟩ = some (.slice A1 l.length c1) := fun w' h => (h.cell (p := ⟨b, o, none⟩) hlt).trans hcell
    have HC := Lib.hid hcl
    have HKb := Lib.hid (Blk.new w 40 zeroR)
    have hc0 := hcl _ b0
    clear hcl hcell hrd hv hlt hi0 hi1
    go_upto_region 3 with fail
    go_region_with (first
      | (go_at_call 144; refine (copied_any (W := w) (n := qs.length - 1) (by omega) HL1.out (by first | exact HR1.out.below b0.drew | exact HR1.out.below hBO) (by first | exact b0.drew | exact hBO)).mono ?_; rintro e wR ⟨AR, cR, rfl, hoR, hBR, hbR⟩
         have HKb := Lib.hid (show Blk wR w.heap.size 40 zeroR by first | exact HKb.out.drew.below hbR | exact HKb.out.below hbR)
         have hcR := HC.out _ hBR
         obtain ⟨x0, x1, x2, f0, f1, f2⟩ := three HKb.out)
      | (go_at_call 69; refine (clone_any (W := w) hll (by first | exact HRD.out.below b0.drew | exact HRD.out.below hBR) (by first | exact b0.drew | exact hBR)).mono ?_; rintro e wO ⟨AO, cO, rfl, hoO, hBO, hbO⟩
         have HKb := Lib.hid (show Blk wO w.heap.size 40 zeroR by first | exact HKb.out.drew.below hbO | exact HKb.out.below hbO)
         have hcO := HC.out _ hBO
         obtain ⟨x0, x1, x2, f0, f1, f2⟩ := three HKb.out))
    all_goals go_wp2
    all_goals
      obtain ⟨k1, k2, k3⟩ := put3 HKb.out (.int .i64 0) (.slice AO l.length cO) (.int .i64 0)
      refine bodyPost_ret (results_tmp_cell_row rfl _ _ _ _ _ _ rfl k1 Tryz.underlying40 rfl (by kernel_rfl)) rfl ?_
      have h3 := k2 w (Nat.le_refl _) hBO
      exact ⟨AR, cR, AO, cO, by rw [htl]; rfl, (hoR.below hbO).put3 HKb.out (by decide) (by decide) _ _ _, k3 _ _ _ _ _ _ hoO (by decide), h3, h3⟩
theorem pop_any {W w : World} {qs : List (List Nat)} {A : Option Addr} {n c B : Nat} (hn : n ≤ 100000) (hc : n ≤ c) (hL : LimL qs) (hr : RdQ w B A n qs) (hB : Below W.heap.size W w) :
    Calls Tryz.prog 92 #[.slice A n c] w (GotQR W w qs.tail (popE qs) (popV qs) 0) :=
  (pop_raw hn hc hL hr).mono fun e w' h => GotQR.of hB h
end Go.Proofs.YthfnnieklkaefaaGreat

namespace Go.Proofs.YthfnnieklkaefaaGreat
open Go.RowKit
set_option linter.unusedVariables false
set_option maxHeartbeats 1000000 in
set_option maxRecDepth 100000 in
theorem eachQ_raw (qs : List (List Nat)) (A : Option Addr) (n c B : Nat) (hn : n ≤ 100000) (hL : LimL qs) (w : World) (hr : RdQ w B A n qs) :
    Calls Tryz.prog 138 #[.slice A n c, .func (.func 69) #[] #[]] w (GotQ w w qs) := by
  have HL := Lib.hid hL
  have HR := Lib.hid hr.fit
  have hlen := hr.length
  obtain ⟨i0, hi0, hi1, hi2, hi3⟩ := info_parts cellQ.info
  clear hr hL
  go_enter Tryz.func138, Tryz.ntmps138
  go_wp2_with (first
    | (at_make
       refine wpList_make_own w rfl _ _ 31 rfl w.heap.size 24 i0 _ 1 Tryz.underlying31 hi0 hi1 hi2 _ _ _ n rfl rfl rfl (by rw [hi3]; omega) (by unfold maxLen; omega) (Nat.le_refl _) ?_
       intro w0 hown0 hg0)
    | fail)
  go_loopw [5, 7, 13] (fun s5 _ s13 wr => ∃ (k c' : Nat) (A' : Option Addr), k ≤ n ∧ s13 = .int .i64 (k : Int) ∧ s5 = .slice A' k c' ∧ Hid (OwnQ w wr A' k c' (qs.take k)) ∧ Hid (Below w.heap.size w wr)) (fun _ _ s13 _ => n - (intOf s13).toNat)
  case atStart => exact ⟨0, _, _, Nat.zero_le _, rfl, rfl, Lib.hid ⟨[], hown0, by simpa using Owns.nil w w0⟩, Lib.hid ((Below.refl _ _).grown hg0 (Nat.le_refl _) (fun k hk => by cases hk))⟩
  case round =>
    obtain ⟨k, c', A', hk, rfl, rfl, HO, HB⟩ := hrel
    by_cases hlt : k < n
    · obtain ⟨b, o, l, A1, c1, rfl, hl, hcell, hrd⟩ := (HR.out.below HB.out).at hlt
      have hll : Lim 0 l.length := HL.out l (List.mem_of_getElem? hl)
      have HRD := Lib.hid hrd
      have HLL := Lib.hid hl
      clear hrd hl
      go_wp2_with (first
        | (go_at_call 69; refine (clone_any (W := w) hll HRD.out HB.out).mono ?_; rintro e w1 ⟨A2, c2, rfl, ho2, hB2, hb2⟩; obtain ⟨vs, hv1, hv2⟩ := HO.out.below hb2)
        | (at_builtin
           refine wpList_append_cells (W := w) cellQ (.tmp 17) (.tmp 21) rfl (by rfl) rfl (ownsRow_below hv1 ((Below.refl _ _).alloc (Nat.le_refl _) _)) rfl (Rd.oneV _ _ _) (by intro u hu; simp at hu; subst hu; rfl) (by omega) (by omega) (hB2.alloc hB2.size _) ?_
           intro A3 c3 w3 hown3 hB3 hg3)
        | fail)
      go_roundw
      case rel =>
        refine ⟨k + 1, c3, A3, by omega, by go_num, rfl, Lib.hid ?_, Lib.hid hB3⟩
        have b1 : Below w1.heap.size w1 (w1.alloc (.cells #[.slice A2 l.length c2] 24)) := (Below.refl _ _).alloc (Nat.le_refl _) _
        refine ⟨vs ++ [.slice A2 l.length c2], hown3, ?_⟩
        rw [List.take_add_one, HLL.out]
        exact ((hv2.snoc ho2).below b1).grown (ownsRow_below hv1 b1) hg3
      case measure => simp only [intOf]; omega
    · obtain rfl : k = n := by omega
      go_wp2_with fail
      go_ret
      have HO2 := HO.out
      rw [List.take_of_length_le (by omega)] at HO2
      subst hlen
      exact ⟨A', c', rfl, HO2, HB.out, HB.out⟩
theorem eachQ_any {W w : World} {qs : List (List Nat)} {A : Option Addr} {n c B : Nat} (hn : n ≤ 100000) (hL : LimL qs) (hr : RdQ w B A n qs) (hB : Below W.heap.size W w) :
    Calls Tryz.prog 138 #[.slice A n c, .func (.func 69) #[] #[]] w (GotQ W w qs) :=
  (eachQ_raw qs A n c B hn hL w hr).mono fun e w' h => GotQ.of hB h
/-- a pair of the call's own -/
def GotPair (W w : World) (p : Pr) (e : Ending) (w' : World) : Prop := ∃ A1 c1 A2 c2, e = .returned (.agg #[.slice A1 p.1.length c1, .slice A2 p.2.length c2]) ∧ OwnB W w' A1 p.1.length c1 p.1 ∧ OwnB W w' A2 p.2.length c2 p.2 ∧ Below W.heap.size W w' ∧ Below w.heap.size w w'
set_option maxHeartbeats 2000000 in
set_option maxRecDepth 100000 in
theorem pairCopied_raw (w : World) {A1 A2 : Option Addr} {c1 c2 B : Nat} {p : Pr} (hl1 : Lim 0 p.1.length) (hl2 : Lim 0 p.2.length) (h1 : Rd w B A1 p.1.length (bv p.1)) (h2 : Rd w B A2 p.2.length (bv p.2)) :
    Calls Tryz.prog 141 #[.agg #[.slice A1 p.1.length c1, .slice A2 p.2.length c2]] w (GotPair w w p) := by
  obtain ⟨g, hg⟩ : ∃ g, w.heap.size = g := ⟨_, rfl⟩
  obtain ⟨wz, hwz⟩ : ∃ wz, (w.alloc (.cells #[.slice A1 p.1.length c1, .slice A2 p.2.length c2] 86)).alloc (.cells #[.slice none 0 0, .slice none 0 0] 86) = wz := ⟨_, rfl⟩
  have hbz : Below w.heap.size w wz := by rw [← hwz]; exact ((Below.refl _ _).alloc (Nat.le_refl _) _).alloc (by simp) _
  have HR1 := Lib.hid (h1.fit.below hbz).fit
  have HR2 := Lib.hid (h2.fit.below hbz).fit
  have HBZ := Lib.hid hbz
  have HW := Lib.hid hwz
  have HG := Lib.hid hg
  have HV : Hid (Blk wz g 86 #[.slice A1 p.1.length c1, .slice A2 p.2.length c2] ∧ Blk wz (g + 1) 86 #[.slice none 0 0, .slice none 0 0]) := Lib.hid (by
    subst hg
    rw [← hwz]
    refine ⟨(Blk.new _ _ _).alloc _, ?_⟩
    have := Blk.new (w.alloc (.cells #[.slice A1 p.1.length c1, .slice A2 p.2.length c2] 86)) 86 #[.slice none 0 0, .slice none 0 0]
    rwa [World.size_alloc] at this)
  clear hbz h1 h2 hwz hg
  go_enter Tryz.func141, Tryz.ntmps141
  go_upto_region 1 with fail
  rw [HG.out]
  rw [HW.out]
  have m1 : (⟨g + 1, 0, none⟩ : Addr).block < wz.heap.size := HV.out.2.lt
  refine region_T (n := 7) (S := fun w' => Below wz.heap.size wz w') (by kernel_rfl) ?_
  have hS0 : Below wz.heap.size wz wz.drew := (Below.refl _ _).drew
  generalize wz.drew = w4 at hS0 ⊢
  have hS := Lib.hid hS0
  clear hS0 m1
  refine AnyT.take (i := 0) (v := .pointer (some ⟨g, 0, none⟩)) rfl (by kernel_rfl) (by kernel_rfl) (by kernel_rfl) (by kernel_rfl) (fun _ _ _ h => h) (Or.inl ⟨by kernel_rfl, fun w _ => by go_simp⟩) hS.out ?_
  refine AnyT.take (i := 3) (v := .pointer (some ⟨g, 1, none⟩)) rfl (by kernel_rfl) (by kernel_rfl) (by kernel_rfl) (by kernel_rfl) (fun _ _ _ h => h) (Or.inl ⟨by kernel_rfl, fun w _ => by go_simp⟩) hS.out ?_
  refine AnyT.take (i := 1) (v := .slice A1 p.1.length c1) rfl (by kernel_rfl) (by kernel_rfl) (by kernel_rfl) (by kernel_rfl) (fun _ _ _ h => h) (Or.inl ⟨by kernel_rfl, fun w h => by have q := (Below.cell h (p := ⟨g, 0, none⟩) HV.out.1.lt).trans (HV.out.1.cell 0); go_simp⟩) hS.out ?_
  refine AnyT.take (i := 4) (v := .slice A2 p.2.length c2) rfl (by kernel_rfl) (by kernel_rfl) (by kernel_rfl) (by kernel_rfl) (fun _ _ _ h => h) (Or.inl ⟨by kernel_rfl, fun w h => by have q := (Below.cell h (p := ⟨g, 1, none⟩) HV.out.1.lt).trans (HV.out.1.cell 1); go_simp⟩) hS.out ?_
  refine AnyT.ready (rs := [2]) (by kernel_rfl) (by simp) ?_
  refine AllT.cons rfl (fun K hK => ?_) AllT.nil
  go_simp
  refine (clone_any (W := wz) hl1 (HR1.out.below hS.out) hS.out).mono ?_
  rintro e w5 ⟨A5, c5, rfl, ho5, hB5, hb5⟩
  have hS := Lib.hid (hS.out.trans (hb5.mono hS.out.size))
  go_simp
  refine hK.out _ _ (Or.inr (hS.out)) (fun _ => ?_)
  clear hK K
  refine AnyT.ready (rs := [5]) (by kernel_rfl) (by simp) ?_
  refine AllT.cons rfl (fun K hK => ?_) AllT.nil
  go_simp
  refine (clone_any (W := wz) hl2 (HR2.out.below hS.out) hS.out).mono ?_
  rintro e w6 ⟨A6, c6, rfl, ho6, hB6, hb6⟩
  have hS := Lib.hid (hS.out.trans (hb6.mono hS.out.size))
  have ho5 := own_below ho5 hb6
  have HK := Lib.hid (HV.out.2.below hS.out)
  have f0 := HK.out.frozen 0
  have f1 := HK.out.frozen 1
  have x0 := HK.out.cell 0
  have x1 := HK.out.cell 1
  go_simp
  refine hK.out _ _ (Or.inr (hS.out)) (fun _ => ?_)
  clear hK K
  refine AnyT.take (i := 6) (v := .agg #[.slice A5 p.1.length c5, .slice A6 p.2.length c6]) rfl (by kernel_rfl) (by kernel_rfl) (by kernel_rfl) (by kernel_rfl) (fun _ _ _ h => h) (Or.inl ⟨by kernel_rfl, fun w _ => by go_simp⟩) hS.out ?_
  refine AnyT.ready (rs := [7]) (by kernel_rfl) (by simp) ?_
  refine AllT.cons rfl (fun K hK => ?_) AllT.nil
  go_simp
  refine hK.out _ _ (Or.inl rfl) (fun _ => ?_)
  clear hK K
  refine AnyT.done (by kernel_rfl) ?_ _
  go_wp2_with fail
  have k1 := (HK.out.set_ 0 (.slice A5 p.1.length c5)).set_ 1 (.slice A6 p.2.length c6)
  refine bodyPost_ret (results_cell_row rfl _ _ _ _ _ _ _ rfl k1 Tryz.underlying86 rfl (by kernel_rfl)) rfl ?_
  have hwb : w.heap.size ≤ g + 1 := by have := HG.out; omega
  have hw : Below w.heap.size w w6 := HBZ.out.trans (hS.out.mono HBZ.out.size)
  have h3 : Below w.heap.size w ((w6.setCell ⟨g + 1, 0, none⟩ (.slice A5 p.1.length c5)).setCell ⟨g + 1, 1, none⟩ (.slice A6 p.2.length c6)) := (hw.setCell (p := ⟨g + 1, 0, none⟩) hwb _).setCell (p := ⟨g + 1, 1, none⟩) hwb _
  exact ⟨A5, c5, A6, c6, rfl, more_ HBZ.out.size (own_set_t (own_set_t ho5 HK.out (by decide)) (HK.out.set_ 0 _) (by decide)), more_ HBZ.out.size (own_set_t (own_set_t ho6 HK.out (by decide)) (HK.out.set_ 0 _) (by decide)), h3, h3⟩
theorem pairCopied_any {W w : World} {A1 A2 : Option Addr} {c1 c2 B : Nat} {p : Pr} (hl1 : Lim 0 p.1.length) (hl2 : Lim 0 p.2.length) (h1 : Rd w B A1 p.1.length (bv p.1)) (h2 : Rd w B A2 p.2.length (bv p.2)) (hB : Below W.heap.size W w) :
    Calls Tryz.prog 141 #[.agg #[.slice A1 p.1.length c1, .slice A2 p.2.length c2]] w (GotPair W w p) :=
  (pairCopied_raw w hl1 hl2 h1 h2).mono fun e w' ⟨A1, c1, A2, c2, h1, h2, h3, h4, h5⟩ => ⟨A1, c1, A2, c2, h1, more_ hB.size h2, more_ hB.size h3, hB.trans (h4.mono hB.size), h5⟩
set_option maxHeartbeats 2000000 in
set_option maxRecDepth 100000 in
theorem eachP_raw (ps : List Pr) (A : Option Addr) (n c B : Nat) (hn : n ≤ 100000) (hL : LimP ps) (w : World) (hr : RdP w B A n ps) :
    Calls Tryz.prog 140 #[.slice A n c, .func (.func 141) #[] #[]] w (GotP w w ps) := by
  have HL := Lib.hid hL
  have HR := Lib.hid hr.fit
  have hlen := hr.length
  obtain ⟨i0, hi0, hi1, hi2, hi3⟩ := info_parts cellP.info
  clear hr hL
  go_enter Tryz.func140, Tryz.ntmps140
  go_wp2_with (first
    | (at_make
       refine wpList_make_own w rfl _ _ 32 rfl w.heap.size 86 i0 _ 2 Tryz.underlying32 hi0 hi1 hi2 _ _ _ n rfl rfl rfl (by rw [hi3]; omega) (by unfold maxLen; omega) (Nat.le_refl _) ?_
       intro w0 hown0 hg0)
    | fail)
  clear hi0 hi1 hi2 hi3
  obtain ⟨g, hg⟩ : ∃ g, w.heap.size = g := ⟨_, rfl⟩
  have HB00 := Lib.hid ((Below.refl w.heap.size w).grown hg0 (Nat.le_refl _) (fun k hk => by cases hk))
  have HO00 : Hid (OwnP w w0 (some ⟨g, 0, none⟩) 0 n []) := Lib.hid ⟨[], by rw [← hg]; exact hown0, Owns.nil w w0⟩
  clear hown0 hg0
  rw [hg]
  have HG := Lib.hid hg
  clear hg
  go_loopw [5, 7, 13] (fun s5 s7 s13 wr => ∃ (k : Nat), k ≤ n ∧ s13 = .int .i64 (k : Int) ∧ s5 = .slice (some ⟨g, 0, none⟩) k n ∧ Hid (OwnP w wr (some ⟨g, 0, none⟩) k n (ps.take k)) ∧ Hid (Below w.heap.size w wr)) (fun _ _ s13 _ => n - (intOf s13).toNat)
  case atStart => exact ⟨0, Nat.zero_le _, rfl, rfl, Lib.hid (by simpa using HO00.out), HB00⟩
  case round =>
    obtain ⟨k, hk, rfl, rfl, HO, HB⟩ := hrel
    by_cases hlt : k < n
    · obtain ⟨b, o, p, A1, c1, A2, c2, rfl, hp, hcell1, hcell2, hrd1, hrd2⟩ := ((HR.out.below HB.out).fit).at hlt
      have hl1 : Lim 0 p.1.length := (HL.out p (List.mem_of_getElem? hp)).1
      have hl2 : Lim 0 p.2.length := (HL.out p (List.mem_of_getElem? hp)).2
      have b0 : Below wr.heap.size wr (wr.alloc (.cells #[.slice A1 p.1.length c1, .slice A2 p.2.length c2] 86)) := (Below.refl _ _).alloc (Nat.le_refl _) _
      have HC := Lib.hid (pairCopied_any (W := w) (c1 := c1) (c2 := c2) hl1 hl2 (hrd1.below b0) (hrd2.below b0) (HB.out.trans (b0.mono HB.out.size)))
      have HB0 := Lib.hid b0
      have HP := Lib.hid hp
      clear hrd1 hrd2 hp b0
      go_wp2_with (first
        | (go_at_call 141; refine HC.out.mono ?_; rintro e w1 ⟨A4, c4, A5, c5, rfl, ho1, ho2, hB2, hb2⟩; obtain ⟨vs, hv1, hv2⟩ := HO.out.below (HB0.out.trans (hb2.mono HB0.out.size)))
        | (at_builtin
           refine wpList_append_fits (W := w) cellP (.tmp 17) (.tmp 21) rfl (by rfl) rfl (ownsRow_below hv1 ((Below.refl _ _).alloc (Nat.le_refl _) _)) rfl (Rd.twoAt _ _ _ _ rfl) (by intro u hu; simp at hu; rcases hu with rfl | rfl <;> rfl) (by omega) (by omega) (hB2.alloc hB2.size _) ?_
           intro w3 hown3 hB3 hg3)
        | fail)
      go_roundw
      case rel =>
        refine ⟨k + 1, by omega, by go_num, rfl, Lib.hid ?_, Lib.hid hB3⟩
        have b1 : Below w1.heap.size w1 (w1.alloc (.cells #[.slice A4 p.1.length c4, .slice A5 p.2.length c5] 86)) := (Below.refl _ _).alloc (Nat.le_refl _) _
        refine ⟨vs ++ [.slice A4 p.1.length c4, .slice A5 p.2.length c5], hown3, ?_⟩
        rw [List.take_add_one, HP.out, flat_append]
        exact ((hv2.two ho1 ho2).below b1).grownP (ownsRow_below hv1 b1) hg3
      case measure => simp only [intOf]; omega
    · obtain rfl : k = n := by omega
      go_wp2_with fail
      go_ret
      have HO2 := HO.out
      rw [List.take_of_length_le (by omega)] at HO2
      subst hlen
      exact ⟨_, _, rfl, HO2, HB.out, HB.out⟩
theorem eachP_any {W w : World} {ps : List Pr} {A : Option Addr} {n c B : Nat} (hn : n ≤ 100000) (hL : LimP ps) (hr : RdP w B A n ps) (hB : Below W.heap.size W w) :
    Calls Tryz.prog 140 #[.slice A n c, .func (.func 141) #[] #[]] w (GotP W w ps) :=
  (eachP_raw ps A n c B hn hL w hr).mono fun e w' h => GotP.of hB h
end Go.Proofs.YthfnnieklkaefaaGreat

namespace Go.Proofs.YthfnnieklkaefaaGreat
open Go.RowKit
set_option linter.unusedVariables false
def TakeC : Prop := ∀ {W w : World} {zs : List Int} {A : Option Addr} {n c B : Nat} (x : Int), n ≤ 100000 → n ≤ c → Rd w B A n (iv zs) → Below W.heap.size W w →
    Calls Tryz.prog 93 #[.slice A n c, .int .i64 x] w (GotIR W w (takeS zs x) (takeE zs x) (takeN zs x))
def FreeC : Prop := ∀ {W w : World} {zs : List Int} {A : Option Addr} {n c B : Nat} (x : Int), n ≤ 100000 → n ≤ c → zs.Nodup → Rd w B A n (iv zs) → Below W.heap.size W w →
    Calls Tryz.prog 94 #[.slice A n c, .int .i64 x] w (GotIR W w (zs.erase x) (freeE zs x) (freeN zs x))
def OwnerC : Prop := ∀ {W w : World} {zs : List Int} {A : Option Addr} {n c B : Nat}, n ≤ 100000 → n ≤ c → Rd w B A n (iv zs) → Below W.heap.size W w →
    Calls Tryz.prog 95 #[.slice A n c] w (GotR W w (ownerE zs) [] (ownerN zs))
end Go.Proofs.YthfnnieklkaefaaGreat

namespace Go.Proofs.YthfnnieklkaefaaGreat
open Go.RowKit
set_option linter.unusedVariables false
/-- integers that a call made -/
def GotI (W w : World) (l : List Int) (en : Ending) (w' : World) : Prop :=
  ∃ A c, en = .returned (.slice A l.length c) ∧ OwnI W w' A l.length c l ∧ Below W.heap.size W w' ∧ Below w.heap.size w w'
theorem GotI.of {W w w' : World} {l : List Int} {en : Ending} (hB : Below W.heap.size W w) (h : GotI w w l en w') : GotI W w l en w' := by
  obtain ⟨A, c, h1, h2, h3, h4⟩ := h
  exact ⟨A, c, h1, own_of hB.size h2, hB.trans (h3.mono hB.size), h4⟩
set_option maxRecDepth 100000 in
theorem cloneI_raw {w : World} {zs : List Int} {A : Option Addr} {n c B : Nat} (hn : n ≤ 100000) (hr : Rd w B A n (iv zs)) :
    Calls Tryz.prog 139 #[.slice A n c] w (GotI w w zs) := by
  have H := Lib.hid hr.fit
  have hB0 : Below w.heap.size w w := Below.refl _ _
  obtain rfl : zs.length = n := by have := hr.1; rwa [iv_length] at this
  cases A with
  | none =>
    have h0 : zs.length = 0 := by
      rcases Nat.eq_zero_or_pos zs.length with h | h
      · exact h
      · obtain ⟨b, o, h1, _⟩ := hr.2 h
        cases h1
    have hl : zs = [] := List.eq_nil_of_length_eq_zero h0
    subst hl
    clear hr H h0
    have he : ∀ (w : World) (n : Nat), (binOp .eql 22 (.slice none n c) (.slice none 0 0)).run Tryz.prog w = .ok (.bool true) w := fun _ _ => rfl
    go_enter Tryz.func139, Tryz.ntmps139
    go_wp2
    go_ret
    exact ⟨none, 0, rfl, ownI_nil _ _, hB0, hB0⟩
  | some a =>
    clear hr
    have he : ∀ (w : World) (n : Nat), (binOp .eql 22 (.slice (some a) n c) (.slice none 0 0)).run Tryz.prog w = .ok (.bool false) w := fun _ _ => rfl
    go_enter Tryz.func139, Tryz.ntmps139
    go_wp2_with (first
      | (at_builtin
         refine wpList_append_cells (W := w) cellI (.tmp 5) (.tmp 6) rfl (by rfl) rfl (ownI_empty hB0) rfl (H.out.below (hB0.alloc (Nat.le_refl _) _)) (iv_one _) (by omega) (by omega) (hB0.alloc (Nat.le_refl _) _) ?_
         intro A1 c1 w1 hown1 hB1 hg1
         simp only [Nat.zero_add] at hown1)
      | fail)
    go_ret
    exact ⟨A1, c1, rfl, hown1, hB1, hB1⟩
theorem cloneI_any {W w : World} {zs : List Int} {A : Option Addr} {n c B : Nat} (hn : n ≤ 100000) (hr : Rd w B A n (iv zs)) (hB : Below W.heap.size W w) :
    Calls Tryz.prog 139 #[.slice A n c] w (GotI W w zs) :=
  (cloneI_raw hn hr).mono fun e w' h => GotI.of hB h
theorem index_any (w : World) {A : Option Addr} {n c B : Nat} {zs : List Int} (x : Int) (h : Rd w B A n (iv zs)) (hn : n ≤ maxLen) :
    Calls Tryz.prog 152 #[.slice A n c, .int .i64 x] w fun e w' => e = .returned (.int .i64 (placeI zs x)) ∧ w = w' := by
  have hl : zs.length = n := by have := h.1; rwa [iv_length] at this
  unfold maxLen at hn
  have HN : Hid (n ≤ 9223372036854775807) := Lib.hid (by omega)
  have HL := Lib.hid hl
  have H := Lib.hid h
  clear h hl hn
  go_enter Tryz.func152, Tryz.ntmps152
  go_wp2
  go_loopw [8] (fun i wr => ∃ k : Nat, k ≤ n ∧ i = .int .i64 k ∧ Hid (∀ j, j < k → zs[j]? ≠ some x) ∧ w = wr) (fun i _ => n - (intOf i).toNat)
  case atStart => exact ⟨0, Nat.zero_le _, rfl, Lib.hid (fun j hj => absurd hj (by omega)), rfl⟩
  case round =>
    obtain ⟨k, hk, rfl, HS, rfl⟩ := hrel
    by_cases hlt : k < n
    · obtain ⟨z, hz⟩ : ∃ z, zs[k]? = some z := ⟨_, List.getElem?_eq_getElem (by have := HL.out; omega)⟩
      obtain ⟨b, o, rfl, _⟩ := H.out.int_at hlt
      have hc := H.out.int_cell hlt hz
      have hv : IntKind.i64.wrap ((k : Int) + 1) = (k : Int) + 1 := IntWalk.i64_in _ (by have := HN.out; omega)
      have HZ := Lib.hid hz
      clear hz
      by_cases he : z = x
      · subst he
        have HP := Lib.hid (place_first HZ.out HS.out)
        go_wp2
        go_ret
        exact ⟨ret_int HP.out.symm, rfl⟩
      · have he' : (x == z) = false := by simpa using fun h => he h.symm
        have HE := Lib.hid he
        clear he
        go_wp2
        go_roundw
        case rel =>
          refine ⟨k + 1, by omega, by go_num, Lib.hid (fun j hj => ?_), trivial⟩
          rcases Nat.lt_or_ge j k with h1 | h1
          · exact HS.out j h1
          · obtain rfl : j = k := by omega
            rw [HZ.out]
            intro h; injection h with h; exact HE.out h
        case measure => simp [intOf]; omega
    · obtain rfl : k = n := by omega
      have HP := Lib.hid (place_none (s := zs) (x := x) (by rw [HL.out]; exact HS.out))
      go_wp2
      go_ret
      exact ⟨ret_int HP.out.symm, rfl⟩
theorem contains_any (w : World) {A : Option Addr} {n c B : Nat} {zs : List Int} (x : Int) (h : Rd w B A n (iv zs)) (hn : n ≤ maxLen) :
    Calls Tryz.prog 108 #[.slice A n c, .int .i64 x] w fun e w' => e = .returned (.bool (decide (x ∈ zs))) ∧ w = w' := by
  have H := Lib.hid h
  clear h
  by_cases hx : x ∈ zs
  · obtain ⟨k, hk, hk1, _⟩ := place_lt hx
    have h0 : (0 : Int) ≤ (k : Int) := by omega
    have HP := Lib.hid hk
    rw [decide_eq_true hx]
    clear hk hx
    go_enter Tryz.func108, Tryz.ntmps108
    go_wp2_with (first
      | (go_at_call 152; refine (index_any _ x H.out hn).mono ?_; rintro e w2 ⟨rfl, rfl⟩; rw [HP.out])
      | fail)
    go_ret
    exact ⟨rfl, rfl⟩
  · have HP := Lib.hid (place_no hx)
    rw [decide_eq_false hx]
    clear hx
    go_enter Tryz.func108, Tryz.ntmps108
    go_wp2_with (first
      | (go_at_call 152; refine (index_any _ x H.out hn).mono ?_; rintro e w2 ⟨rfl, rfl⟩; rw [HP.out])
      | fail)
    go_ret
    exact ⟨rfl, rfl⟩
/-- those that are not x -/
def noX (zs : List Int) (x : Int) : List Int := zs.filter (fun z => !(z == x))
set_option maxRecDepth 100000 in
theorem without_raw {w : World} {zs : List Int} {A : Option Addr} {n c B : Nat} (x : Int) (hn : n ≤ 100000) (hr : Rd w B A n (iv zs)) :
    Calls Tryz.prog 145 #[.slice A n c, .int .i64 x] w (GotI w w (noX zs x)) := by
  have HR := Lib.hid hr.fit
  have hl : zs.length = n := by have := hr.1; rwa [iv_length] at this
  have HL := Lib.hid hl
  obtain ⟨i0, hi0, hi1, hi2, hi3⟩ := info_parts cellI.info
  clear hr hl
  go_enter Tryz.func145, Tryz.ntmps145
  go_wp2_with (first
    | (at_make
       refine wpList_make_own w rfl _ _ 22 rfl w.heap.size 3 i0 _ 1 Tryz.underlying22 hi0 hi1 hi2 _ _ _ n rfl rfl (by rfl) (by rw [hi3]; omega) (by unfold maxLen; omega) (Nat.le_refl _) ?_
       intro w0 hown0 hg0)
    | fail)
  go_loopw [5, 13] (fun s5 s13 wr => ∃ (k m c' : Nat) (A' : Option Addr), k ≤ n ∧ m ≤ k ∧ s13 = .int .i64 (k : Int) ∧ s5 = .slice A' m c' ∧ Hid (OwnI w wr A' m c' (noX (zs.take k) x)) ∧ Hid (Below w.heap.size w wr)) (fun _ s13 _ => n - (intOf s13).toNat)
  case atStart => exact ⟨0, 0, _, _, Nat.zero_le _, Nat.zero_le _, rfl, rfl, Lib.hid hown0, Lib.hid ((Below.refl _ _).grown hg0 (Nat.le_refl _) (fun k hk => by cases hk))⟩
  case round =>
    obtain ⟨k, m, c', A', hk, hmk, rfl, rfl, HO, HB⟩ := hrel
    by_cases hlt : k < n
    · obtain ⟨z, hz⟩ : ∃ z, zs[k]? = some z := ⟨_, List.getElem?_eq_getElem (by have := HL.out; omega)⟩
      obtain ⟨b, o, rfl, _⟩ := (HR.out.below HB.out).int_at hlt
      have hc := (HR.out.below HB.out).int_cell hlt hz
      have hv : IntKind.i64.wrap ((k : Int) + 1) = (k : Int) + 1 := IntWalk.i64_in _ (by omega)
      have HZ := Lib.hid hz
      clear hz
      by_cases he : z = x
      · subst he
        go_wp2_with fail
        go_roundw
        case rel =>
          refine ⟨k + 1, m, c', A', by omega, by omega, by go_num, rfl, Lib.hid ?_, HB⟩
          have h := HO.out
          rw [show noX (zs.take (k + 1)) z = noX (zs.take k) z by rw [List.take_add_one, HZ.out]; simp [noX]]
          exact h
        case measure => simp only [intOf]; omega
      · have he' : (z == x) = false := by simpa using he
        have HE := Lib.hid he'
        go_wp2_with (first
          | (at_builtin
             refine wpList_append_cells (W := w) cellI (.tmp 20) (.tmp 22) rfl (by rfl) rfl (ownsRow_below HO.out ((Below.refl _ _).alloc (Nat.le_refl _) _)) rfl (Rd.oneV _ _ _) (by intro u hu; simp at hu; subst hu; rfl) (by omega) (by omega) (HB.out.alloc HB.out.size _) ?_
             intro A3 c3 w3 hown3 hB3 hg3)
          | fail)
        go_roundw
        case rel =>
          refine ⟨k + 1, m + 1, c3, A3, by omega, by omega, by go_num, rfl, Lib.hid ?_, Lib.hid hB3⟩
          rw [show noX (zs.take (k + 1)) x = noX (zs.take k) x ++ [z] by rw [List.take_add_one, HZ.out]; simp [noX, HE.out]]
          unfold OwnI
          rw [show iv (noX (zs.take k) x ++ [z]) = iv (noX (zs.take k) x) ++ [Value.int .i64 z] by simp [iv]]
          exact hown3
        case measure => simp only [intOf]; omega
    · obtain rfl : k = n := by omega
      go_wp2_with fail
      go_ret
      have HO2 := HO.out
      rw [List.take_of_length_le (by have := HL.out; omega)] at HO2
      obtain rfl := ownI_len HO2
      exact ⟨A', c', rfl, HO2, HB.out, HB.out⟩
theorem without_any {W w : World} {zs : List Int} {A : Option Addr} {n c B : Nat} (x : Int) (hn : n ≤ 100000) (hr : Rd w B A n (iv zs)) (hB : Below W.heap.size W w) :
    Calls Tryz.prog 145 #[.slice A n c, .int .i64 x] w (GotI W w (noX zs x)) :=
  (without_raw x hn hr).mono fun e w' h => GotI.of hB h
end Go.Proofs.YthfnnieklkaefaaGreat

namespace Go.Proofs.YthfnnieklkaefaaGreat
open Go.RowKit
set_option linter.unusedVariables false
theorem nox_erase {zs : List Int} (x : Int) (h : zs.Nodup) : noX zs x = zs.erase x := by
  unfold noX
  rw [List.Nodup.erase_eq_filter h]
  rfl
set_option maxHeartbeats 1000000 in
set_option maxRecDepth 100000 in
theorem take_raw {w : World} {zs : List Int} {A : Option Addr} {n c B : Nat} (x : Int) (hn : n ≤ 100000) (hr : Rd w B A n (iv zs)) :
    Calls Tryz.prog 93 #[.slice A n c, .int .i64 x] w (GotIR w w (takeS zs x) (takeE zs x) (takeN zs x)) := by
  have hB := Below.refl w.heap.size w
  have HR := Lib.hid hr.fit
  obtain rfl : zs.length = n := by have := hr.1; rwa [iv_length] at this
  have b0 : Below w.heap.size w (w.alloc (.cells zeroR 40)) := (Below.refl _ _).alloc (Nat.le_refl _) _
  clear hr
  unfold takeS takeE takeN
  by_cases hx : x ∈ zs
  · rw [if_pos hx, if_pos hx, if_pos hx]
    have HX := Lib.hid (decide_eq_true hx)
    clear hx
    go_enter Tryz.func93, Tryz.ntmps93
    go_wp2_with (first
      | (go_at_call 139; refine (cloneI_any (W := w) hn (HR.out.below b0) b0).mono ?_; rintro e w1 ⟨A1, c1, rfl, hown1, hB1, hb1⟩
         have HK := Lib.hid ((Blk.new w 40 zeroR).below hb1); obtain ⟨x0, x1, x2, f0, f1, f2⟩ := three HK.out)
      | (go_at_call 108; refine (contains_any _ x (HR.out.below hB1) (by unfold maxLen; omega)).mono ?_; rintro e w2 ⟨rfl, rfl⟩; rw [HX.out])
      | fail)
    obtain ⟨k1, k2, k3⟩ := put3 HK.out (.int .i64 6) (.slice none 0 0) (.int .i64 0)
    refine bodyPost_ret (results_tmp_cell_row rfl _ _ _ _ _ _ rfl k1 Tryz.underlying40 rfl (by kernel_rfl)) rfl ?_
    have h3 := k2 w (Nat.le_refl _) hB1
    exact ⟨A1, c1, none, 0, rfl, k3 _ _ _ _ _ _ hown1 (by decide), own_nil _ _, h3, h3⟩
  · rw [if_neg hx, if_neg hx, if_neg hx]
    have HX := Lib.hid (decide_eq_false hx)
    clear hx
    by_cases hf : 5 ≤ zs.length
    · rw [if_pos hf, if_pos hf, if_pos hf]
      have hfi : (5 : Int) ≤ (zs.length : Int) := by omega
      go_enter Tryz.func93, Tryz.ntmps93
      go_wp2_with (first
      | (go_at_call 139; refine (cloneI_any (W := w) hn (HR.out.below b0) b0).mono ?_; rintro e w1 ⟨A1, c1, rfl, hown1, hB1, hb1⟩
         have HK := Lib.hid ((Blk.new w 40 zeroR).below hb1); obtain ⟨x0, x1, x2, f0, f1, f2⟩ := three HK.out)
      | (go_at_call 108; refine (contains_any _ x (HR.out.below hB1) (by unfold maxLen; omega)).mono ?_; rintro e w2 ⟨rfl, rfl⟩; rw [HX.out])
      | fail)
      obtain ⟨k1, k2, k3⟩ := put3 HK.out (.int .i64 3) (.slice none 0 0) (.int .i64 0)
      refine bodyPost_ret (results_tmp_cell_row rfl _ _ _ _ _ _ rfl k1 Tryz.underlying40 rfl (by kernel_rfl)) rfl ?_
      have h3 := k2 w (Nat.le_refl _) hB1
      exact ⟨A1, c1, none, 0, rfl, k3 _ _ _ _ _ _ hown1 (by decide), own_nil _ _, h3, h3⟩
    · rw [if_neg hf, if_neg hf, if_neg hf]
      have hfi : ¬ (5 : Int) ≤ (zs.length : Int) := by omega
      go_enter Tryz.func93, Tryz.ntmps93
      go_wp2_with (first
      | (go_at_call 139; refine (cloneI_any (W := w) hn (HR.out.below b0) b0).mono ?_; rintro e w1 ⟨A1, c1, rfl, hown1, hB1, hb1⟩
         have HK := Lib.hid ((Blk.new w 40 zeroR).below hb1))
      | (go_at_call 108; refine (contains_any _ x (HR.out.below hB1) (by unfold maxLen; omega)).mono ?_; rintro e w2 ⟨rfl, rfl⟩; rw [HX.out])
      | (at_builtin
         refine wpList_append_cells (W := w) cellI (.tmp 19) (.tmp 21) rfl (by rfl) rfl (ownsRow_below hown1 ((Below.refl _ _).alloc (Nat.le_refl _) _)) rfl (Rd.oneV _ _ _) (by intro u hu; simp at hu; subst hu; rfl) (by omega) (by omega) (hB1.alloc hB1.size _) ?_
         intro A3 c3 w3 hown3 hB3 hg3
         have HK3 := Lib.hid ((HK.out.alloc (.cells #[.int .i64 x] 3)).apart_own (ownsRow_below hown1 ((Below.refl _ _).alloc (Nat.le_refl _) _)) (by decide) hg3)
         obtain ⟨x0, x1, x2, f0, f1, f2⟩ := three HK3.out
         clear hg3)
      | fail)
      obtain ⟨k1, k2, k3⟩ := put3 HK3.out (.int .i64 0) (.slice none 0 0) (.int .i64 (zs.length : Int))
      refine bodyPost_ret (results_tmp_cell_row rfl _ _ _ _ _ _ rfl k1 Tryz.underlying40 rfl (by kernel_rfl)) rfl ?_
      have h3 := k2 w (Nat.le_refl _) hB3
      have e : (zs ++ [x]).length = zs.length + 1 := by simp
      have h4 := k3 _ _ _ _ _ _ hown3 (by decide)
      rw [show iv zs ++ [Value.int .i64 x] = iv (zs ++ [x]) by simp [iv]] at h4
      exact ⟨A3, c3, none, 0, by rw [e]; rfl, by rw [e]; exact h4, own_nil _ _, h3, h3⟩
theorem take_any : TakeC := fun x hn hc hr hB => (take_raw x hn hr).mono fun e w' h => GotIR.of hB h
set_option maxHeartbeats 1000000 in
set_option maxRecDepth 100000 in
theorem free_raw {w : World} {zs : List Int} {A : Option Addr} {n c B : Nat} (x : Int) (hn : n ≤ 100000) (hd : zs.Nodup) (hr : Rd w B A n (iv zs)) :
    Calls Tryz.prog 94 #[.slice A n c, .int .i64 x] w (GotIR w w (zs.erase x) (freeE zs x) (freeN zs x)) := by
  have hB := Below.refl w.heap.size w
  have HR := Lib.hid hr.fit
  obtain rfl : zs.length = n := by have := hr.1; rwa [iv_length] at this
  have b0 : Below w.heap.size w (w.alloc (.cells zeroR 40)) := (Below.refl _ _).alloc (Nat.le_refl _) _
  clear hr
  have HNX := Lib.hid (nox_erase x hd)
  clear hd
  unfold freeE freeN
  by_cases hx : x ∈ zs
  · rw [if_pos hx, if_pos hx]
    have hl : (zs.erase x).length = zs.length - 1 := List.length_erase_of_mem hx
    have hp : 0 < zs.length := List.length_pos_of_mem hx
    obtain ⟨L, hL⟩ : ∃ L, zs.erase x = L := ⟨_, rfl⟩
    rw [hL] at hl HNX ⊢
    have HL := Lib.hid hl
    have hne : ((L.length : Int) == (zs.length : Int)) = false := by rw [beq_eq_false_iff_ne]; omega
    clear hx hL hl hp
    rcases Nat.eq_zero_or_pos L.length with h0 | h0
    · have hz : L = [] := List.eq_nil_of_length_eq_zero h0
      subst hz
      have hne0 : ((0 : Int) == (zs.length : Int)) = false := hne
      clear h0
      go_enter Tryz.func94, Tryz.ntmps94
      go_wp2_with (first
        | (go_at_call 145; refine (without_any (W := w) x hn (HR.out.below b0) b0).mono ?_; rw [HNX.out]; rintro e w1 ⟨A1, c1, rfl, hown1, hB1, hb1⟩
           have HK := Lib.hid ((Blk.new w 40 zeroR).below hb1); obtain ⟨x0, x1, x2, f0, f1, f2⟩ := three HK.out)
        | fail)
      obtain ⟨k1, k2, k3⟩ := put3 HK.out (.int .i64 0) (.slice none 0 0) (.int .i64 (-1))
      refine bodyPost_ret (results_tmp_cell_row rfl _ _ _ _ _ _ rfl k1 Tryz.underlying40 rfl (by kernel_rfl)) rfl ?_
      have h3 := k2 w (Nat.le_refl _) hB1
      exact ⟨none, 0, none, 0, rfl, ownI_nil _ _, own_nil _ _, h3, h3⟩
    · obtain ⟨z, hz⟩ : ∃ z, L[0]? = some z := ⟨_, List.getElem?_eq_getElem h0⟩
      have hv : L.head?.getD (-1) = z := by rw [List.head?_eq_getElem?, hz]; rfl
      rw [hv]
      have hne2 : ((L.length : Int) == 0) = false := by rw [beq_eq_false_iff_ne]; omega
      have HZ := Lib.hid hz
      clear hv hz
      go_enter Tryz.func94, Tryz.ntmps94
      go_wp2_with (first
        | (go_at_call 145; refine (without_any (W := w) x hn (HR.out.below b0) b0).mono ?_; rw [HNX.out]; rintro e w1 ⟨A1, c1, rfl, hown1, hB1, hb1⟩
           have HK := Lib.hid ((Blk.new w 40 zeroR).below hb1); obtain ⟨x0, x1, x2, f0, f1, f2⟩ := three HK.out
           have HOW := Lib.hid hown1; obtain ⟨g, rfl, hg1, hg2⟩ := own_addr hown1 h0; have hcl := (hown1.cellAt 0 (by omega)).trans (iv_get HZ.out); clear hown1 hg1 hg2)
        | fail)
      go_region
      all_goals go_wp2
      obtain ⟨k1, k2, k3⟩ := put3 HK.out (.int .i64 0) (.slice none 0 0) (.int .i64 z)
      refine bodyPost_ret (results_tmp_cell_row rfl _ _ _ _ _ _ rfl k1.drew Tryz.underlying40 rfl (by kernel_rfl)) rfl ?_
      have h3 := (k2 w (Nat.le_refl _) hB1).drew
      exact ⟨some ⟨g, 0, none⟩, c1, none, 0, rfl, k3 _ _ _ _ _ _ HOW.out (by decide), own_nil _ _, h3, h3⟩
  · rw [if_neg hx, if_neg hx]
    rw [List.erase_of_not_mem hx] at HNX ⊢
    clear hx
    go_enter Tryz.func94, Tryz.ntmps94
    go_wp2_with (first
      | (go_at_call 145; refine (without_any (W := w) x hn (HR.out.below b0) b0).mono ?_; rw [HNX.out]; rintro e w1 ⟨A1, c1, rfl, hown1, hB1, hb1⟩
         have HK := Lib.hid ((Blk.new w 40 zeroR).below hb1); obtain ⟨x0, x1, x2, f0, f1, f2⟩ := three HK.out)
      | fail)
    obtain ⟨k1, k2, k3⟩ := put3 HK.out (.int .i64 5) (.slice none 0 0) (.int .i64 0)
    refine bodyPost_ret (results_tmp_cell_row rfl _ _ _ _ _ _ rfl k1 Tryz.underlying40 rfl (by kernel_rfl)) rfl ?_
    have h3 := k2 w (Nat.le_refl _) hB1
    exact ⟨A1, c1, none, 0, rfl, k3 _ _ _ _ _ _ hown1 (by decide), own_nil _ _, h3, h3⟩
theorem free_any : FreeC := fun x hn hc hd hr hB => (free_raw x hn hd hr).mono fun e w' h => GotIR.of hB h
theorem owner_raw (w : World) {zs : List Int} {A : Option Addr} {n c B : Nat} (hr : Rd w B A n (iv zs)) :
    Calls Tryz.prog 95 #[.slice A n c] w fun en w' => en = .returned (resV (ownerE zs) none 0 0 (ownerN zs)) ∧ Below w.heap.size w w' := by
  obtain rfl : zs.length = n := by have := hr.1; rwa [iv_length] at this
  unfold ownerE ownerN
  have b0 : Below w.heap.size w (w.alloc (.cells zeroR 40)) := (Below.refl _ _).alloc (Nat.le_refl _) _
  rcases Nat.eq_zero_or_pos zs.length with h0 | h0
  · have hz : zs = [] := List.eq_nil_of_length_eq_zero h0
    subst hz
    rw [if_pos h0]
    clear h0 hr
    go_enter Tryz.func95, Tryz.ntmps95
    go_wp2
    refine bodyPost_ret (results_cell_row rfl _ _ _ _ _ _ _ rfl (Blk.new w 40 #[.int .i64 5, .slice none 0 0, .int .i64 0]) Tryz.underlying40 rfl (by kernel_rfl)) rfl ?_
    exact ⟨rfl, (Below.refl _ _).alloc (Nat.le_refl _) _⟩
  · rw [if_neg (by omega)]
    have hne : ((zs.length : Int) == 0) = false := by rw [beq_eq_false_iff_ne]; omega
    obtain ⟨z, hz⟩ : ∃ z, zs[0]? = some z := ⟨_, List.getElem?_eq_getElem h0⟩
    obtain ⟨b, o, rfl, _⟩ := hr.int_at h0
    have hc := hr.int_cell h0 hz
    have hv : zs.head?.getD 0 = z := by rw [List.head?_eq_getElem?, hz]; rfl
    rw [hv]
    rw [Nat.add_zero] at hc
    have hc0 := (b0.cell (p := ⟨b, o, none⟩) (World.block_lt_of_cell? _ _ hc)).trans hc
    clear hv hz hc hr
    go_enter Tryz.func95, Tryz.ntmps95
    go_wp2
    refine bodyPost_ret (results_cell_row rfl _ _ _ _ _ _ _ rfl (Blk.new w 40 #[.int .i64 0, .slice none 0 0, .int .i64 z]) Tryz.underlying40 rfl (by kernel_rfl)) rfl ?_
    exact ⟨rfl, (Below.refl _ _).alloc (Nat.le_refl _) _⟩
theorem owner_any : OwnerC := fun hn hc hr hB => (owner_raw _ hr).mono fun e w' h => ⟨none, 0, h.1, own_nil _ _, hB.trans (h.2.mono hB.size), h.2⟩
end Go.Proofs.YthfnnieklkaefaaGreat

