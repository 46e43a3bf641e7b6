/- WindPlays: two windows and a map, together: what a round begins with, and how each step turns it. -/
import Derived.Test.YteafbljdlcbckaaMapTie
namespace Go.Proofs.Yteafbljdlcbckaa
open Go.RowKit Go.Maps
set_option linter.unusedVariables false
namespace Pl
/-- what a step may have turned: objects that S names, from base on -/
structure Kept (base : Nat) (S : Obj → Bool) (w w' : World) : Prop where
  os : w'.os = w.os
  tape : w'.tape = w.tape
  output : w'.output = w.output
  size : w.heap.size ≤ w'.heap.size
  block : ∀ k o, w.heap[k]? = some o → (k < base ∨ S o = false) → w'.heap[k]? = some o
/-- windows and maps -/
def sW : Obj → Bool := fun o => WI.isWin o || WY.isWin o
def sM : Obj → Bool
  | .map _ _ => true
  | _ => false
def sA : Obj → Bool := fun o => sW o || sM o
/-- .. and cells of an int -/
def sI : Obj → Bool
  | .cells _ t _ => t == 3
  | _ => false
def sF : Obj → Bool := fun o => sA o || sI o
variable {base : Nat} {S T : Obj → Bool} {w w' w'' : World}
theorem Kept.refl (base : Nat) (S : Obj → Bool) (w : World) : Kept base S w w := ⟨rfl, rfl, rfl, Nat.le_refl _, fun _ _ h _ => h⟩
theorem Kept.trans (h : Kept base S w w') (k : Kept base S w' w'') : Kept base S w w'' :=
  ⟨k.os.trans h.os, k.tape.trans h.tape, k.output.trans h.output, Nat.le_trans h.size k.size, fun i o ho hi => k.block i o (h.block i o ho hi) hi⟩
theorem Kept.weak (h : Kept base S w w') (hs : ∀ o, S o = true → T o = true) : Kept base T w w' :=
  ⟨h.os, h.tape, h.output, h.size, fun i o ho hi => h.block i o ho (hi.imp id fun e => by
    cases hS : S o
    · rfl
    · rw [hs o hS] at e; exact absurd e (by simp))⟩
theorem Kept.of_below (h : Below w.heap.size w w') : Kept base S w w' :=
  ⟨h.os, h.tape, h.output, h.size, fun k o ho _ => (h.block k (Array.getElem?_eq_some_iff.1 ho).1).trans ho⟩
theorem Kept.of_turnsI (h : WI.Turns base w w') : Kept base sW w w' :=
  ⟨h.os, h.tape, h.output, h.size, fun k o ho hk => h.block k o ho (hk.imp id fun e => by unfold sW at e; simp at e; exact e.1)⟩
theorem Kept.of_turnsY (h : WY.Turns base w w') : Kept base sW w w' :=
  ⟨h.os, h.tape, h.output, h.size, fun k o ho hk => h.block k o ho (hk.imp id fun e => by unfold sW at e; simp at e; exact e.2)⟩
theorem Kept.of_map {B n : Nat} {D : DataW Unit} (hown : Mw.own w B n D) (hB : base ≤ B) (h : w.grownBy w' (some B)) : Kept base sM w w' :=
  ⟨h.os, h.tape, h.output, h.size, fun k o ho hk => (h.block k (Array.getElem?_eq_some_iff.1 ho).1 (by
    intro e
    injection e with e
    subst e
    obtain ⟨es, clock, hb, _⟩ := hown
    rw [hb] at ho
    injection ho with ho
    subst ho
    rcases hk with hk | hk
    · omega
    · simp [sM] at hk)).trans ho⟩
theorem Kept.of_set {b : Nat} {u v : Value} (hb : Blk w b 3 #[u]) (hB : base ≤ b) : Kept base sI w (w.setCell ⟨b, 0, none⟩ v) :=
  ⟨rfl, rfl, rfl, by simp [World.setCell], fun k o ho hk => by
    refine (Below.heap_setCell w ⟨b, 0, none⟩ v k (fun e => ?_)).trans ho
    have e' : k = b := by simpa using e
    subst e'
    unfold Blk at hb
    rw [hb] at ho
    injection ho with ho
    subst ho
    rcases hk with hk | hk
    · omega
    · simp [sI] at hk⟩
theorem Kept.below (h : Kept base S w w') (hb : base ≤ w.heap.size) : Below base w w' :=
  ⟨h.os, h.tape, h.output, h.size, fun k hk => by
    have hlt : k < w.heap.size := by omega
    rw [Array.getElem?_eq_getElem hlt]
    exact h.block k _ (Array.getElem?_eq_getElem hlt) (.inl hk)⟩
theorem Kept.blk (h : Kept base S w w') {g : Nat} {t : TypeId} {cs : Array Value} (hb : Blk w g t cs) (hs : S (.cells cs t (0, 0)) = false) : Blk w' g t cs := h.block g _ hb (.inr hs)
theorem Kept.own (h : Kept base sW w w') {B n : Nat} {D : DataW Unit} (hown : Mw.own w B n D) : Mw.own w' B n D := by
  obtain ⟨es, clock, hb, r⟩ := hown
  exact ⟨es, clock, h.block _ _ hb (.inr rfl), r⟩
theorem own_mono {B n m : Nat} {D : DataW Unit} (hown : Mw.own w B n D) (h : n ≤ m) : Mw.own w B m D := by
  obtain ⟨es, clock, hb, F, hs, e⟩ := hown
  exact ⟨es, clock, hb, F, Nat.le_trans hs h, e⟩
theorem Kept.winI (h : Kept base S w w') (hs : ∀ o, WI.isWin o = true → S o = false) {b' b fr wh : Nat} {ss : List (Option WI.V)} (hw : WI.WinR w b' b fr wh ss) : WI.WinR w' b' b fr wh ss := by
  obtain ⟨A, n, c, h1, h2, h3, h4⟩ := hw
  exact ⟨A, n, c, h.block _ _ h1 (.inr (hs _ (by rfl))), ⟨h2.len, h2.le, h2.max, h2.blk.imp id fun ⟨g, o, cur, e1, e2, e3, e4⟩ => ⟨g, o, cur, e1, e2, h.block _ _ e3 (.inr (hs _ (by rfl))), e4⟩⟩, h3, h4⟩
theorem Kept.winY (h : Kept base S w w') (hs : ∀ o, WY.isWin o = true → S o = false) {b' b fr wh : Nat} {ss : List (Option WY.V)} (hw : WY.WinR w b' b fr wh ss) : WY.WinR w' b' b fr wh ss := by
  obtain ⟨A, n, c, h1, h2, h3, h4⟩ := hw
  exact ⟨A, n, c, h.block _ _ h1 (.inr (hs _ (by rfl))), ⟨h2.len, h2.le, h2.max, h2.blk.imp id fun ⟨g, o, cur, e1, e2, e3, e4⟩ => ⟨g, o, cur, e1, e2, h.block _ _ e3 (.inr (hs _ (by rfl))), e4⟩⟩, h3, h4⟩
theorem sM_I (o : Obj) (h : WI.isWin o = true) : sM o = false := by cases o <;> simp [WI.isWin] at h <;> rfl
theorem sM_Y (o : Obj) (h : WY.isWin o = true) : sM o = false := by cases o <;> simp [WY.isWin] at h <;> rfl
theorem Kept.rdT (h : Kept base S w w') {e : TypeId} {n : Nat} {A : Option Addr} {vs : List Value} (hr : RdT w e A n vs) (hs : ∀ cs, S (.cells cs e (0, 0)) = false) : RdT w' e A n vs :=
  ⟨hr.1, fun hn => by obtain ⟨g, o, cur, e1, hk, hc⟩ := hr.2 hn; exact ⟨g, o, cur, e1, h.blk hk (hs _), hc⟩⟩
/-- the second window holds at each place one byte: the number that the first one holds there -/
def Two (w : World) (ss : List (Option Int)) (tt : List (Option WY.V)) : Prop :=
  tt.length = ss.length ∧ ∀ k : Nat, (ss[k]?.join = none → tt[k]?.join = none) ∧ ∀ v, ss[k]? = some (some v) → ∃ A c, tt[k]? = some (some (A, 1, c)) ∧ RdT w 5 A 1 (bv [v.toNat])
theorem Two.kept {ss : List (Option Int)} {tt : List (Option WY.V)} (h : Two w ss tt) (k : Kept base S w w') (hs : ∀ cs, S (.cells cs 5 (0, 0)) = false) : Two w' ss tt :=
  ⟨h.1, fun i => ⟨(h.2 i).1, fun v hv => by obtain ⟨A, c, e, r⟩ := (h.2 i).2 v hv; exact ⟨A, c, e, k.rdT r hs⟩⟩⟩
theorem Two.start (w : World) : Two w [] [] := ⟨rfl, fun k => ⟨fun _ => rfl, fun v hv => by simp at hv⟩⟩
theorem Two.lead {ss : List (Option Int)} {tt : List (Option WY.V)} (h : Two w ss tt) : Wd.lead tt = Wd.lead ss := by
  apply Nat.le_antisymm
  · apply Wd.lead_ge
    intro k hk
    obtain ⟨v, hv⟩ := Wd.lead_at hk
    rcases hj : ss[k]?.join with _ | u
    · have := (h.2 k).1 hj
      rw [hv] at this
      simp at this
    · exact ⟨u, Wd.join_some.1 hj⟩
  · apply Wd.lead_ge
    intro k hk
    obtain ⟨v, hv⟩ := Wd.lead_at hk
    obtain ⟨A, c, e, _⟩ := (h.2 k).2 v hv
    exact ⟨_, e⟩
theorem Two.hasB {ss : List (Option Int)} {tt : List (Option WY.V)} (h : Two w ss tt) (fr : Nat) (i : Int) : Wd.hasB fr tt i = Wd.hasB fr ss i := by
  rw [Wd.hasB_join, Wd.hasB_join]
  congr 1
  rcases hj : ss[(i - fr - 1).toNat]?.join with _ | u
  · rw [(h.2 _).1 hj]; rfl
  · obtain ⟨A, c, e, _⟩ := (h.2 _).2 u (Wd.join_some.1 hj)
    rw [e]; rfl
theorem Two.put {ss : List (Option Int)} {tt : List (Option WY.V)} (h : Two w ss tt) (k : Nat) (v : Int) (A : Option Addr) (c : Nat) (hr : RdT w 5 A 1 (bv [v.toNat])) : Two w (Wd.laid ss k v) (Wd.laid tt k (A, 1, c)) := by
  refine ⟨by rw [Wd.laid_length, Wd.laid_length, h.1], fun i => ⟨fun hi => ?_, fun u hu => ?_⟩⟩
  · rw [Wd.laid_get] at hi ⊢
    by_cases e : i = k
    · rw [if_pos e] at hi; cases hi
    · rw [if_neg e] at hi ⊢; exact (h.2 i).1 hi
  · have hu' := Wd.join_some.2 hu
    rw [Wd.laid_get] at hu'
    by_cases e : i = k
    · rw [if_pos e] at hu'
      injection hu' with hu'
      subst hu'
      refine ⟨A, c, Wd.join_some.1 ?_, hr⟩
      rw [Wd.laid_get, if_pos e]
    · rw [if_neg e] at hu'
      obtain ⟨A', c', e1, r1⟩ := (h.2 i).2 u (Wd.join_some.1 hu')
      refine ⟨A', c', Wd.join_some.1 ?_, r1⟩
      rw [Wd.laid_get, if_neg e]
      exact Wd.join_some.2 e1
theorem Two.drop {ss : List (Option Int)} {tt : List (Option WY.V)} (h : Two w ss tt) (k : Nat) : Two w (ss.drop k) (tt.drop k) := by
  refine ⟨by simp [h.1], fun i => ?_⟩
  rw [List.getElem?_drop, List.getElem?_drop]
  exact h.2 (k + i)
theorem ends_drop {V : Type} {ss : List (Option V)} (h : Wd.Ends ss) (k : Nat) : Wd.Ends (ss.drop k) := by
  intro n hn
  rw [List.length_drop] at hn
  obtain ⟨v, hv⟩ := h (k + n) (by omega)
  exact ⟨v, by rw [List.getElem?_drop]; exact hv⟩
/-- what a round of WindPlays begins with -/
structure PlayS (w wr : World) (p q bf bl br bh B : Nat) (leave : Int) (i fr : Nat) (ss : List (Option Int)) (tt : List (Option WY.V)) (D : DataW Unit) : Prop where
  win : WI.WinR wr w.heap.size p fr (fr + Wd.lead ss) ss
  wiy : WY.WinR wr w.heap.size q fr (fr + Wd.lead ss) tt
  tie : Mw.Tie D fr ss
  map : Mw.own wr B i D
  pf : Blk wr bf 3 #[.int .i64 (fr : Int)]
  pl : Blk wr bl 3 #[.int .i64 leave]
  pr : Blk wr br 4 #[.bool false]
  ph : Blk wr bh 28 #[.map (some B)]
  bel : Below w.heap.size w wr
  ends : Wd.Ends ss
  len : fr + ss.length ≤ 65535 + 64 * i
  small : ∀ (k : Nat) v, ss[k]? = some (some v) → 0 ≤ v ∧ v < 60
  two : Two wr ss tt
  apart : bf ≠ bl ∧ w.heap.size ≤ bf ∧ w.heap.size ≤ B ∧ w.heap.size ≤ br
section
variable {wr wx : World} {p q bf bl br bh B i fr : Nat} {leave : Int} {ss : List (Option Int)} {tt : List (Option WY.V)} {D : DataW Unit}
theorem PlayS.keep (h : PlayS w wr p q bf bl br bh B leave i fr ss tt D) (k : Below wr.heap.size wr wx) : PlayS w wx p q bf bl br bh B leave i fr ss tt D := by
  have K : Kept w.heap.size (fun _ => false) wr wx := Kept.of_below k
  exact ⟨K.winI (fun _ _ => rfl) h.win, K.winY (fun _ _ => rfl) h.wiy, h.tie, (K.weak (T := sW) (fun _ e => by cases e)).own h.map, K.blk h.pf rfl, K.blk h.pl rfl, K.blk h.pr rfl, K.blk h.ph rfl,
    h.bel.trans (K.below h.bel.size), h.ends, h.len, h.small, h.two.kept K (fun _ => rfl), h.apart⟩
theorem PlayS.next (h : PlayS w wr p q bf bl br bh B leave i fr ss tt D) : PlayS w wr p q bf bl br bh B leave (i + 1) fr ss tt D :=
  ⟨h.win, h.wiy, h.tie, own_mono h.map (by omega), h.pf, h.pl, h.pr, h.ph, h.bel, h.ends, by have := h.len; omega, h.small, h.two, h.apart⟩
theorem PlayS.put (h : PlayS w wr p q bf bl br bh B leave i fr ss tt D) (k : Nat) (A : Option Addr) (c : Nat) (hi : i < 60) (hk : k < Wd.lead ss + 64) (K : Kept w.heap.size sA wr wx)
    (hw1 : WI.WinR wx w.heap.size p fr (fr + Wd.lead (Wd.laid ss k (i : Int))) (Wd.laid ss k (i : Int))) (hw2 : WY.WinR wx w.heap.size q fr (fr + Wd.lead (Wd.laid ss k (i : Int))) (Wd.laid tt k (A, 1, c)))
    (hr : RdT wx 5 A 1 (bv [i])) (hm : Mw.own wx B (i + 1) (D.put (.int .i64 ((fr + 1 + k : Nat) : Int)) (.lit (.int .i64 (i : Int))))) :
    PlayS w wx p q bf bl br bh B leave (i + 1) fr (Wd.laid ss k (i : Int)) (Wd.laid tt k (A, 1, c)) (D.put (.int .i64 ((fr + 1 + k : Nat) : Int)) (.lit (.int .i64 (i : Int)))) := by
  have hl := h.len
  have hll := Wd.lead_le ss
  exact ⟨hw1, hw2, h.tie.put h.map.isMap k i (by omega), hm, K.blk h.pf rfl, K.blk h.pl rfl, K.blk h.pr rfl, K.blk h.ph rfl, h.bel.trans (K.below h.bel.size), Wd.ends_laid ss k _ h.ends,
    by rw [Wd.laid_length]; omega, fun j v hv => by
      have := Wd.join_some.2 hv
      rw [Wd.laid_get] at this
      by_cases e : j = k
      · rw [if_pos e] at this; injection this with this; omega
      · rw [if_neg e] at this; exact h.small j v (Wd.join_some.1 this), (h.two.kept K (fun _ => by rfl)).put k i A c (by simpa using hr), h.apart⟩
/-- ahead of the map's sweeping: 'from' is written, the windows are cut -/
theorem PlayS.cut {D' : DataW Unit} (h : PlayS w wr p q bf bl br bh B leave i fr ss tt D) (k : Nat) (hk : k ≤ Wd.lead ss) (K : Kept w.heap.size sF wr wx)
    (hw1 : WI.WinR wx w.heap.size p (fr + k) (fr + Wd.lead ss) (ss.drop k)) (hw2 : WY.WinR wx w.heap.size q (fr + k) (fr + Wd.lead ss) (tt.drop k))
    (hm : Mw.own wx B i D') (h1 : ∀ i : Int, (Lit.int .i64 i).wf = true → Maps.has D' (.int .i64 i) = (Maps.has D (.int .i64 i) && decide (((fr + k : Nat) : Int) < i)))
    (h2 : ∀ (i : Int) z, ((fr + k : Nat) : Int) < i → D'.atKey (.int .i64 i) z = D.atKey (.int .i64 i) z) (hpf : Blk wx bf 3 #[.int .i64 ((fr + k : Nat) : Int)]) (hpl : Blk wx bl 3 #[.int .i64 leave]) :
    PlayS w wx p q bf bl br bh B leave (i + 1) (fr + k) (ss.drop k) (tt.drop k) D' := by
  have hl := h.len
  have hll := Wd.lead_le ss
  have e : fr + Wd.lead ss = fr + k + Wd.lead (ss.drop k) := by rw [Wd.lead_drop hk]; omega
  rw [e] at hw1 hw2
  exact ⟨hw1, hw2, h.tie.cut k h1 h2, own_mono hm (by omega), hpf, hpl, K.blk h.pr rfl, K.blk h.ph rfl, h.bel.trans (K.below h.bel.size), ends_drop h.ends k,
    by rw [List.length_drop]; omega, fun j v hv => h.small (k + j) v (by rwa [List.getElem?_drop] at hv), (h.two.kept K (fun _ => by rfl)).drop k, h.apart⟩
end
end Pl
end Go.Proofs.Yteafbljdlcbckaa
