/- SessRef2 SessRef3 -/
import Derived.Test.YtaknfmionkkdjaaGreatFO17
namespace Go.Proofs.YtaknfmionkkdjaaGreat
open Go.RowKit
set_option linter.unusedVariables false
theorem results_cell_tmp {P : Program} {fn : Func} {u p : Tmp} {ty : TypeId} (h : fn.results = #[.cell p ty, .tmp u]) (tmps : Array Value) (w : World) (g : Nat) (t : TypeId) (cs : Array Value) (d : TypeDesc)
    (hp : tmps.getD p undef = .pointer (some ⟨g, 0, none⟩)) (hg : Blk w g t cs)
    (hu : P.underlying ty = some d) (hd : (match d with | .struct _ | .array _ _ => true | _ => false) = true) (hi : (P.info? ty).map (·.size) = some cs.size) :
    (results fn tmps).run P w = .ok (.tuple #[.agg cs, tmps.getD u undef]) w := by
  have hp' : tmps[p]?.getD undef = .pointer (some ⟨g, 0, none⟩) := by simpa using hp
  simp [results, h, hp', asAddr, run_loadVar_row w g t ty cs (0, 0) d hg hu hd hi]
/-- the variable of the answer is written: what the call tells then -/
theorem lookDone {w w2 : World} {A1 : Option Addr} {c1 : Nat} {l : List Nat} {e N k : Int} {en : Ending} (HK : Blk w2 w.heap.size 47 zeroR) (hB : Below w.heap.size w w2) (ho : OwnB w w2 A1 l.length c1 l)
    (he : en = .returned (.tuple #[.agg #[.int .i64 e, .slice A1 l.length c1, .int .i64 N], .int .i64 k])) :
    GotRK w w e l N k en (((w2.setCell ⟨w.heap.size, 0, none⟩ (.int .i64 e)).setCell ⟨w.heap.size, 1, none⟩ (.slice A1 l.length c1)).setCell ⟨w.heap.size, 2, none⟩ (.int .i64 N)) := by
  obtain ⟨k1, k2, k3⟩ := put3 HK (.int .i64 e) (.slice A1 l.length c1) (.int .i64 N)
  have h2 := k2 w (Nat.le_refl _) hB
  exact ⟨A1, c1, he, k3 _ _ _ _ _ _ ho (by decide), h2, h2⟩
set_option maxHeartbeats 2000000 in
set_option maxRecDepth 100000 in
theorem refLook_raw {w : World} {ls : List Ls} {A : Option Addr} {n c B : Nat} (s q : Int) (hn : n ≤ 100000) (hL : LimLs ls) (hr : Tb.Rises ls) (h : RdL w B A n ls) :
    Calls Tryz.prog 55 #[.slice A n c, .int .i64 s, .int .i64 q] w (GotRK w w (Tb.look ls s q).e (Tb.look ls s q).v (Tb.look ls s q).n (Tb.look ls s q).k) := by
  have HL := Lib.hid h.length
  have b0 : Below w.heap.size w (w.alloc (.cells zeroR 47)) := (Below.refl _ _).alloc (Nat.le_refl _) _
  have H := Lib.hid (h.fit.below b0)
  have HLI := Lib.hid hL
  have HRI := Lib.hid hr
  have HB := Lib.hid b0
  have HK := Lib.hid (Blk.new w 47 zeroR)
  clear h hL hr b0
  generalize hres : Tb.look ls s q = r
  have HRES := Lib.hid hres
  clear hres
  by_cases hnm : Tb.named s q
  · have HN := Lib.hid (show decide (Tb.named s q) = true from decide_eq_true hnm)
    have HNM := Lib.hid hnm
    clear hnm
    go_enter Tryz.func55, Tryz.ntmps55
    go_wp2_with fail
    refine (refNamed_any _ s q).mono ?_
    rintro e w1 ⟨rfl, rfl⟩
    rw [HN.out]
    go_wp2_with fail
    refine (refAt_any _ s hn H.out).mono ?_
    rintro e w1 ⟨⟨i, rfl, hat⟩, rfl⟩
    have hi := hat.le
    rw [HL.out] at hi
    have HA := Lib.hid hat
    clear hat
    have HNO : Hid ((∀ l, ls[i]? = some l → l.s ≠ s) → r = if 8 ≤ ls.length then ⟨9, [], 0, 2⟩ else ⟨0, [], 0, 0⟩) := Lib.hid (fun hno => by
      rw [← HRES.out]
      unfold Tb.look
      rw [if_pos HNM.out, HA.out.here_none HRI.out hno])
    have HYES : Hid (∀ l, ls[i]? = some l → l.s = s → r = if q < l.q then ⟨8, [], 0, 2⟩ else if q = l.q then ⟨l.e, l.v, l.n, 1⟩ else ⟨0, [], 0, 0⟩) := Lib.hid (fun l hl hs => by
      rw [← HRES.out]
      unfold Tb.look
      rw [if_pos HNM.out, HA.out.here_some HRI.out hl hs])
    by_cases hin : i = n
    · subst hin
      have HE := Lib.hid (HNO.out (HA.out.none_eq HL.out.symm))
      by_cases h8 : (8 : Int) ≤ (i : Int)
      · have HR : Hid (r = ⟨9, [], 0, 2⟩) := Lib.hid (by rw [HE.out, if_pos (by rw [HL.out]; omega)])
        go_wp2_with fail
        refine (bad_any _ 9).mono ?_
        rintro e w3 ⟨rfl, hb3⟩
        unfold resV
        have HK2 := Lib.hid (HK.out.below hb3)
        have HB2 := Lib.hid (HB.out.trans (hb3.mono HB.out.size))
        clear hb3
        obtain ⟨x0, x1, x2, f0, f1, f2⟩ := three HK2.out
        go_wp2_with fail
        have hr := HR.out
        subst hr
        refine bodyPost_ret (results_cell_tmp rfl _ _ _ _ _ _ rfl (put3 HK2.out _ _ _).1 Tryz.underlying47 rfl (by kernel_rfl)) rfl ?_
        exact lookDone HK2.out HB2.out (own_nil _ _) rfl
      · have HR : Hid (r = ⟨0, [], 0, 0⟩) := Lib.hid (by rw [HE.out, if_neg (by rw [HL.out]; omega)])
        go_wp2_with fail
        have hr := HR.out
        subst hr
        refine bodyPost_ret (results_cell_tmp rfl _ _ _ _ _ _ rfl HK.out Tryz.underlying47 rfl (by kernel_rfl)) rfl ?_
        exact ⟨none, 0, rfl, own_nil _ _, HB.out, HB.out⟩
    · have hlt : i < n := by omega
      have hne : ((i : Int) == (n : Int)) = false := by simp; omega
      have hlti : (i : Int) < (n : Int) := by omega
      obtain ⟨b, o, l, A1, c1, rfl, hl, y0, y1, y2, y3, y4, hrd⟩ := H.out.at hlt
      have HRD := Lib.hid hrd
      have HP := Lib.hid hl
      have hl1 : Lim 0 l.v.length := HLI.out l (List.mem_of_getElem? hl)
      clear hrd hl
      by_cases hs : l.s = s
      · subst hs
        have HE := Lib.hid (HYES.out l HP.out rfl)
        by_cases hq : q < l.q
        · have HR : Hid (r = ⟨8, [], 0, 2⟩) := Lib.hid (by rw [HE.out, if_pos hq])
          go_wp2_with fail
          refine (bad_any _ 8).mono ?_
          rintro e w3 ⟨rfl, hb3⟩
          unfold resV
          have HK2 := Lib.hid (HK.out.below hb3)
          have HB2 := Lib.hid (HB.out.trans (hb3.mono HB.out.size))
          clear hb3
          obtain ⟨x0, x1, x2, f0, f1, f2⟩ := three HK2.out
          go_wp2_with fail
          have hr := HR.out
          subst hr
          refine bodyPost_ret (results_cell_tmp rfl _ _ _ _ _ _ rfl (put3 HK2.out _ _ _).1 Tryz.underlying47 rfl (by kernel_rfl)) rfl ?_
          exact lookDone HK2.out HB2.out (own_nil _ _) rfl
        · by_cases hq2 : q = l.q
          · subst hq2
            have HR : Hid (r = ⟨l.e, l.v, l.n, 1⟩) := Lib.hid (by rw [HE.out, if_neg hq, if_pos rfl])
            go_wp2_with fail
            refine (refResult_any (W := w) _ _ hl1 HRD.out HB.out).mono ?_
            rintro e w3 ⟨A3, c3, rfl, ho3, hB3, hb3⟩
            unfold resV
            have HK2 := Lib.hid (HK.out.below hb3)
            have HB2 := Lib.hid hB3
            have HO := Lib.hid ho3
            clear hb3 hB3 ho3
            obtain ⟨x0, x1, x2, f0, f1, f2⟩ := three HK2.out
            go_wp2_with fail
            have hr := HR.out
            subst hr
            refine bodyPost_ret (results_cell_tmp rfl _ _ _ _ _ _ rfl (put3 HK2.out _ _ _).1 Tryz.underlying47 rfl (by kernel_rfl)) rfl ?_
            exact lookDone HK2.out HB2.out HO.out rfl
          · have hqb : (q == l.q) = false := by simpa using hq2
            have HR : Hid (r = ⟨0, [], 0, 0⟩) := Lib.hid (by rw [HE.out, if_neg hq, if_neg hq2])
            go_wp2_with fail
            have hr := HR.out
            subst hr
            refine bodyPost_ret (results_cell_tmp rfl _ _ _ _ _ _ rfl HK.out Tryz.underlying47 rfl (by kernel_rfl)) rfl ?_
            exact ⟨none, 0, rfl, own_nil _ _, HB.out, HB.out⟩
      · have hsb : (l.s == s) = false := by simpa using hs
        have HE := Lib.hid (HNO.out (fun m hm => by rw [HP.out] at hm; injection hm with hm; subst hm; exact hs))
        by_cases h8 : (8 : Int) ≤ (n : Int)
        · have HR : Hid (r = ⟨9, [], 0, 2⟩) := Lib.hid (by rw [HE.out, if_pos (by rw [HL.out]; omega)])
          go_wp2_with fail
          refine (bad_any _ 9).mono ?_
          rintro e w3 ⟨rfl, hb3⟩
          unfold resV
          have HK2 := Lib.hid (HK.out.below hb3)
          have HB2 := Lib.hid (HB.out.trans (hb3.mono HB.out.size))
          clear hb3
          obtain ⟨x0, x1, x2, f0, f1, f2⟩ := three HK2.out
          go_wp2_with fail
          have hr := HR.out
          subst hr
          refine bodyPost_ret (results_cell_tmp rfl _ _ _ _ _ _ rfl (put3 HK2.out _ _ _).1 Tryz.underlying47 rfl (by kernel_rfl)) rfl ?_
          exact lookDone HK2.out HB2.out (own_nil _ _) rfl
        · have HR : Hid (r = ⟨0, [], 0, 0⟩) := Lib.hid (by rw [HE.out, if_neg (by rw [HL.out]; omega)])
          go_wp2_with fail
          have hr := HR.out
          subst hr
          refine bodyPost_ret (results_cell_tmp rfl _ _ _ _ _ _ rfl HK.out Tryz.underlying47 rfl (by kernel_rfl)) rfl ?_
          exact ⟨none, 0, rfl, own_nil _ _, HB.out, HB.out⟩
  · have HN := Lib.hid (show decide (Tb.named s q) = false from decide_eq_false hnm)
    have HR : Hid (r = ⟨10, [], 0, 2⟩) := Lib.hid (by rw [← HRES.out]; unfold Tb.look; rw [if_neg hnm])
    clear hnm
    go_enter Tryz.func55, Tryz.ntmps55
    go_wp2_with fail
    refine (refNamed_any _ s q).mono ?_
    rintro e w1 ⟨rfl, rfl⟩
    rw [HN.out]
    go_wp2_with fail
    refine (bad_any _ 10).mono ?_
    rintro e w3 ⟨rfl, hb3⟩
    unfold resV
    have HK2 := Lib.hid (HK.out.below hb3)
    have HB2 := Lib.hid (HB.out.trans (hb3.mono HB.out.size))
    clear hb3
    obtain ⟨x0, x1, x2, f0, f1, f2⟩ := three HK2.out
    go_wp2_with fail
    have hr := HR.out
    subst hr
    refine bodyPost_ret (results_cell_tmp rfl _ _ _ _ _ _ rfl (put3 HK2.out _ _ _).1 Tryz.underlying47 rfl (by kernel_rfl)) rfl ?_
    exact lookDone HK2.out HB2.out (own_nil _ _) rfl
theorem refLook_any {W w : World} {ls : List Ls} {A : Option Addr} {n c B : Nat} (s q : Int) (hn : n ≤ 100000) (hL : LimLs ls) (hr : Tb.Rises ls) (h : RdL w B A n ls) (hB : Below W.heap.size W w) :
    Calls Tryz.prog 55 #[.slice A n c, .int .i64 s, .int .i64 q] w (GotRK W w (Tb.look ls s q).e (Tb.look ls s q).v (Tb.look ls s q).n (Tb.look ls s q).k) :=
  (refLook_raw s q hn hL hr h).mono fun e w' h => GotRK.of hB h
end Go.Proofs.YtaknfmionkkdjaaGreat

namespace Go.Proofs.YtaknfmionkkdjaaGreat
open Go.RowKit
set_option linter.unusedVariables false
theorem own_emptyL {W w : World} (hB : Below W.heap.size W w) (t : TypeId) : (w.alloc (.cells #[] t)).ownsRow W.heap.size t 5 (.slice (some ⟨w.heap.size, 0, none⟩) 0 0) 0 [] :=
  World.ownsRow_made w #[] 0 hB.size (by decide) rfl
theorem ownL_at {W w : World} (hB : Below W.heap.size W w) (t : TypeId) {g : Nat} (hg : w.heap.size = g) : (w.alloc (.cells #[] t)).ownsRow W.heap.size t 5 (.slice (some ⟨g, 0, none⟩) 0 0) 0 [] := by
  subst hg; exact own_emptyL hB t
/-- a piece of an own row is written whole -/
theorem OwnL.store {W w : World} {g n c i : Nat} {ls : List Ls} {l : Ls} {A' : Option Addr} {c' : Nat} (h : OwnL W w (some ⟨g, 0, none⟩) n c ls) (hi : i < n) (ho : OwnB W w A' l.v.length c' l.v) :
    OwnL W (((((w.setCell ⟨g, i * 5, none⟩ (.int .i64 l.s)).setCell ⟨g, i * 5 + 1, none⟩ (.int .i64 l.q)).setCell ⟨g, i * 5 + 2, none⟩ (.int .i64 l.e)).setCell ⟨g, i * 5 + 3, none⟩ (.slice A' l.v.length c')).setCell ⟨g, i * 5 + 4, none⟩ (.int .i64 l.n)) (some ⟨g, 0, none⟩) n c (ls.set i l) := by
  obtain ⟨vs, h1, h2⟩ := h
  have hlen : vs.length = n * 5 := h1.1
  obtain ⟨cur, hbk⟩ : ∃ cur, Blk w g 57 cur := by
    rcases own_blk h1 with ⟨q1, _⟩ | ⟨g', cur, q1, _, q2⟩
    · cases q1
    · injection q1 with q1; injection q1 with q1; subst q1; exact ⟨cur, q2⟩
  have k1 := hbk.set_ (i * 5) (.int .i64 l.s)
  have k2 := k1.set_ (i * 5 + 1) (.int .i64 l.q)
  have k3 := k2.set_ (i * 5 + 2) (.int .i64 l.e)
  have k4 := k3.set_ (i * 5 + 3) (.slice A' l.v.length c')
  have r := ((((h1.stored (i * 5) (.int .i64 l.s)).1.stored (i * 5 + 1) (.int .i64 l.q)).1.stored (i * 5 + 2) (.int .i64 l.e)).1.stored (i * 5 + 3) (.slice A' l.v.length c')).1.stored (i * 5 + 4) (.int .i64 l.n)
  have hne : 5 ≠ 57 := by decide
  refine ⟨_, r.1, CellsL.set (vs := vs) (A := A') (c := c') (((((h2.set_t hbk hne).set_t k1 hne).set_t k2 hne).set_t k3 hne).set_t k4 hne) i (own_set_t (own_set_t (own_set_t (own_set_t (own_set_t ho hbk hne) k1 hne) k2 hne) k3 hne) k4 hne) (by simp) (fun j v hv => ?_) (fun k hk => ?_)⟩
  · have hj : j < 5 := by
      rcases Nat.lt_or_ge j 5 with h' | h'
      · exact h'
      · rw [List.getElem?_eq_none (by rw [lastC_length]; exact h')] at hv; cases hv
    have hb : i * 5 + j < vs.length := by omega
    match j, hj with
    | 0, _ => rw [← hv]; simp [List.getElem?_set, lastC]; omega
    | 1, _ => rw [← hv]; simp [List.getElem?_set, lastC]; omega
    | 2, _ => rw [← hv]; simp [List.getElem?_set, lastC]; omega
    | 3, _ => rw [← hv]; simp [List.getElem?_set, lastC]; omega
    | 4, _ => rw [← hv]; simp [List.getElem?_set, lastC]; omega
  · rw [List.getElem?_set_ne (by omega), List.getElem?_set_ne (by omega), List.getElem?_set_ne (by omega), List.getElem?_set_ne (by omega), List.getElem?_set_ne (by omega)]
theorem five5 {w : World} {b : Nat} {t : TypeId} {x y z u v : Value} (h : Blk w b t #[x, y, z, u, v]) :
    w.cell? ⟨b, 0, none⟩ = some x ∧ w.cell? ⟨b, 1, none⟩ = some y ∧ w.cell? ⟨b, 2, none⟩ = some z ∧ w.cell? ⟨b, 3, none⟩ = some u ∧ w.cell? ⟨b, 4, none⟩ = some v :=
  ⟨h.cell 0, h.cell 1, h.cell 2, h.cell 3, h.cell 4⟩
/-- one call of an own row -/
theorem OwnL.at {W w : World} {A : Option Addr} {n c k : Nat} {ls : List Ls} (h : OwnL W w A n c ls) (hk : k < n) : ∃ g l A2 c2, A = some ⟨g, 0, none⟩ ∧ ls[k]? = some l ∧ W.heap.size ≤ g ∧ g < w.heap.size ∧
    w.cell? ⟨g, k * 5, none⟩ = some (.int .i64 l.s) ∧ w.cell? ⟨g, k * 5 + 1, none⟩ = some (.int .i64 l.q) ∧ w.cell? ⟨g, k * 5 + 2, none⟩ = some (.int .i64 l.e) ∧
    w.cell? ⟨g, k * 5 + 3, none⟩ = some (.slice A2 l.v.length c2) ∧ w.cell? ⟨g, k * 5 + 4, none⟩ = some (.int .i64 l.n) ∧ (∀ j, w.frozen? ⟨g, j, none⟩ = false) ∧ OwnB W w A2 l.v.length c2 l.v := by
  have hlen := h.length
  obtain ⟨vs, h1, h2⟩ := h
  obtain ⟨g, rfl, hg1, hg2⟩ := own_addrS h1 (by omega)
  obtain ⟨l, hl⟩ : ∃ l, ls[k]? = some l := ⟨_, List.getElem?_eq_getElem (by omega)⟩
  obtain ⟨A2, c2, e, ho⟩ := h2.cell k l hl
  have hh : ∀ j v, (lastC A2 c2 l)[j]? = some v → w.cell? ⟨g, k * 5 + j, none⟩ = some v := fun j v hv => by
    have hj : j < 5 := by
      rcases Nat.lt_or_ge j 5 with h' | h'
      · exact h'
      · rw [List.getElem?_eq_none (by rw [lastC_length]; exact h')] at hv; cases hv
    exact (h1.cellAt (k * 5 + j) (by omega)).trans (e j v hv)
  exact ⟨g, l, A2, c2, rfl, hl, hg1, hg2, hh 0 _ rfl, hh 1 _ rfl, hh 2 _ rfl, hh 3 _ rfl, hh 4 _ rfl, own_frozenS h1, ho⟩
theorem Blk.rd {w : World} {g : Nat} {t : TypeId} {cs : Array Value} (h : Blk w g t cs) : Rd w w.heap.size (some ⟨g, 0, none⟩) cs.size cs.toList :=
  ⟨by simp, fun _ => ⟨g, 0, rfl, h.lt, fun i hi => by rw [Nat.zero_add, h.cell i]; simp⟩⟩
/-- a row of one call, over what grows another row -/
theorem lastKept {wx wy : World} {g : Nat} {row : Option Nat} {t : TypeId} {A : Option Addr} {c : Nat} {l : Ls} (h : Blk wx g t #[.int .i64 l.s, .int .i64 l.q, .int .i64 l.e, .slice A l.v.length c, .int .i64 l.n]) (hg : wx.grownBy wy row) (hne : some g ≠ row) :
    Rd wy wy.heap.size (some ⟨g, 0, none⟩) (1 * 5) (lastC A c l) := (h.grown hg hne).rd
theorem Blk.newAt (w : World) (t : TypeId) (cs : Array Value) {g : Nat} (hg : w.heap.size = g) : Blk (w.alloc (.cells cs t)) g t cs := by subst hg; exact Blk.new w t cs
/-- what stands ahead of the answer: the table's copy, the place, the new call -/
structure PutAt (w wx : World) (gl c1 n i : Nat) (A1 : Option Addr) (ls : List Ls) (l : Ls) (A3 : Option Addr) (c3 : Nat) : Prop where
  own : OwnL w wx A1 n c1 ls
  lb : Blk wx gl 57 #[.int .i64 l.s, .int .i64 l.q, .int .i64 l.e, .slice A3 l.v.length c3, .int .i64 l.n]
  lo : OwnB w wx A3 l.v.length c3 l.v
  bel : Below w.heap.size w wx
  le : w.heap.size ≤ gl
  at_ : Tb.At ls l.s i
set_option maxHeartbeats 2000000 in
set_option maxRecDepth 100000 in
theorem refPut_raw {w : World} {ls : List Ls} {l : Ls} {A A' : Option Addr} {n c c' B B' : Nat} (hn : n ≤ 100000) (hL : LimLs ls) (hll : Lim 0 l.v.length) (hr : Tb.Rises ls) (h : RdL w B A n ls) (h' : Rd w B' A' l.v.length (bv l.v)) :
    Calls Tryz.prog 58 #[.slice A n c, .int .i64 l.s, .int .i64 l.q, resV l.e A' l.v.length c' l.n] w (GotL w w (Tb.put ls l)) := by
  obtain rfl := h.length
  have b0 : Below w.heap.size w (w.alloc (.cells #[.int .i64 l.e, .slice A' l.v.length c', .int .i64 l.n] 47)) := (Below.refl _ _).alloc (Nat.le_refl _) _
  have H := Lib.hid h.fit
  have H' := Lib.hid h'.fit
  have HLI := Lib.hid hL
  have HRI := Lib.hid hr
  have HB := Lib.hid b0
  have HK := Lib.hid (Blk.new w 47 #[.int .i64 l.e, .slice A' l.v.length c', .int .i64 l.n])
  clear h h' hL hr b0
  unfold resV
  go_enter Tryz.func58, Tryz.ntmps58
  go_wp2_with fail
  refine (refTable_any (W := w) hn HLI.out (H.out.below HB.out) HB.out).mono ?_
  rintro e w1 ⟨A1, c1, rfl, ho1, hB1, hb1⟩
  have HO := Lib.hid ho1
  have HB1 := Lib.hid hB1
  have HK1 := Lib.hid (HK.out.below hb1)
  clear ho1 hb1 hB1
  go_wp2_with fail
  refine (refAt_any _ l.s hn (H.out.below HB1.out)).mono ?_
  rintro e w2 ⟨⟨i, rfl, hat⟩, rfl⟩
  have HA := Lib.hid hat
  have hi := hat.le
  clear hat
  obtain ⟨x0, x1, x2, f0, f1, f2⟩ := three HK1.out
  go_wp2_with fail
  refine (refResult_any (W := w) _ _ hll (H'.out.below HB1.out) HB1.out).mono ?_
  rintro e w3 ⟨A3, c3, rfl, ho3, hB3, hb3⟩
  unfold resV
  have HP : Hid (PutAt w (w3.alloc (.cells #[.int .i64 l.s, .int .i64 l.q, .int .i64 l.e, .slice A3 l.v.length c3, .int .i64 l.n] 57)) w3.heap.size c1 ls.length i A1 ls l A3 c3) := Lib.hid
    ⟨(HO.out.below hb3).below ((Below.refl _ _).alloc (Nat.le_refl _) _), Blk.new _ _ _, own_below ho3 ((Below.refl _ _).alloc (Nat.le_refl _) _), hB3.alloc hB3.size _, hB3.size, HA.out⟩
  clear x0 x1 x2 f0 f1 f2 ho3 hB3 hb3 HK1 HK HB1 HB HA HO H H' HLI
  go_upto_region 4 with fail
  generalize w3.alloc (.cells #[.int .i64 l.s, .int .i64 l.q, .int .i64 l.e, .slice A3 l.v.length c3, .int .i64 l.n] 57) = w4 at HP ⊢
  generalize w3.heap.size = gl at HP ⊢
  clear w3 w1
  by_cases hlt : i < ls.length
  · obtain ⟨g, m, A2, c2, rfl, hm, hg1, hg2, y0, y1, y2, y3, y4, hfz, ho2⟩ := HP.out.own.at hlt
    have HM := Lib.hid hm
    have hlti : (i : Int) < (ls.length : Int) := by omega
    by_cases hs : m.s = l.s
    · have hsb : (m.s == l.s) = true := by simpa using hs
      have HS := Lib.hid hs
      have HG := Lib.hid hg1
      have HFZ := Lib.hid hfz
      clear ho2 hm hs hg1 hg2 hfz
      have f0 := HFZ.out (i * 5)
      have f1 := HFZ.out (i * 5 + 1)
      have f2 := HFZ.out (i * 5 + 2)
      have f3 := HFZ.out (i * 5 + 3)
      have f4 := HFZ.out (i * 5 + 4)
      obtain ⟨x0, x1, x2, x3, x4⟩ := five5 HP.out.lb
      go_wp2_with fail
      go_ret
      have hst := HP.out.own.store hlt HP.out.lo
      have hb := ((((HP.out.bel.setCell (p := ⟨g, i * 5, none⟩) HG.out (.int .i64 l.s)).setCell (p := ⟨g, i * 5 + 1, none⟩) HG.out (.int .i64 l.q)).setCell (p := ⟨g, i * 5 + 2, none⟩) HG.out (.int .i64 l.e)).setCell (p := ⟨g, i * 5 + 3, none⟩) HG.out (.slice A3 l.v.length c3)).setCell (p := ⟨g, i * 5 + 4, none⟩) HG.out (.int .i64 l.n)
      rw [HP.out.at_.put_some HRI.out HM.out HS.out]
      have hel : (ls.set i l).length = ls.length := by simp
      exact ⟨some ⟨g, 0, none⟩, c1, by rw [hel]; rfl, by rw [hel]; exact hst, hb, hb⟩
    · have hsb : (m.s == l.s) = false := by simpa using hs
      have hsp : Tb.put ls l = ls.take i ++ l :: ls.drop i := HP.out.at_.put_none HRI.out (fun m' hm' => by rw [hm] at hm'; injection hm' with hm'; subst hm'; exact hs)
      clear ho2 hm hs y1 y2 y3 y4 hg1 hg2 hfz
      have HSP := Lib.hid hsp
      clear hsp
      have HX := Lib.hid HP.out.own.cap
      obtain ⟨i0, hi0, _, hi1, _⟩ := info_parts cellL.info
      have q1 : ∀ w : World, (Instr.slice 31 (.slice (some ⟨g, 0, none⟩) ls.length c1) none (some (.int .i64 (i : Int))) none).run Tryz.prog w = .ok (.slice (some ⟨g, 0, none⟩) i c1) w :=
        fun w => run_slice_to (P := Tryz.prog) Tryz.underlying31 hi0 (some ⟨g, 0, none⟩) ls.length c1 i (Nat.le_trans hi HX.out) w
      have q2 : ∀ w : World, (Instr.slice 31 (.slice (some ⟨g, 0, none⟩) ls.length c1) (some (.int .i64 (i : Int))) none none).run Tryz.prog w = .ok (.slice (cutS (some ⟨g, 0, none⟩) c1 i 5) (ls.length - i) (c1 - i)) w :=
        fun w => run_slice_fromS_ (P := Tryz.prog) Tryz.underlying31 hi0 hi1 (some ⟨g, 0, none⟩) ls.length c1 i hi w
      obtain ⟨vs, hv1, hv2⟩ := HP.out.own
      have HT1 := Lib.hid ((Rd.ownS hv1 (by omega)).take (Nat.mul_le_mul_right 5 hi))
      have HT2 := Lib.hid ((Rd.ownS hv1 (by omega)).dropS (k := i) hi HX.out)
      have HV := Lib.hid hv2
      have HONE := Lib.hid hv2.one
      clear hi0 hi1 hv1 hv2
      go_upto_region 7 with fail
      obtain ⟨x0, x1, x2, x3, x4⟩ := five5 HP.out.lb
      have BL2 : Hid (Blk ((w4.alloc (.cells #[.int .i64 l.s, .int .i64 l.q, .int .i64 l.e, .slice A3 l.v.length c3, .int .i64 l.n] 57)).alloc (.cells #[] 57)).drew w4.heap.size 57 #[.int .i64 l.s, .int .i64 l.q, .int .i64 l.e, .slice A3 l.v.length c3, .int .i64 l.n]) := Lib.hid ((Blk.newAt w4 _ _ rfl).alloc _).drew
      have BL3 : Hid (Blk ((w4.alloc (.cells #[] 57)).alloc (.cells #[.int .i64 l.s, .int .i64 l.q, .int .i64 l.e, .slice A3 l.v.length c3, .int .i64 l.n] 57)).drew (w4.heap.size + 1) 57 #[.int .i64 l.s, .int .i64 l.q, .int .i64 l.e, .slice A3 l.v.length c3, .int .i64 l.n]) := Lib.hid (Blk.newAt (w4.alloc (.cells #[] 57)) _ _ (World.size_alloc _ _)).drew
      obtain ⟨z0, z1, z2, z3, z4⟩ := five5 (HP.out.lb.below (w' := w4.alloc (.cells #[] 57)) ((Below.refl _ _).alloc (Nat.le_refl _) _))
      have bd : Below w4.heap.size w4 w4.drew := (Below.refl _ _).drew
      go_region_law (first
        | (refine step_append_S (W := w4) cellL (.tmp 40) (.tmp 43) rfl rfl (by rfl) (by first | exact ownL_at bd _ rfl | exact ownL_at (bd.alloc bd.size _) _ (World.size_alloc _ _) | exact ownsRow_below (ownL_at bd _ rfl) ((Below.refl _ _).alloc (Nat.le_refl _) _)) (by rfl) (HT1.out.below (by first | exact bd.alloc bd.size _ | exact (bd.alloc bd.size _).alloc (bd.alloc bd.size _).size _)) (fun u hu => HONE.out u (List.mem_of_mem_take hu)) (by omega) (by omega) (by first | exact bd.alloc bd.size _ | exact (bd.alloc bd.size _).alloc (bd.alloc bd.size _).size _) ?_
           intro A5 c5 w5 hown5 hB5 hg5
           simp only [Nat.zero_add, List.nil_append] at hown5
           obtain ⟨x5, x6, x7, x8, x9⟩ := five5 (HP.out.lb.below hB5))
        | (refine step_append_S (W := w4) cellL (.tmp 44) (.tmp 46) rfl rfl (by rfl) (by first | exact hown5 | exact ownsRow_below hown5 ((Below.refl _ _).alloc (Nat.le_refl _) _)) (by rfl) (by first | exact Rd.lastAt _ A3 c3 l _ rfl | exact lastKept BL2.out hg5 (by intro h; simp [Value.ownBlock] at h) | exact lastKept BL3.out hg5 (by intro h; simp [Value.ownBlock] at h)) (lastC_one _ _ _) (by omega) (by omega) (by first | exact hB5 | exact hB5.alloc hB5.size _) ?_
           intro A6 c6 w6 hown6 hB6 hg6)
        | (refine step_append_S (W := w4) cellL (.tmp 47) (.tmp 50) rfl rfl (by rfl) hown6 (by rfl) (HT2.out.below hB6) (fun u hu => HONE.out u (List.mem_of_mem_drop hu)) (by omega) (by omega) hB6 ?_
           intro A7 c7 w7 hown7 hB7 hg7))
      all_goals go_wp2_with fail
      all_goals go_ret
      all_goals
        have hel : (ls.take i ++ l :: ls.drop i).length = i + 1 + (ls.length - i) := by simp; omega
        have hcs := CellsL.append (CellsL.append (OwnsL.below (CellsL.take HV.out i) hB7) (CellsL.one5 (R := fun A c l => OwnB w w7 A l.length c l) (l := l) (own_below HP.out.lo hB7))) (OwnsL.below (CellsL.drop HV.out i) hB7)
        rw [List.append_assoc (ls.take i), List.singleton_append] at hcs
        have hbb : Below w.heap.size w w7 := HP.out.bel.trans (hB7.mono HP.out.bel.size)
        rw [HSP.out]
        exact ⟨A7, c7, by rw [hel]; rfl, by rw [hel]; exact ⟨_, own_moreL HP.out.bel.size hown7, hcs⟩, hbb, hbb⟩
  · have hsp : Tb.put ls l = ls.take i ++ l :: ls.drop i := HP.out.at_.put_none HRI.out (HP.out.at_.none_eq (by omega))
    have hne : ¬ (i : Int) < (ls.length : Int) := by omega
    have HSP := Lib.hid hsp
    clear hsp
    have HX := Lib.hid HP.out.own.cap
    obtain ⟨i0, hi0, _, hi1, _⟩ := info_parts cellL.info
    have q1 : ∀ w : World, (Instr.slice 31 (.slice A1 ls.length c1) none (some (.int .i64 (i : Int))) none).run Tryz.prog w = .ok (.slice A1 i c1) w :=
      fun w => run_slice_to (P := Tryz.prog) Tryz.underlying31 hi0 A1 ls.length c1 i (Nat.le_trans hi HX.out) w
    have q2 : ∀ w : World, (Instr.slice 31 (.slice A1 ls.length c1) (some (.int .i64 (i : Int))) none none).run Tryz.prog w = .ok (.slice (cutS A1 c1 i 5) (ls.length - i) (c1 - i)) w :=
      fun w => run_slice_fromS_ (P := Tryz.prog) Tryz.underlying31 hi0 hi1 A1 ls.length c1 i hi w
    obtain ⟨vs, hv1, hv2⟩ := HP.out.own
    have HT1 := Lib.hid ((Rd.ownS hv1 (by omega)).take (Nat.mul_le_mul_right 5 hi))
    have HT2 := Lib.hid ((Rd.ownS hv1 (by omega)).dropS (k := i) hi HX.out)
    have HV := Lib.hid hv2
    have HONE := Lib.hid hv2.one
    clear hi0 hi1 hv1 hv2
    go_upto_region 7 with fail
    obtain ⟨x0, x1, x2, x3, x4⟩ := five5 HP.out.lb
    have BL2 : Hid (Blk ((w4.alloc (.cells #[.int .i64 l.s, .int .i64 l.q, .int .i64 l.e, .slice A3 l.v.length c3, .int .i64 l.n] 57)).alloc (.cells #[] 57)).drew w4.heap.size 57 #[.int .i64 l.s, .int .i64 l.q, .int .i64 l.e, .slice A3 l.v.length c3, .int .i64 l.n]) := Lib.hid ((Blk.newAt w4 _ _ rfl).alloc _).drew
    have BL3 : Hid (Blk ((w4.alloc (.cells #[] 57)).alloc (.cells #[.int .i64 l.s, .int .i64 l.q, .int .i64 l.e, .slice A3 l.v.length c3, .int .i64 l.n] 57)).drew (w4.heap.size + 1) 57 #[.int .i64 l.s, .int .i64 l.q, .int .i64 l.e, .slice A3 l.v.length c3, .int .i64 l.n]) := Lib.hid (Blk.newAt (w4.alloc (.cells #[] 57)) _ _ (World.size_alloc _ _)).drew
    obtain ⟨z0, z1, z2, z3, z4⟩ := five5 (HP.out.lb.below (w' := w4.alloc (.cells #[] 57)) ((Below.refl _ _).alloc (Nat.le_refl _) _))
    have bd : Below w4.heap.size w4 w4.drew := (Below.refl _ _).drew
    go_region_law (first
      | (refine step_append_S (W := w4) cellL (.tmp 40) (.tmp 43) rfl rfl (by rfl) (by first | exact ownL_at bd _ rfl | exact ownL_at (bd.alloc bd.size _) _ (World.size_alloc _ _) | exact ownsRow_below (ownL_at bd _ rfl) ((Below.refl _ _).alloc (Nat.le_refl _) _)) (by rfl) (HT1.out.below (by first | exact bd.alloc bd.size _ | exact (bd.alloc bd.size _).alloc (bd.alloc bd.size _).size _)) (fun u hu => HONE.out u (List.mem_of_mem_take hu)) (by omega) (by omega) (by first | exact bd.alloc bd.size _ | exact (bd.alloc bd.size _).alloc (bd.alloc bd.size _).size _) ?_
         intro A5 c5 w5 hown5 hB5 hg5
         simp only [Nat.zero_add, List.nil_append] at hown5
         obtain ⟨x5, x6, x7, x8, x9⟩ := five5 (HP.out.lb.below hB5))
      | (refine step_append_S (W := w4) cellL (.tmp 44) (.tmp 46) rfl rfl (by rfl) (by first | exact hown5 | exact ownsRow_below hown5 ((Below.refl _ _).alloc (Nat.le_refl _) _)) (by rfl) (by first | exact Rd.lastAt _ A3 c3 l _ rfl | exact lastKept BL2.out hg5 (by intro h; simp [Value.ownBlock] at h) | exact lastKept BL3.out hg5 (by intro h; simp [Value.ownBlock] at h)) (lastC_one _ _ _) (by omega) (by omega) (by first | exact hB5 | exact hB5.alloc hB5.size _) ?_
         intro A6 c6 w6 hown6 hB6 hg6)
      | (refine step_append_S (W := w4) cellL (.tmp 47) (.tmp 50) rfl rfl (by rfl) hown6 (by rfl) (HT2.out.below hB6) (fun u hu => HONE.out u (List.mem_of_mem_drop hu)) (by omega) (by omega) hB6 ?_
         intro A7 c7 w7 hown7 hB7 hg7))
    all_goals go_wp2_with fail
    all_goals go_ret
    all_goals
      have hel : (ls.take i ++ l :: ls.drop i).length = i + 1 + (ls.length - i) := by simp; omega
      have hcs := CellsL.append (CellsL.append (OwnsL.below (CellsL.take HV.out i) hB7) (CellsL.one5 (R := fun A c l => OwnB w w7 A l.length c l) (l := l) (own_below HP.out.lo hB7))) (OwnsL.below (CellsL.drop HV.out i) hB7)
      rw [List.append_assoc (ls.take i), List.singleton_append] at hcs
      have hbb : Below w.heap.size w w7 := HP.out.bel.trans (hB7.mono HP.out.bel.size)
      rw [HSP.out]
      exact ⟨A7, c7, by rw [hel]; rfl, by rw [hel]; exact ⟨_, own_moreL HP.out.bel.size hown7, hcs⟩, hbb, hbb⟩
theorem refPutL_any {W w : World} {ls : List Ls} {l : Ls} {A A' : Option Addr} {n c c' B B' : Nat} (hn : n ≤ 100000) (hL : LimLs ls) (hll : Lim 0 l.v.length) (hr : Tb.Rises ls) (h : RdL w B A n ls) (h' : Rd w B' A' l.v.length (bv l.v)) (hB : Below W.heap.size W w) :
    Calls Tryz.prog 58 #[.slice A n c, .int .i64 l.s, .int .i64 l.q, resV l.e A' l.v.length c' l.n] w (GotL W w (Tb.put ls l)) :=
  (refPut_raw hn hL hll hr h h').mono fun e w' h => GotL.of hB h
end Go.Proofs.YtaknfmionkkdjaaGreat

