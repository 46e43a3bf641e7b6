/- The document's own answer for a table: Look. -/
import Derived.Test.YtcmjpjhaaookfaaSessRef
namespace Go.Proofs.Ytcmjpjhaaookfaa
open Go.RowKit
set_option linter.unusedVariables false
theorem results_cell_tmp {P : Program} {fn : Func} {u p : Tmp} {ty : TypeId} (h : fn.results = #[.cell p ty, .tmp u]) (tmps : Array Value) (w : World) (g : Nat) (t : TypeId) (cs : Array Value) (d : TypeDesc)
    (hp : tmps.getD p undef = .pointer (some ⟨g, 0, none⟩)) (hg : Blk w g t cs)
    (hu : P.underlying ty = some d) (hd : (match d with | .struct _ | .array _ _ => true | _ => false) = true) (hi : (P.info? ty).map (·.size) = some cs.size) :
    (results fn tmps).run P w = .ok (.tuple #[.agg cs, tmps.getD u undef]) w := by
  have hp' : tmps[p]?.getD undef = .pointer (some ⟨g, 0, none⟩) := by simpa using hp
  simp [results, h, hp', asAddr, run_loadVar_row w g t ty cs (0, 0) d hg hu hd hi]
/-- the variable of the answer is written: what the call tells then -/
theorem lookDone {w w2 : World} {A1 : Option Addr} {c1 : Nat} {l : List Nat} {e N k : Int} {en : Ending} (HK : Blk w2 w.heap.size 34 zeroR) (hB : Below w.heap.size w w2) (ho : OwnB w w2 A1 l.length c1 l)
    (he : en = .returned (.tuple #[.agg #[.int .i64 e, .slice A1 l.length c1, .int .i64 N], .int .i64 k])) :
    GotRK w w e l N k en (((w2.setCell ⟨w.heap.size, 0, none⟩ (.int .i64 e)).setCell ⟨w.heap.size, 1, none⟩ (.slice A1 l.length c1)).setCell ⟨w.heap.size, 2, none⟩ (.int .i64 N)) := by
  obtain ⟨k1, k2, k3⟩ := put3 HK (.int .i64 e) (.slice A1 l.length c1) (.int .i64 N)
  have h2 := k2 w (Nat.le_refl _) hB
  exact ⟨A1, c1, he, k3 _ _ _ _ _ _ ho (by decide), h2, h2⟩
set_option maxHeartbeats 2000000 in
set_option maxRecDepth 100000 in
theorem refLook_raw {w : World} {ls : List Ls} {A : Option Addr} {n c B : Nat} (s q : Int) (hn : n ≤ 100000) (hL : LimLs ls) (hr : Tb.Rises ls) (h : RdL w B A n ls) :
    Calls Try.prog 27 #[.slice A n c, .int .i64 s, .int .i64 q] w (GotRK w w (Tb.look ls s q).e (Tb.look ls s q).v (Tb.look ls s q).n (Tb.look ls s q).k) := by
  have HL := Lib.hid h.length
  have b0 : Below w.heap.size w (w.alloc (.cells zeroR 34)) := (Below.refl _ _).alloc (Nat.le_refl _) _
  have H := Lib.hid (h.fit.below b0)
  have HLI := Lib.hid hL
  have HRI := Lib.hid hr
  have HB := Lib.hid b0
  have HK := Lib.hid (Blk.new w 34 zeroR)
  clear h hL hr b0
  generalize hres : Tb.look ls s q = r
  have HRES := Lib.hid hres
  clear hres
  by_cases hnm : Tb.named s q
  · have HN := Lib.hid (show decide (Tb.named s q) = true from decide_eq_true hnm)
    have HNM := Lib.hid hnm
    clear hnm
    go_enter Try.func27, Try.ntmps27
    go_wp2_with fail
    refine (refNamed_any _ s q).mono ?_
    rintro e w1 ⟨rfl, rfl⟩
    rw [HN.out]
    go_wp2_with fail
    refine (refAt_any _ s hn H.out).mono ?_
    rintro e w1 ⟨⟨i, rfl, hat⟩, rfl⟩
    have hi := hat.le
    rw [HL.out] at hi
    have HA := Lib.hid hat
    clear hat
    have HNO : Hid ((∀ l, ls[i]? = some l → l.s ≠ s) → r = if 8 ≤ ls.length then ⟨9, [], 0, 2⟩ else ⟨0, [], 0, 0⟩) := Lib.hid (fun hno => by
      rw [← HRES.out]
      unfold Tb.look
      rw [if_pos HNM.out, HA.out.here_none HRI.out hno])
    have HYES : Hid (∀ l, ls[i]? = some l → l.s = s → r = if q < l.q then ⟨8, [], 0, 2⟩ else if q = l.q then ⟨l.e, l.v, l.n, 1⟩ else ⟨0, [], 0, 0⟩) := Lib.hid (fun l hl hs => by
      rw [← HRES.out]
      unfold Tb.look
      rw [if_pos HNM.out, HA.out.here_some HRI.out hl hs])
    by_cases hin : i = n
    · subst hin
      have HE := Lib.hid (HNO.out (HA.out.none_eq HL.out.symm))
      by_cases h8 : (8 : Int) ≤ (i : Int)
      · have HR : Hid (r = ⟨9, [], 0, 2⟩) := Lib.hid (by rw [HE.out, if_pos (by rw [HL.out]; omega)])
        go_wp2_with fail
        refine (bad_any _ 9).mono ?_
        rintro e w3 ⟨rfl, hb3⟩
        unfold resV
        have HK2 := Lib.hid (HK.out.below hb3)
        have HB2 := Lib.hid (HB.out.trans (hb3.mono HB.out.size))
        clear hb3
        obtain ⟨x0, x1, x2, f0, f1, f2⟩ := three HK2.out
        go_wp2_with fail
        have hr := HR.out
        subst hr
        refine bodyPost_ret (results_cell_tmp rfl _ _ _ _ _ _ rfl (put3 HK2.out _ _ _).1 Try.underlying34 rfl (by kernel_rfl)) rfl ?_
        exact lookDone HK2.out HB2.out (own_nil _ _) rfl
      · have HR : Hid (r = ⟨0, [], 0, 0⟩) := Lib.hid (by rw [HE.out, if_neg (by rw [HL.out]; omega)])
        go_wp2_with fail
        have hr := HR.out
        subst hr
        refine bodyPost_ret (results_cell_tmp rfl _ _ _ _ _ _ rfl HK.out Try.underlying34 rfl (by kernel_rfl)) rfl ?_
        exact ⟨none, 0, rfl, own_nil _ _, HB.out, HB.out⟩
    · have hlt : i < n := by omega
      have hne : ((i : Int) == (n : Int)) = false := by simp; omega
      have hlti : (i : Int) < (n : Int) := by omega
      obtain ⟨b, o, l, A1, c1, rfl, hl, y0, y1, y2, y3, y4, hrd⟩ := H.out.at hlt
      have HRD := Lib.hid hrd
      have HP := Lib.hid hl
      have hl1 : Lim 0 l.v.length := HLI.out l (List.mem_of_getElem? hl)
      clear hrd hl
      by_cases hs : l.s = s
      · subst hs
        have HE := Lib.hid (HYES.out l HP.out rfl)
        by_cases hq : q < l.q
        · have HR : Hid (r = ⟨8, [], 0, 2⟩) := Lib.hid (by rw [HE.out, if_pos hq])
          go_wp2_with fail
          refine (bad_any _ 8).mono ?_
          rintro e w3 ⟨rfl, hb3⟩
          unfold resV
          have HK2 := Lib.hid (HK.out.below hb3)
          have HB2 := Lib.hid (HB.out.trans (hb3.mono HB.out.size))
          clear hb3
          obtain ⟨x0, x1, x2, f0, f1, f2⟩ := three HK2.out
          go_wp2_with fail
          have hr := HR.out
          subst hr
          refine bodyPost_ret (results_cell_tmp rfl _ _ _ _ _ _ rfl (put3 HK2.out _ _ _).1 Try.underlying34 rfl (by kernel_rfl)) rfl ?_
          exact lookDone HK2.out HB2.out (own_nil _ _) rfl
        · by_cases hq2 : q = l.q
          · subst hq2
            have HR : Hid (r = ⟨l.e, l.v, l.n, 1⟩) := Lib.hid (by rw [HE.out, if_neg hq, if_pos rfl])
            go_wp2_with fail
            refine (refResult_any (W := w) _ _ hl1 HRD.out HB.out).mono ?_
            rintro e w3 ⟨A3, c3, rfl, ho3, hB3, hb3⟩
            unfold resV
            have HK2 := Lib.hid (HK.out.below hb3)
            have HB2 := Lib.hid hB3
            have HO := Lib.hid ho3
            clear hb3 hB3 ho3
            obtain ⟨x0, x1, x2, f0, f1, f2⟩ := three HK2.out
            go_wp2_with fail
            have hr := HR.out
            subst hr
            refine bodyPost_ret (results_cell_tmp rfl _ _ _ _ _ _ rfl (put3 HK2.out _ _ _).1 Try.underlying34 rfl (by kernel_rfl)) rfl ?_
            exact lookDone HK2.out HB2.out HO.out rfl
          · have hqb : (q == l.q) = false := by simpa using hq2
            have HR : Hid (r = ⟨0, [], 0, 0⟩) := Lib.hid (by rw [HE.out, if_neg hq, if_neg hq2])
            go_wp2_with fail
            have hr := HR.out
            subst hr
            refine bodyPost_ret (results_cell_tmp rfl _ _ _ _ _ _ rfl HK.out Try.underlying34 rfl (by kernel_rfl)) rfl ?_
            exact ⟨none, 0, rfl, own_nil _ _, HB.out, HB.out⟩
      · have hsb : (l.s == s) = false := by simpa using hs
        have HE := Lib.hid (HNO.out (fun m hm => by rw [HP.out] at hm; injection hm with hm; subst hm; exact hs))
        by_cases h8 : (8 : Int) ≤ (n : Int)
        · have HR : Hid (r = ⟨9, [], 0, 2⟩) := Lib.hid (by rw [HE.out, if_pos (by rw [HL.out]; omega)])
          go_wp2_with fail
          refine (bad_any _ 9).mono ?_
          rintro e w3 ⟨rfl, hb3⟩
          unfold resV
          have HK2 := Lib.hid (HK.out.below hb3)
          have HB2 := Lib.hid (HB.out.trans (hb3.mono HB.out.size))
          clear hb3
          obtain ⟨x0, x1, x2, f0, f1, f2⟩ := three HK2.out
          go_wp2_with fail
          have hr := HR.out
          subst hr
          refine bodyPost_ret (results_cell_tmp rfl _ _ _ _ _ _ rfl (put3 HK2.out _ _ _).1 Try.underlying34 rfl (by kernel_rfl)) rfl ?_
          exact lookDone HK2.out HB2.out (own_nil _ _) rfl
        · have HR : Hid (r = ⟨0, [], 0, 0⟩) := Lib.hid (by rw [HE.out, if_neg (by rw [HL.out]; omega)])
          go_wp2_with fail
          have hr := HR.out
          subst hr
          refine bodyPost_ret (results_cell_tmp rfl _ _ _ _ _ _ rfl HK.out Try.underlying34 rfl (by kernel_rfl)) rfl ?_
          exact ⟨none, 0, rfl, own_nil _ _, HB.out, HB.out⟩
  · have HN := Lib.hid (show decide (Tb.named s q) = false from decide_eq_false hnm)
    have HR : Hid (r = ⟨10, [], 0, 2⟩) := Lib.hid (by rw [← HRES.out]; unfold Tb.look; rw [if_neg hnm])
    clear hnm
    go_enter Try.func27, Try.ntmps27
    go_wp2_with fail
    refine (refNamed_any _ s q).mono ?_
    rintro e w1 ⟨rfl, rfl⟩
    rw [HN.out]
    go_wp2_with fail
    refine (bad_any _ 10).mono ?_
    rintro e w3 ⟨rfl, hb3⟩
    unfold resV
    have HK2 := Lib.hid (HK.out.below hb3)
    have HB2 := Lib.hid (HB.out.trans (hb3.mono HB.out.size))
    clear hb3
    obtain ⟨x0, x1, x2, f0, f1, f2⟩ := three HK2.out
    go_wp2_with fail
    have hr := HR.out
    subst hr
    refine bodyPost_ret (results_cell_tmp rfl _ _ _ _ _ _ rfl (put3 HK2.out _ _ _).1 Try.underlying34 rfl (by kernel_rfl)) rfl ?_
    exact lookDone HK2.out HB2.out (own_nil _ _) rfl
theorem refLook_any {W w : World} {ls : List Ls} {A : Option Addr} {n c B : Nat} (s q : Int) (hn : n ≤ 100000) (hL : LimLs ls) (hr : Tb.Rises ls) (h : RdL w B A n ls) (hB : Below W.heap.size W w) :
    Calls Try.prog 27 #[.slice A n c, .int .i64 s, .int .i64 q] w (GotRK W w (Tb.look ls s q).e (Tb.look ls s q).v (Tb.look ls s q).n (Tb.look ls s q).k) :=
  (refLook_raw s q hn hL hr h).mono fun e w' h => GotRK.of hB h
end Go.Proofs.Ytcmjpjhaaookfaa
