/- The code's Look. -/
import Derived.Test.YtcmjpjhaaookfaaSessCode1
namespace Go.Proofs.Ytcmjpjhaaookfaa
open Go.RowKit
set_option linter.unusedVariables false
set_option maxHeartbeats 4000000 in
set_option maxRecDepth 100000 in
theorem look9_raw {w : World} {ls : List Ls} {A : Option Addr} {n c B : Nat} (s q : Int) (hn : n ≤ 100000) (hL : LimLs ls) (h : RdL w B A n ls) :
    Calls Try.prog 24 #[.slice A n c, .int .i64 s, .int .i64 q] w (GotRK w w (Tb.look ls s q).e (Tb.look ls s q).v (Tb.look ls s q).n (Tb.look ls s q).k) := by
  obtain rfl := h.length
  have hs0 : w.heap.size < (w.alloc (.cells #[.int .i64 s] 3)).heap.size := by simp
  have b0 : Below w.heap.size w ((w.alloc (.cells #[.int .i64 s] 3)).alloc (.cells zeroR 34)) := ((Below.refl _ _).alloc (Nat.le_refl _) _).alloc (by simp) _
  have H := Lib.hid (h.fit.below b0)
  have HLI := Lib.hid hL
  have HB := Lib.hid b0
  have HK := Lib.hid (Blk.new (w.alloc (.cells #[.int .i64 s] 3)) 34 zeroR)
  have HS := Lib.hid (((Blk.new w 3 #[.int .i64 s]).alloc (.cells zeroR 34)))
  rw [World.size_alloc] at HK
  clear h hL b0 hs0
  generalize hres : Tb.look ls s q = r
  have HRES := Lib.hid hres
  clear hres
  by_cases h1 : 1 ≤ s ∧ s ≤ 1073741824
  · have HD1 := Lib.hid (decide_eq_true h1)
    by_cases h2 : 1 ≤ q ∧ q ≤ 1073741824
    · have HD2 := Lib.hid (decide_eq_true h2)
      have HNM : Hid (Tb.named s q) := Lib.hid ⟨h1.1, h2.1, h1.2, h2.2⟩
      clear h1 h2
      go_enter Try.func24, Try.ntmps24
      go_upto_region 1 with fail
      generalize (w.alloc (.cells #[.int .i64 s] 3)).alloc (.cells #[.int .i64 0, .slice none 0 0, .int .i64 0] 34) = wa at H HB HK HS ⊢
      have hsc := HS.out.cell 0
      go_wp2_with (first
        | (go_at_call 67; refine (isNumber_any _ _).mono ?_; (first | rw [HD1.out] | rw [HD2.out]); rintro e w1 ⟨rfl, rfl⟩)
        | fail)
      refine (indexFunc9_any _ hn H.out hsc).mono ?_
      rintro e w3 ⟨hf, hb3⟩
      have HB3 := Lib.hid (HB.out.trans (hb3.mono HB.out.size))
      have HK3 := Lib.hid (HK.out.below hb3)
      have H3 := Lib.hid (H.out.fit.below hb3).fit
      clear hsc hb3
      rcases hf with ⟨j, l, rfl, hj, hl, hls, hhere⟩ | ⟨rfl, hhere⟩
      · have HP := Lib.hid hl
        have hji : ¬ ((j : Int) < 0) := by omega
        obtain ⟨b, o, l', A1, c1, rfl, hl', y0, y1, y2, y3, y4, hrd⟩ := H3.out.at hj
        rw [hl] at hl'
        injection hl' with hl'
        subst hl'
        have HYES : Hid (r = if q < l.q then ⟨8, [], 0, 2⟩ else if q = l.q then ⟨l.e, l.v, l.n, 1⟩ else ⟨0, [], 0, 0⟩) := Lib.hid (by
          rw [← HRES.out]
          unfold Tb.look
          rw [if_pos HNM.out, hhere])
        have hl1 : Lim 0 l.v.length := HLI.out l (List.mem_of_getElem? hl)
        have HRD := Lib.hid hrd
        have hb' : Below w3.heap.size w3 (w3.alloc (.cells #[.int .i64 l.s, .int .i64 l.q, .int .i64 l.e, .slice A1 l.v.length c1, .int .i64 l.n] 57)) := (Below.refl _ _).alloc (Nat.le_refl _) _
        have HK4 := Lib.hid (HK3.out.below hb')
        have HB4 := Lib.hid (HB3.out.trans (hb'.mono HB3.out.size))
        clear hl hls hhere hrd hb'
        by_cases hq : q < l.q
        · have HR : Hid (r = ⟨8, [], 0, 2⟩) := Lib.hid (by rw [HYES.out, if_pos hq])
          go_wp2_with (first
            | (go_at_call 68; refine (refused_any (W := w) _ HB4.out).mono ?_; rintro en w5 ⟨A2, c2, rfl, ho2, hB2, hb2⟩; unfold resV; simp only [List.length_nil]; have HK2 := Lib.hid (HK4.out.below hb2); obtain ⟨x0, x1, x2, f0, f1, f2⟩ := three HK2.out)
            | fail)
          have hr := HR.out
          subst hr
          refine bodyPost_ret (results_cell_tmp rfl _ _ _ _ _ _ rfl (put3 HK2.out _ _ _).1 Try.underlying34 rfl (by kernel_rfl)) rfl ?_
          exact lookDoneAt HK2.out (by omega) hB2 ho2 rfl
        · by_cases hq2 : q = l.q
          · subst hq2
            have HR : Hid (r = ⟨l.e, l.v, l.n, 1⟩) := Lib.hid (by rw [HYES.out, if_neg hq, if_pos rfl])
            go_wp2_with (first
              | (go_at_call 72; refine (copied9_any (W := w) _ _ hl1 (HRD.out.fit.alloc (Nat.le_refl _) _) HB4.out).mono ?_; rintro en w5 ⟨A2, c2, rfl, ho2, hB2, hb2⟩; unfold resV; have HK2 := Lib.hid (HK4.out.below hb2); obtain ⟨x0, x1, x2, f0, f1, f2⟩ := three HK2.out)
              | fail)
            have hr := HR.out
            subst hr
            refine bodyPost_ret (results_cell_tmp rfl _ _ _ _ _ _ rfl (put3 HK2.out _ _ _).1 Try.underlying34 rfl (by kernel_rfl)) rfl ?_
            exact lookDoneAt HK2.out (by omega) hB2 ho2 rfl
          · have hqb : (q == l.q) = false := by simpa using hq2
            have HR : Hid (r = ⟨0, [], 0, 0⟩) := Lib.hid (by rw [HYES.out, if_neg hq, if_neg hq2])
            obtain ⟨x0, x1, x2, f0, f1, f2⟩ := three HK4.out
            go_wp2_with fail
            have hr := HR.out
            subst hr
            refine bodyPost_ret (results_cell_tmp rfl _ _ _ _ _ _ rfl (put3 HK4.out _ _ _).1 Try.underlying34 rfl (by kernel_rfl)) rfl ?_
            exact lookDoneAt HK4.out (by omega) HB4.out (own_nil _ _) rfl
      · obtain ⟨E, hE⟩ : ∃ E, (if 8 ≤ ls.length then (9 : Int) else 0) = E := ⟨_, rfl⟩
        obtain ⟨K, hK⟩ : ∃ K, (if 8 ≤ ls.length then (2 : Int) else 0) = K := ⟨_, rfl⟩
        have HR : Hid (r = ⟨E, [], 0, K⟩) := Lib.hid (by
          rw [← HRES.out, ← hE, ← hK]
          unfold Tb.look
          rw [if_pos HNM.out, hhere]
          simp only []
          split <;> rfl)
        have HLF := Lib.hid (lookFirst_any (W := w) A ls.length c hn HB3.out)
        rw [hE, hK] at HLF
        clear hhere hE hK
        go_wp2_with (first
          | (go_at_call 71; refine HLF.out.mono ?_; rintro en w5 ⟨A2, c2, rfl, ho2, hB2, hb2⟩; unfold resV; simp only [List.length_nil]; have HK2 := Lib.hid (HK3.out.below hb2); obtain ⟨x0, x1, x2, f0, f1, f2⟩ := three HK2.out)
          | fail)
        have hr := HR.out
        subst hr
        refine bodyPost_ret (results_cell_tmp rfl _ _ _ _ _ _ rfl (put3 HK2.out _ _ _).1 Try.underlying34 rfl (by kernel_rfl)) rfl ?_
        exact lookDoneAt HK2.out (by omega) hB2 ho2 rfl
    · have HD2 := Lib.hid (decide_eq_false h2)
      have HR : Hid (r = ⟨10, [], 0, 2⟩) := Lib.hid (by rw [← HRES.out]; unfold Tb.look; rw [if_neg (by rintro ⟨_, _, _, _⟩; omega)])
      clear h1 h2
      go_enter Try.func24, Try.ntmps24
      go_upto_region 1 with fail
      generalize (w.alloc (.cells #[.int .i64 s] 3)).alloc (.cells #[.int .i64 0, .slice none 0 0, .int .i64 0] 34) = wa at H HB HK HS ⊢
      have hsc := HS.out.cell 0
      go_wp2_with (first
        | (go_at_call 67; refine (isNumber_any _ _).mono ?_; (first | rw [HD1.out] | rw [HD2.out]); rintro e w1 ⟨rfl, rfl⟩)
        | (go_at_call 68; refine (refused_any (W := w) _ HB.out).mono ?_; rintro en w2 ⟨A2, c2, rfl, ho2, hB2, hb2⟩; unfold resV; simp only [List.length_nil]; have HK2 := Lib.hid (HK.out.below hb2); obtain ⟨x0, x1, x2, f0, f1, f2⟩ := three HK2.out)
        | fail)
      have hr := HR.out
      subst hr
      refine bodyPost_ret (results_cell_tmp rfl _ _ _ _ _ _ rfl (put3 HK2.out _ _ _).1 Try.underlying34 rfl (by kernel_rfl)) rfl ?_
      exact lookDoneAt HK2.out (by omega) hB2 ho2 rfl
  · have HD1 := Lib.hid (decide_eq_false h1)
    have HR : Hid (r = ⟨10, [], 0, 2⟩) := Lib.hid (by rw [← HRES.out]; unfold Tb.look; rw [if_neg (by rintro ⟨_, _, _, _⟩; omega)])
    clear h1
    go_enter Try.func24, Try.ntmps24
    go_upto_region 1 with fail
    generalize (w.alloc (.cells #[.int .i64 s] 3)).alloc (.cells #[.int .i64 0, .slice none 0 0, .int .i64 0] 34) = wa at H HB HK HS ⊢
    have hsc := HS.out.cell 0
    go_wp2_with (first
      | (go_at_call 67; refine (isNumber_any _ _).mono ?_; rw [HD1.out]; rintro e w1 ⟨rfl, rfl⟩)
      | (go_at_call 68; refine (refused_any (W := w) _ HB.out).mono ?_; rintro en w2 ⟨A2, c2, rfl, ho2, hB2, hb2⟩; unfold resV; simp only [List.length_nil]; have HK2 := Lib.hid (HK.out.below hb2); obtain ⟨x0, x1, x2, f0, f1, f2⟩ := three HK2.out)
      | fail)
    have hr := HR.out
    subst hr
    refine bodyPost_ret (results_cell_tmp rfl _ _ _ _ _ _ rfl (put3 HK2.out _ _ _).1 Try.underlying34 rfl (by kernel_rfl)) rfl ?_
    exact lookDoneAt HK2.out (by omega) hB2 ho2 rfl
theorem look9 : LookC9 := fun {W w ls A n c B} s q hok hc h hB =>
  (look9_raw s q (by have := h.length; have := hok.len; omega) hok.lim h).mono fun e w' h => GotRK.of hB h
end Go.Proofs.Ytcmjpjhaaookfaa
