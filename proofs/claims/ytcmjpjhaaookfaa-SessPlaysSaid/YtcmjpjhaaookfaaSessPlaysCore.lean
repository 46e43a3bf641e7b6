/- SessPlays: the walk, over any contracts of the code's. -/
import Derived.Test.YtcmjpjhaaookfaaSessC0
import Derived.Test.YtcmjpjhaaookfaaBitsKit
import Derived.Test.YtcmjpjhaaookfaaConstKit
namespace Go.Proofs.Ytcmjpjhaaookfaa
open Go.RowKit
set_option linter.unusedVariables false
/-- what is new may be put, and fits -/
theorem look_new {ls : List Ls} {s q : Int} (h8 : ls.length ≤ 8) (hr : Tb.Rises ls) (h : (Tb.look ls s q).k = 0) : Tb.named s q ∧ ∀ e v n, (Tb.put ls ⟨s, q, e, v, n⟩).length ≤ 8 := by
  unfold Tb.look at h
  split at h
  · rename_i hn
    refine ⟨hn, fun e v n => ?_⟩
    rw [Tb.length_put hr]
    show (if (Tb.here ls s).isSome = true then _ else _) ≤ 8
    cases hh : Tb.here ls s with
    | some l => simpa using h8
    | none =>
      rw [hh] at h
      simp only at h
      split at h
      · cases h
      · simp; omega
  · cases h
theorem refPut_is {W w : World} {ls ls' : List Ls} {A A' : Option Addr} {n c c' B B' : Nat} (s q e : Int) (v : List Nat) (N : Int) {m : Nat} (hm : v.length = m) (hp : Tb.put ls ⟨s, q, e, v, N⟩ = ls') (hn : n ≤ 100000) (hL : LimLs ls) (hll : Lim 0 m) (hr : Tb.Rises ls) (h : RdL w B A n ls) (h' : Rd w B' A' m (bv v)) (hB : Below W.heap.size W w) :
    Calls Try.prog 28 #[.slice A n c, .int .i64 s, .int .i64 q, .agg #[.int .i64 e, .slice A' m c', .int .i64 N]] w (GotL W w ls') := by
  subst hm hp
  exact refPutL_any (l := ⟨s, q, e, v, N⟩) hn hL hll hr h h' hB
/-- one table, twice -/
structure Both (w wx : World) (A1 A2 : Option Addr) (n c1 c2 : Nat) (ls : List Ls) : Prop where
  own1 : OwnL w wx A1 n c1 ls
  own2 : OwnL w wx A2 n c2 ls
  bel : Below w.heap.size w wx
  ok : Tb.Ok ls
  few : ls.length ≤ 8
theorem Both.below {w wx wy : World} {A1 A2 : Option Addr} {n c1 c2 : Nat} {ls : List Ls} (h : Both w wx A1 A2 n c1 c2 ls) (hb : Below wx.heap.size wx wy) : Both w wy A1 A2 n c1 c2 ls :=
  ⟨h.own1.below hb, h.own2.below hb, h.bel.trans (hb.mono h.bel.size), h.ok, h.few⟩
theorem rdOne (w : World) (x : Nat) (t : TypeId) {g : Nat} (hg : w.heap.size = g) : Rd (w.alloc (.cells #[.int .u8 (x : Int)] t)) (g + 1) (some ⟨g, 0, none⟩) 1 (bv [x]) := by subst hg; exact Rd.one w x t
set_option maxHeartbeats 4000000 in
set_option maxRecDepth 100000 in
theorem sessPlays_core (hL : LookC9) (hP : PutC9) (hA : AwakeC9) (a0 : Option Addr) (len0 cap0 : Nat) (z0 : List Int) (a1 : Bool) (w : World) (w0 : IsRow .i64 w a0 len0 cap0 z0) :
    Calls Try.prog 10 #[.slice a0 len0 cap0, .bool a1] w fun e w' => e = .returned (.bool true) ∧ Below w.heap.size w w' := by
  obtain ⟨hz, hzl, hle0, hcap0⟩ := w0.ints
  obtain ⟨zs, hzs⟩ : ∃ zs, zs = z0.take len0 := ⟨_, rfl⟩
  rw [← hzs] at hz hzl
  have HZ := Lib.hid hz
  have HZL := Lib.hid hzl
  clear w0 hcap0 hzs hz hle0 hzl
  go_enter Try.func10, Try.ntmps10
  go_wp2_with fail
  go_loopw [5, 6, 7] (fun s5 s6 s7 wr => ∃ (i n c1 c2 : Nat) (A1 A2 : Option Addr) (ls : List Ls), i ≤ 60 ∧ s7 = .int .i64 (i : Int) ∧ s5 = .slice A1 n c1 ∧ s6 = .slice A2 n c2 ∧ Hid (Both w wr A1 A2 n c1 c2 ls)) (fun _ _ s7 _ => 60 - (intOf s7).toNat)
  case atStart => exact ⟨0, 0, 0, 0, none, none, [], by omega, rfl, rfl, rfl, Lib.hid ⟨OwnL.nil w w, OwnL.nil w w, Below.refl _ _, Tb.Ok.nil, by simp⟩⟩
  case round =>
    obtain ⟨i, n, c1, c2, A1, A2, ls, hi, rfl, rfl, rfl, HB⟩ := hrel
    by_cases h1 : (i : Int) < (len0 : Int)
    · by_cases h3 : (i : Int) < 60
      · obtain ⟨p, hp⟩ : ∃ p, zs[i]? = some p := ⟨_, List.getElem?_eq_getElem (by have := HZL.out; omega)⟩
        obtain ⟨b0, o0, rfl, _⟩ := (HZ.out.below HB.out.bel).int_at (k := i) (by omega)
        have y0 := (HZ.out.below HB.out.bel).int_cell (k := i) (by omega) hp
        have hw6 : IntKind.i64.wrap ((i : Int) + 1) = (i : Int) + 1 := IntWalk.i64_in _ (by omega)
        have hi0 : (0 : Int) ≤ (i : Int) := by omega
        clear hp
        go_upto_region 5 with fail
        have y0d : wr.drew.cell? ⟨b0, o0 + i, none⟩ = some (.int .i64 p) := y0
        go_quiet (fail)
        have y1 : (wr.drewN nq).cell? ⟨b0, o0 + i, none⟩ = some (.int .i64 p) := y0
        go_upto_if 34 with fail
        go_cut [8, 9] from 35 to 45 (fun s8 s9 wx => ∃ s q : Int, s8 = .int .i64 s ∧ s9 = .int .i64 q ∧ ∃ m, wx = wr.drewN m)
        case first =>
          cases a1
          case false =>
            go_wp2_with fail
            go_meet
            exact ⟨_, _, rfl, rfl, _, rfl⟩
          case true =>
            go_upto_region 7 with fail
            go_quiet (fail)
            go_wp2_with fail
            go_meet
            exact ⟨_, _, rfl, rfl, _, World.drewN_drewN _ _ _⟩
        case rest =>
          obtain ⟨s, q, rfl, rfl, m, hm⟩ := hcut
          clear y0 y0d y1
          have HB1 : Hid (Both w wc (A1) A2 n c1 c2 ls) := Lib.hid (by rw [hm]; exact HB.out.below (belowN_dS wr m))
          clear hm HB
          have hok := HB1.out.ok
          have hn1 : n ≤ 100000 := by have h5 := HB1.out.own1.length; have h6 := HB1.out.few; omega
          have HV := Lib.hid (Tb.look_vb hok s q)
          have HNEW := Lib.hid (fun h => look_new (s := s) (q := q) HB1.out.few hok.rises h)
          go_wp2_with fail
          have hlk := hL (W := w) s q hok HB1.out.own1.cap HB1.out.own1.rd HB1.out.bel
          generalize hans : Tb.look ls s q = r at HV HNEW hlk
          have HANS := Lib.hid hans
          clear hans
          obtain ⟨e, v, N, k⟩ := r
          refine hlk.mono ?_
          clear hlk
          rintro en w1 ⟨A3, c3, rfl, ho3, hB, hb⟩
          unfold resV
          have hb' := hb.alloc hb.size (.cells #[.int .i64 e, .slice A3 v.length c3, .int .i64 N] 34)
          have HB2 := Lib.hid (HB1.out.below hb')
          have HK1 := Lib.hid (Blk.new w1 34 #[.int .i64 e, .slice A3 v.length c3, .int .i64 N])
          have HO3 := Lib.hid (own_below ho3 ((Below.refl _ _).alloc (Nat.le_refl _) (.cells #[.int .i64 e, .slice A3 v.length c3, .int .i64 N] 34)))
          clear ho3 hB hb hb' HB1
          go_wp2_with fail
          have hlk := refLook_any (c := c2) (W := w) s q hn1 hok.lim hok.rises HB2.out.own2.rd HB2.out.bel
          rw [HANS.out] at hlk
          refine hlk.mono ?_
          clear hlk
          rintro en w2 ⟨A4, c4, rfl, ho4, hB, hb⟩
          unfold resV
          have hb' := hb.alloc hb.size (.cells #[.int .i64 e, .slice A4 v.length c4, .int .i64 N] 34)
          have HB3 := Lib.hid (HB2.out.below hb')
          have HK1 := Lib.hid (HK1.out.below hb')
          have HO3 := Lib.hid (own_below HO3.out hb')
          have HK2 := Lib.hid (Blk.new w2 34 #[.int .i64 e, .slice A4 v.length c4, .int .i64 N])
          have HO4 := Lib.hid (own_below ho4 ((Below.refl _ _).alloc (Nat.le_refl _) (.cells #[.int .i64 e, .slice A4 v.length c4, .int .i64 N] 34)))
          clear ho4 hB hb hb' HB2
          obtain ⟨x0, x1, x2, _, _, _⟩ := three HK1.out
          obtain ⟨y0, y1, y2, _, _, _⟩ := three HK2.out
          go_wp2_with fail
          refine (same_is _ e N HV.out (Rd.own_ HO3.out) (Rd.own_ HO4.out)).mono ?_
          rintro en w3 ⟨rfl, hb⟩
          have HB4 := Lib.hid (HB3.out.below hb)
          clear hb HB3 x0 x1 x2 y0 y1 y2 HK1 HK2 HO3 HO4
          have h8n : ¬ (8 : Int) < (n : Int) := by have h5 := HB4.out.own1.length; have h6 := HB4.out.few; omega
          by_cases hk : k = 0
          · subst hk
            obtain ⟨hnm, hfew⟩ := HNEW.out rfl
            have hcv : IntKind.u8.wrap (i : Int) = (i : Int) := by unfold IntKind.wrap; simp [IntKind.signed, IntKind.bits]; omega
            go_upto_region 14 with fail
            have hbb : Below w3.heap.size w3 ((w3.alloc (.cells #[.int .u8 (i : Int)] 5)).alloc (.cells #[.int .i64 0, .slice (some ⟨w3.heap.size, 0, none⟩) 1 1, .int .i64 (i : Int)] 34)) := ((Below.refl _ _).alloc (Nat.le_refl _) _).alloc (by simp) _
            have HB5 := Lib.hid (HB4.out.below hbb)
            have HR5 := Lib.hid ((rdOne w3 i 5 rfl).below (w' := (w3.alloc (.cells #[.int .u8 (i : Int)] 5)).alloc (.cells #[.int .i64 0, .slice (some ⟨w3.heap.size, 0, none⟩) 1 1, .int .i64 (i : Int)] 34)) ((Below.refl _ _).alloc (by simp) _))
            have HK5 := Lib.hid (Blk.newAt (w3.alloc (.cells #[.int .u8 (i : Int)] 5)) 34 #[.int .i64 0, .slice (some ⟨w3.heap.size, 0, none⟩) 1 1, .int .i64 (i : Int)] (World.size_alloc _ _))
            generalize (w3.alloc (.cells #[.int .u8 (i : Int)] 5)).alloc (.cells #[.int .i64 0, .slice (some ⟨w3.heap.size, 0, none⟩) 1 1, .int .i64 (i : Int)] 34) = w5 at HB5 HR5 HK5 ⊢
            generalize w3.heap.size = g at HR5 HK5 ⊢
            clear hbb HB4
            obtain ⟨ls2, hls2⟩ : ∃ ls2, Tb.put ls ⟨s, q, 0, [i], (i : Int)⟩ = ls2 := ⟨_, rfl⟩
            have hok2 : Tb.Ok ls2 := by rw [← hls2]; exact Tb.Ok.put hok (by have h6 := HB5.out.few; omega) hnm (by show 1 ≤ 16; omega) (by intro x hx; simp at hx; omega)
            have hf2 : ls2.length ≤ 8 := by rw [← hls2]; exact hfew _ _ _
            have HLS := Lib.hid hls2
            have bd : Below w5.heap.size w5 w5.drew := (Below.refl _ _).drew
            have HBd := Lib.hid (HB5.out.below bd)
            have HRd := Lib.hid (HR5.out.fit.below bd)
            have HKd := Lib.hid (HK5.out.below bd)
            obtain ⟨x0, x1, x2, _, _, _⟩ := three HK5.out
            clear bd hls2
            go_region_law (first
              | (rw [if_pos (by kernel_rfl)]; go_simp; go_at_call 25; refine (hP.is (W := w) (ls' := ls2) s q 0 [i] (i : Int) (m := 1) rfl HLS.out hok hnm (by omega) (by intro x hx; simp at hx; omega) HBd.out.own1.cap HBd.out.own1.rd HRd.out HBd.out.bel).mono ?_; rintro en w6 ⟨A5, c5, rfl, ho5, hB6, hb6⟩; obtain ⟨y0, y1, y2, _, _, _⟩ := three (HKd.out.below hb6); go_simp)
              | (rw [if_pos (by kernel_rfl)]; go_simp; go_at_call 28; refine (refPut_is (W := w) (ls' := ls2) s q 0 [i] (i : Int) (m := 1) rfl HLS.out hn1 hok.lim (by unfold Lim; omega) hok.rises (HBd.out.below hb6).own2.rd (HRd.out.fit.below hb6) hB6).mono ?_; rintro en w7 ⟨A6, c6, rfl, ho6, hB7, hb7⟩; go_simp))
            all_goals go_wp2_with fail
            all_goals refine (sameTable_is _ (by omega) hok2.bytes (ho5.below hb7).rd ho6.rd).mono ?_
            all_goals rintro en w8 ⟨rfl, hb8⟩
            all_goals have h8m : ¬ (8 : Int) < (ls2.length : Int) := by omega
            all_goals go_wp2_with fail
            all_goals go_roundw
            all_goals first
              | (simp only [intOf]; omega)
              | exact ⟨i + 1, ls2.length, c5, c6, A5, A6, ls2, by omega, by go_num, rfl, rfl, Lib.hid ⟨(ho5.below hb7).below hb8, ho6.below hb8, hB7.trans (hb8.mono hB7.size), hok2, hf2⟩⟩
          · have hkb : (k == 0) = false := by simpa using hk
            go_wp2_with fail
            refine (sameTable_is _ hn1 hok.bytes HB4.out.own1.rd HB4.out.own2.rd).mono ?_
            rintro en w4 ⟨rfl, hb⟩
            have HB5 := Lib.hid (HB4.out.below hb)
            clear hb HB4
            go_wp2_with fail
            go_roundw
            case rel => exact ⟨i + 1, n, c1, c2, A1, A2, ls, by omega, by go_num, rfl, rfl, HB5⟩
            case measure => simp only [intOf]; omega
      · go_wp2_with fail
        refine (hA _).mono ?_
        rintro e w2 ⟨rfl, hb2⟩
        go_wp2_with fail
        go_ret
        exact ⟨rfl, HB.out.bel.trans (hb2.mono HB.out.bel.size)⟩
    · go_wp2_with fail
      refine (hA _).mono ?_
      rintro e w2 ⟨rfl, hb2⟩
      go_wp2_with fail
      go_ret
      exact ⟨rfl, HB.out.bel.trans (hb2.mono HB.out.bel.size)⟩
end Go.Proofs.Ytcmjpjhaaookfaa
