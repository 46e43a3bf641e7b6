/- WindHoles: the walk. -/
import Derived.Test.YtomiobnjllaalaaWindMI
import Derived.Test.YtomiobnjllaalaaWindAwake
import Derived.Test.YtomiobnjllaalaaBitsKit
namespace Go.Proofs.Ytomiobnjllaalaa
open Go.RowKit
set_option linter.unusedVariables false
/-- flags as values -/
def bl (l : List Bool) : List Value := l.map Value.bool
theorem bl_get {l : List Bool} {k : Nat} {b : Bool} (h : l[k]? = some b) : (bl l)[k]? = some (.bool b) := by unfold bl; rw [List.getElem?_map, h]; rfl
theorem made_flags (n : Nat) : (madeCells (Value.bool false).cells (n * 1)).toList = bl (List.replicate n false) := by
  apply List.ext_getElem?
  intro i
  rw [Nat.mul_one]
  rcases Nat.lt_or_ge i n with h | h
  · rw [bl_get (b := false) (by simp [h])]
    simp [madeCells, Value.cells, h, Nat.mod_one]
  · rw [List.getElem?_eq_none (by simpa [madeCells] using h), List.getElem?_eq_none (by simpa [bl] using h)]
theorem flag_set {w : World} {base n c g : Nat} {e : TypeId} {l : List Bool} (h : w.ownsRow base e 1 (.slice (some ⟨g, 0, none⟩) n c) n (bl l)) (j : Nat) (b : Bool) :
    (w.setCell ⟨g, j, none⟩ (.bool b)).ownsRow base e 1 (.slice (some ⟨g, 0, none⟩) n c) n (bl (l.set j b)) := by
  have := (h.stored j (.bool b)).1
  unfold bl at this ⊢
  rw [List.map_set]
  exact this
theorem flag_cell {w : World} {base n c g : Nat} {e : TypeId} {l : List Bool} (h : w.ownsRow base e 1 (.slice (some ⟨g, 0, none⟩) n c) n (bl l)) {j : Nat} (hj : j < n) {b : Bool} (hb : l[j]? = some b) : w.cell? ⟨g, j, none⟩ = some (.bool b) := by
  rw [h.cellAt j (by omega), bl_get hb]
theorem flag_blk {w : World} {base n c g : Nat} {e : TypeId} {l : List Bool} (hn : 0 < n) (h : w.ownsRow base e 1 (.slice (some ⟨g, 0, none⟩) n c) n (bl l)) : ∃ cur, Blk w g e cur ∧ base ≤ g := by
  rcases h.2 with ⟨h1, h2⟩ | ⟨g', cap, cur, hv, hb, hh, _⟩
  · omega
  · injection hv with h1
    injection h1 with h1
    injection h1 with h1
    subst h1
    exact ⟨cur, hh, hb⟩
theorem boolT : (Try.prog.info? 4).map (fun i => (i.zero, i.size, i.bytes)) = some (some (.bool false), 1, 1) := by kernel_rfl
theorem intC : CellT Try.prog 22 3 (.int .i64 0) 8 := ⟨Try.underlying22, by kernel_rfl, rfl⟩
/-- the window and its flags -/
def HolS (W w : World) (p g N : Nat) (hs : List Bool) (ss : List (Option Int)) : Prop :=
  WI.WinR w W.heap.size p 100 (100 + Wd.lead ss) ss ∧ w.ownsRow W.heap.size 4 1 (.slice (some ⟨g, 0, none⟩) N N) N (bl hs) ∧ Below W.heap.size W w ∧ Wd.Rel N hs ss
/-- a Put of a number that may be, and what it answers -/
theorem hol_put {W w : World} {p g N : Nat} {hs : List Bool} {ss : List (Option Int)} (h : HolS W w p g N hs ss) (hN : N ≤ 34) (q : Nat) (hq : q + 2 < N) (fl : Bool) (hf : hs[q + 1]? = some fl) :
    Calls Try.prog 9 #[.pointer (some ⟨p, 0, none⟩), .int .i64 (100 + ((q : Int) + 1)), .int .i64 ((q : Int) + 1)] w fun e w' => e = .returned (.bool (!fl)) ∧
      (∃ tt, WI.WinR w' W.heap.size p 100 (100 + Wd.lead tt) tt ∧ Wd.Rel N (hs.set (q + 1) true) tt) ∧ w'.ownsRow W.heap.size 4 1 (.slice (some ⟨g, 0, none⟩) N N) N (bl hs) ∧ Below W.heap.size W w' := by
  obtain ⟨h1, h2, h3, h4⟩ := h
  have hll := Wd.lead_le ss
  have hfi := h4.fits
  have hfl : ss[q]?.join.isSome = fl := by have := h4.flag q (by omega); rw [hf] at this; injection this with this; exact this.symm
  cases fl with
  | true =>
    refine (WI.put_not h1 (by unfold WI.Fit; omega) _ ((q : Int) + 1) (.inr (.inr ?_))).mono fun e w' ⟨g1, g2, g3⟩ => ⟨g1, ⟨ss, g2, by rw [h4.same _ hf]; exact h4⟩, g3.own h2 (by decide) (by decide), h3.trans (g3.below h3.size)⟩
    have hlt : q < ss.length := by
      rcases Nat.lt_or_ge q ss.length with h | h
      · exact h
      · rw [List.getElem?_eq_none h] at hfl; cases hfl
    have e : (100 + ((q : Int) + 1)) = ((100 + 1 + q : Nat) : Int) := by omega
    rw [e, Wd.hasB_at hlt]
    rw [List.getElem?_eq_getElem hlt] at hfl
    simpa using hfl
  | false =>
    have hno : ss[q]?.join = none := by
      cases hj : ss[q]?.join with
      | none => rfl
      | some v => rw [hj] at hfl; cases hfl
    exact (WI.put_is h1 h3.size rfl _ q ((q : Int) + 1) _ _ (by omega) (by omega) hno (by unfold WI.Fit; omega) rfl rfl).mono fun e w' ⟨g1, g2, g3⟩ => ⟨g1, ⟨_, g2, h4.put q _ hq⟩, g3.own h2 (by decide) (by decide), h3.trans (g3.below h3.size)⟩
theorem hol_below {W w w2 : World} {p g N : Nat} {hs : List Bool} {ss : List (Option Int)} (h : HolS W w p g N hs ss) (hB : Below w.heap.size w w2) : HolS W w2 p g N hs ss := by
  obtain ⟨h1, h2, h3, h4⟩ := h
  exact ⟨h1.below hB, ownsRow_below h2 hB, h3.trans (hB.mono h3.size), h4⟩
theorem hol_grown {W w w2 : World} {p g N : Nat} {hs : List Bool} {ss : List (Option Int)} (h : HolS W w p g N hs ss) (hN : 0 < N) {A : Option Addr} {n c B : Nat} {xs : List Value} (ho : w.ownsRow B 3 1 (.slice A n c) n xs) (hB : Below W.heap.size W w2) (hg : w.grownBy w2 (Value.slice A n c).ownBlock) : HolS W w2 p g N hs ss := by
  rcases own_blk ho with ⟨rfl, _, _⟩ | ⟨g', cur, rfl, _, hb⟩
  · exact hol_below h ⟨hg.os, hg.tape, hg.output, hg.size, fun k hk => hg.block k hk (by simp [Value.ownBlock])⟩
  · obtain ⟨h1, h2, h3, h4⟩ := h
    have hg' : w.grownBy w2 (some g') := hg
    obtain ⟨cu, hgb, _⟩ := flag_blk hN h2
    refine ⟨h1.grown hg' hb (by decide) (by decide), h2.kept hg' (.inr ?_), hB, h4⟩
    intro e
    have e' : g = g' := by simpa [Value.ownBlock] using e
    exact hgb.apart hb (by decide) e'
set_option maxRecDepth 100000 in
set_option maxHeartbeats 4000000 in
theorem windHoles_walk (a0 : Int) (a1 : Option Addr) (len1 cap1 : Nat) (z1 : List Int) (a2 : Int) (w : World) (w0 : (Lit.int .i64 a0).wf = true) (w1 : IsRow .i64 w a1 len1 cap1 z1) (w2 : (Lit.int .i64 a2).wf = true) :
    Calls Try.prog 3 #[.int .i64 a0, .slice a1 len1 cap1, .int .i64 a2] w fun e w' => e = .returned (.bool true) ∧ Below w.heap.size w w' := by
  clear w0 w2
  obtain ⟨hz1, hzl1, hle1, hcap1⟩ := w1.ints
  obtain ⟨zs, hzs⟩ : ∃ zs, zs = z1.take len1 := ⟨_, rfl⟩
  rw [← hzs] at hz1 hzl1
  have hn1 : len1 ≤ 9223372036854775807 := Nat.le_trans hle1 hcap1
  have e1 := and_31 a0
  have e2 := and_15 a2
  obtain ⟨n, hn⟩ : ∃ n : Nat, (n : Int) = a0 % 32 + 1 := ⟨(a0 % 32 + 1).toNat, by omega⟩
  obtain ⟨mo, hmo⟩ : ∃ m : Nat, (m : Int) = a2 % 16 := ⟨(a2 % 16).toNat, by omega⟩
  have hn0 : 1 ≤ n := by omega
  have hn32 : n ≤ 32 := by omega
  have hm15 : mo ≤ 15 := by omega
  have ew : IntKind.i64.wrap (a0 % 32 + 1) = (n : Int) := by rw [← hn]; exact IntWalk.i64_in _ (by omega)
  rw [← hmo] at e2
  have hni : (n : Int) ≤ 32 := by omega
  have hni0 : 1 ≤ (n : Int) := by omega
  have H1 := Lib.hid hz1
  have HL1 := Lib.hid hzl1
  clear hz1 hzl1 hle1 hcap1 w1 hzs hn hmo
  go_enter Try.func3, Try.ntmps3
  go_wp2_with fail
  refine (WI.new_any w 100).mono ?_
  rintro e w3 ⟨p, rfl, hw3, hB3⟩
  have hh : WI.Wd.held 100 = 100 := by decide
  rw [hh] at hw3
  have HW3 := Lib.hid hw3
  have HB3 := Lib.hid hB3
  obtain ⟨i0, hi1, hi2, hi3, hi4⟩ := info_parts boolT
  have HI1 := Lib.hid hi1
  have HI2 := Lib.hid hi2
  have HI3 := Lib.hid hi3
  have HI4 := Lib.hid hi4
  obtain ⟨w4, hrun, hr4, hg4⟩ := run_make_full (P := Try.prog) w3 w.heap.size 25 4 i0 (.bool false) 1 Try.underlying25 hi1 hi2 hi3 .i64 .i64 (n + 2) (by rw [hi4]; omega) (by unfold maxLen; omega) hB3.size
  rw [made_flags] at hr4
  have ec : ((n + 2 : Nat) : Int) = (n : Int) + 2 := by omega
  rw [ec] at hrun
  have hB4 : Below w3.heap.size w3 w4 := (Below.refl _ _).grown hg4 (Nat.le_refl _) (fun k e => by cases e)
  obtain ⟨g, hg⟩ : ∃ g, g = w3.heap.size := ⟨_, rfl⟩
  rw [← hg] at hr4 hrun
  obtain ⟨N, hN⟩ : ∃ N, N = n + 2 := ⟨_, rfl⟩
  rw [← hN] at hr4 hrun
  have HS4 := Lib.hid (show HolS w w4 p g N (List.replicate N false) [] from ⟨hw3.below hB4, hr4, hB3.trans (hB4.mono hB3.size), by rw [hN]; exact Wd.Rel.start n⟩)
  have hNn : N ≤ 34 := by omega
  have hNi : (N : Int) = (n : Int) + 2 := by omega
  have HN := Lib.hid hN
  have HNI := Lib.hid hNi
  clear hh hw3 hB3 hi1 hi2 hi3 hi4 e1 hr4 hg4 hB4 hg ec hN hNi
  go_wp2_with fail
  go_loopw [9] (fun i wr => ∃ (k : Nat) (hs : List Bool) (ss : List (Option Int)), k ≤ 100 ∧ i = .int .i64 k ∧ HolS w wr p g N hs ss) (fun i _ => 100 - (intOf i).toNat)
  case atStart => exact ⟨0, _, _, by omega, rfl, HS4.out⟩
  case round =>
    obtain ⟨k, hs, ss, hk, rfl, hS⟩ := hrel
    have HS := Lib.hid hS
    clear hS
    by_cases hlt : k < len1 ∧ k < 100
    · obtain ⟨hk1, hk100⟩ := hlt
      obtain ⟨gz, oz, rfl, _⟩ := H1.out.int_at hk1
      obtain ⟨z, hzk⟩ : ∃ z, zs[k]? = some z := ⟨_, List.getElem?_eq_getElem (by have := HL1.out; omega)⟩
      have hc1 := (H1.out.below HS.out.2.2.1).int_cell hk1 hzk
      have hk0 : (k : Int) < (len1 : Int) := by omega
      have hk3 : (k : Int) < 100 := by omega
      have e255 := and_255 z
      obtain ⟨q, hq, hqn⟩ : ∃ q : Nat, (z % 256).tmod (n : Int) = (q : Int) ∧ q < n := by
        rw [Int.tmod_eq_emod_of_nonneg (by omega)]
        have h1 := Int.emod_nonneg (z % 256) (show (n : Int) ≠ 0 by omega)
        have h2 := Int.emod_lt_of_pos (z % 256) (show (0 : Int) < (n : Int) by omega)
        exact ⟨((z % 256) % (n : Int)).toNat, by omega, by omega⟩
      have hqi : (q : Int) < (n : Int) := by omega
      clear hzk
      go_upto_region 10 with fail
      have hSd : HolS w wr.drew p g N hs ss := by
        obtain ⟨s1, s2, s3, s4⟩ := HS.out
        exact ⟨s1.drew, s2, s3.drew, s4⟩
      have hqN : q + 2 < N := by have := HN.out; omega
      obtain ⟨fl, hfl⟩ : ∃ fl, hs[q + 1]? = some fl := ⟨_, List.getElem?_eq_getElem (by have := HS.out.2.2.2.len; omega)⟩
      have hq1N : (q : Int) + 1 < (N : Int) := by omega
      have hce := flag_cell hSd.2.1 (show q + 1 < N by omega) hfl
      refine wp_region_held_drew (S := fun wq => wq.cell? ⟨g, q + 1, none⟩ = some (.bool fl)) (by kernel_rfl) hce (fun _ => ?_)
      have HP := Lib.hid (hol_put hSd hNn q hqN fl hfl)
      have HSc := Lib.hid hce
      have HFL := Lib.hid hfl
      generalize wr.drew = w5 at HP HSc ⊢
      clear hSd hce hfl
      refine wpAnyH_take (i := 0) (v := .pointer (some ⟨p, 0, none⟩)) rfl (by kernel_rfl) (by kernel_rfl) (by kernel_rfl) (fun _ _ _ h => h) (Or.inl ⟨by kernel_rfl, fun w _ => by go_simp⟩) HSc.out ?_
      refine wpAnyH_take (i := 1) (v := .int .i64 ((q : Int) + 1)) rfl (by kernel_rfl) (by kernel_rfl) (by kernel_rfl) (fun _ _ _ h => h) (Or.inl ⟨by kernel_rfl, fun w _ => by go_simp⟩) HSc.out ?_
      refine wpAnyH_take (i := 2) (v := .int .i64 (100 + ((q : Int) + 1))) rfl (by kernel_rfl) (by kernel_rfl) (by kernel_rfl) (fun _ _ _ h => h) (Or.inl ⟨by kernel_rfl, fun wq h => by go_simp; exact IntWalk.i64_in _ (by omega)⟩) HSc.out ?_
      refine wpAnyH_take (i := 3) (v := .int .i64 ((q : Int) + 1)) rfl (by kernel_rfl) (by kernel_rfl) (by kernel_rfl) (fun _ _ _ h => h) (Or.inl ⟨by kernel_rfl, fun w _ => by go_simp⟩) HSc.out ?_
      refine wpAnyH_take (i := 5) (v := .slice (some ⟨g, 0, none⟩) N N) rfl (by kernel_rfl) (by kernel_rfl) (by kernel_rfl) (fun _ _ _ h => h) (Or.inl ⟨by kernel_rfl, fun w _ => by go_simp⟩) HSc.out ?_
      refine wpAnyH_take (i := 6) (v := .int .i64 ((q : Int) + 1)) rfl (by kernel_rfl) (by kernel_rfl) (by kernel_rfl) (fun _ _ _ h => h) (Or.inl ⟨by kernel_rfl, fun w _ => by go_simp⟩) HSc.out ?_
      refine wpAnyH_take (i := 7) (v := .pointer (some ⟨g, q + 1, none⟩)) rfl (by kernel_rfl) (by kernel_rfl) (by kernel_rfl) (fun _ _ _ h => h) (Or.inl ⟨by kernel_rfl, fun wq h => by go_simp; intro hh; omega⟩) HSc.out ?_
      refine wpAnyH_take (i := 8) (v := .bool fl) rfl (by kernel_rfl) (by kernel_rfl) (by kernel_rfl) (fun _ _ _ h => h) (Or.inl ⟨by kernel_rfl, fun wq h => by go_simp⟩) HSc.out ?_
      refine wpAnyH_take (i := 9) (v := .bool (!fl)) rfl (by kernel_rfl) (by kernel_rfl) (by kernel_rfl) (fun _ _ _ h => h) (Or.inl ⟨by kernel_rfl, fun w _ => by go_simp⟩) HSc.out ?_
      refine wpAnyH_ready (rs := [4]) (by kernel_rfl) (by simp) ?_
      refine AllReadyH.cons rfl (fun K hK => ?_) AllReadyH.nil
      go_simp
      refine HP.out.mono ?_
      rintro e w6 ⟨rfl, ⟨tt, hw6, hrel6⟩, hr6, hB6⟩
      have hc6 := flag_cell hr6 (show q + 1 < N by omega) HFL.out
      go_simp
      refine hK.out _ _ hc6 (fun _ => ?_)
      clear hK K
      refine wpAnyH_ready (rs := [10]) (by kernel_rfl) (by simp) ?_
      refine AllReadyH.cons rfl (fun K hK => ?_) AllReadyH.nil
      go_simp
      refine hK.out _ _ hc6 (fun _ => ?_)
      clear hK K
      refine wpAnyH_done (by kernel_rfl) ?_ _
      obtain ⟨hs', hhs⟩ : ∃ hs', hs' = hs.set (q + 1) true := ⟨_, rfl⟩
      have hS7 : HolS w (w6.setCell ⟨g, q + 1, none⟩ (.bool true)) p g N hs' tt := by
        obtain ⟨cur, hgb, hge⟩ := flag_blk (by omega) hr6
        have hgg := grownBy_set w6 g (q + 1) (.bool true)
        refine ⟨hw6.grown hgg hgb (by decide) (by decide), ?_, hB6.setCell (p := ⟨g, q + 1, none⟩) hge _, by rw [hhs]; exact hrel6⟩
        rw [hhs]; exact flag_set hr6 (q + 1) true
      have hf6 : w6.frozen? ⟨g, q + 1, none⟩ = false := by
        obtain ⟨cur, hgb, _⟩ := flag_blk (by omega) hr6
        exact hgb.frozen _
      have HS7 := Lib.hid hS7
      clear hS7 hhs hw6 hrel6 hr6 hB6 hc1
      have hix : decide ((q : Int) + 1 < (N : Int)) = true := by simp; omega
      have hix0 : ¬ (q : Int) + 1 < 0 := by omega
      cases fl
      all_goals
        go_wp2_with fail
        generalize w6.setCell ⟨g, q + 1, none⟩ (.bool true) = w7 at HS7 ⊢
        clear hix hix0 hc6 hf6
        have hll := Wd.lead_le tt
        have hfi := HS7.out.2.2.2.fits
        have hll8 : Wd.lead tt ≤ 32 := by omega
        go_loop [11] (fun x => ∃ r : Nat, r ≤ Wd.lead tt ∧ x = .int .i64 r) (fun x => Wd.lead tt - (intOf x).toNat)
        case atStart => exact ⟨0, Nat.zero_le _, rfl⟩
        case round =>
          obtain ⟨r, hr, rfl⟩ := hrel
          have hnx := HS7.out.2.2.2.next hr
          have hcr := flag_cell HS7.out.2.1 (show r + 1 < N by omega) hnx
          have hix : decide ((r : Int) + 1 < (N : Int)) = true := by simp; omega
          have hix0 : ¬ (r : Int) + 1 < 0 := by omega
          clear hnx
          by_cases hrl : r < Wd.lead tt
          · rw [decide_eq_true hrl] at hcr
            go_wp2
            go_round
            case rel => exact ⟨r + 1, by omega, by go_num⟩
            case measure => simp [intOf]; omega
          · obtain rfl : r = Wd.lead tt := by omega
            rw [decide_eq_false hrl] at hcr
            clear hrl hr
            go_wp2_with fail
            clear hcr hix hix0
            go_loop [12, 68] (fun x j => ∃ (tp jj : Nat), jj ≤ N ∧ tp ≤ N ∧ j = .int .i64 jj ∧ x = .int .i64 tp ∧ (∀ i, i < jj → hs'[i]? = some true → i ≤ tp) ∧ (tp = 0 ∨ hs'[tp]? = some true)) (fun _ j => N - (intOf j).toNat)
            case atStart => exact ⟨0, 0, Nat.zero_le _, Nat.zero_le _, rfl, rfl, fun i hi => absurd hi (by omega), .inl rfl⟩
            case round =>
              obtain ⟨tp, jj, hjj, htp, rfl, rfl, hup, hat⟩ := hrel
              have HUP := Lib.hid hup
              have HAT := Lib.hid hat
              clear hup hat
              by_cases hjl : jj < N
              · obtain ⟨bb, hbb⟩ : ∃ b, hs'[jj]? = some b := ⟨_, List.getElem?_eq_getElem (by have := HS7.out.2.2.2.len; omega)⟩
                have hcj := flag_cell HS7.out.2.1 hjl hbb
                have HBB := Lib.hid hbb
                have hjn : (jj : Int) < (N : Int) := by omega
                clear hbb
                cases bb
                · go_wp2
                  go_round
                  case rel =>
                    refine ⟨tp, jj + 1, by omega, htp, by go_num, rfl, fun i hi hb => ?_, HAT.out⟩
                    rcases Nat.lt_or_ge i jj with h | h
                    · exact HUP.out i h hb
                    · obtain rfl : i = jj := by omega
                      have := HBB.out
                      rw [hb] at this
                      cases this
                  case measure => simp [intOf]; omega
                · go_wp2
                  go_round
                  case rel => exact ⟨jj, jj + 1, by omega, by omega, by go_num, rfl, fun i hi hb => by omega, .inr HBB.out⟩
                  case measure => simp [intOf]; omega
              · have hjN : jj = N := by omega
                have htt : tp = tt.length := HS7.out.2.2.2.top (fun i hi hb => HUP.out i (by omega) hb) HAT.out
                have HJN := Lib.hid hjN
                have HTT := Lib.hid htt
                have hjn : ¬ (jj : Int) < (N : Int) := by omega
                clear hjN htt
                have htp34 : tp ≤ 32 := by have := HTT.out; omega
                go_wp2_with fail
                go_loopw [14, 15] (fun x y wv => ∃ (jj : Nat) (A : Option Addr) (nn cc : Nat), y = .int .i64 ((jj + 1 : Nat) : Int) ∧ x = .slice A nn cc ∧ jj + 1 ≤ max 1 tt.length ∧ nn ≤ mo ∧ wv.ownsRow w.heap.size 3 1 (.slice A nn cc) nn (iv (Wd.holes 101 (tt.take jj))) ∧ HolS w wv p g N hs' tt) (fun _ y _ => 40 - (intOf y).toNat)
                case atStart => exact ⟨0, none, 0, 0, rfl, rfl, by omega, by omega, World.ownsRow_nil _ _ _ _, HS7.out⟩
                case round =>
                  obtain ⟨ja, A, nn, cc, rfl, rfl, hja, hnn, hown, hSv⟩ := hrel
                  have HOW := Lib.hid hown
                  have HSV := Lib.hid hSv
                  have hzl : (Wd.holes 101 (tt.take ja)).length = nn := by have := hown.1; rw [iv_length] at this; omega
                  have HZL := Lib.hid hzl
                  have hcap := own_cap hown
                  clear hown hSv hzl
                  by_cases hA : ja + 1 < tp
                  · have hAi : (ja : Int) + 1 < (tp : Int) := by omega
                    by_cases hB : nn < mo
                    · have hBi : (nn : Int) < (mo : Int) := by omega
                      have hjL : ja < tt.length := by have := HTT.out; omega
                      obtain ⟨o, ho⟩ : ∃ o, tt[ja]? = some o := ⟨_, List.getElem?_eq_getElem hjL⟩
                      have hfl := HSV.out.2.2.2.flag ja (by omega)
                      rw [ho] at hfl
                      have hcj := flag_cell HSV.out.2.1 (show ja + 1 < N by omega) hfl
                      have hix : decide ((ja : Int) + 1 < (N : Int)) = true := by simp; omega
                      have hix0 : ¬ (ja : Int) + 1 < 0 := by omega
                      have htk := Wd.holes_take 101 tt ja o ho
                      have HTK := Lib.hid htk
                      clear ho hfl htk
                      cases o with
                      | some v =>
                        have hcj' : wr.cell? ⟨g, ja + 1, none⟩ = some (.bool true) := hcj
                        clear hcj
                        go_wp2
                        go_roundw
                        case rel =>
                          refine ⟨ja + 1, A, nn, cc, by go_num, rfl, by have := HTT.out; omega, hnn, ?_, HSV.out⟩
                          rw [HTK.out]; simpa using HOW.out
                        case measure => simp [intOf]; omega
                      | none =>
                        have hcj' : wr.cell? ⟨g, ja + 1, none⟩ = some (.bool false) := hcj
                        clear hcj
                        go_wp2_with (at_builtin; refine wpList_append_cells (W := w) intC (.tmp 93) (.tmp 96) rfl (by rfl) rfl (HOW.out.alloc _) rfl (Rd.oneV wr (.int .i64 (100 + ((ja : Int) + 1))) 3) (by intro u hu; simp at hu; subst hu; rfl) (by omega) (by omega) (HSV.out.2.2.1.alloc HSV.out.2.2.1.size _) ?_; intro A2 c2 w8 hown8 hB8 hg8; have HS8 := Lib.hid (hol_grown (hol_below HSV.out ((Below.refl _ _).alloc (Nat.le_refl _) _)) (by omega) (HOW.out.alloc _) hB8 hg8); have HO8 := Lib.hid hown8; clear hown8 hB8 hg8 hcj')
                        go_roundw
                        case rel =>
                          refine ⟨ja + 1, A2, nn + 1, c2, by go_num, rfl, by have := HTT.out; omega, by omega, ?_, HS8.out⟩
                          have h8 := HO8.out
                          rw [HTK.out]
                          have e1 : iv (Wd.holes 101 (tt.take ja) ++ [101 + (ja : Int)]) = iv (Wd.holes 101 (tt.take ja)) ++ [.int .i64 (100 + ((ja : Int) + 1))] := by
                            rw [iv_append, show 101 + (ja : Int) = 100 + ((ja : Int) + 1) by omega]; rfl
                          simpa [e1] using h8
                        case measure => simp [intOf]; omega
                    · have hBi : ¬ (nn : Int) < (mo : Int) := by omega
                      have hxx : mo ≤ nn := by omega
                      obtain ⟨hw8, _, hB8, hrel8⟩ := HSV.out
                      have HTop := Lib.hid (WI.top_any wr _ p 100 (100 + Wd.lead tt) tt hw8)
                      rw [← HTT.out] at HTop
                      have HRel := Lib.hid hrel8
                      clear hrel8 hB8
                      go_wp2_with fail
                      refine (WI.whole_any _ _ _ _ _ _ hw8).mono ?_
                      rintro e w' ⟨rfl, rfl⟩
                      go_wp2_with fail
                      refine HTop.out.mono ?_
                      rintro e w9 ⟨rfl, m9, hm9⟩
                      have hB9 : Below wr.heap.size wr w9 := by rw [hm9]; exact below_drewN (Below.refl _ _) m9
                      have HS9 := Lib.hid (hol_below HSV.out hB9)
                      have HO9 := Lib.hid (ownsRow_below HOW.out hB9)
                      clear hm9 hB9 hw8
                      go_wp2_with fail
                      refine (WI.missing_any w9 _ p 100 (100 + Wd.lead tt) tt HS9.out.1 rfl HS9.out.2.2.1.size (mo : Int)).mono ?_
                      rintro e w10 ⟨Am, nm, cm, rfl, hown10, hB10⟩
                      have hcm := own_cap hown10
                      have hmi : Wd.missing (WI.most64 (mo : Int)) 100 tt = Wd.holes 101 (tt.take ja) := by
                        have e1 : WI.most64 (mo : Int) = mo := by unfold WI.most64; omega
                        rw [e1, Wd.missing_eq _ _ _ HRel.out.ends, show (((100 : Nat) : Int) + 1) = 101 from rfl]
                        exact Wd.holes_end HRel.out.ends ja mo hja (by have := HZL.out; omega) (by have := HZL.out; have := HTT.out; omega)
                      rw [hmi] at hown10
                      have HS10 := Lib.hid (hol_below HS9.out hB10)
                      have HR10 := Lib.hid (Rd.own_ hown10)
                      have HR9 := Lib.hid ((Rd.own_ HO9.out).below hB10)
                      clear hmi hown10 hB10
                      go_wp2_with fail
                      refine (same_any w10 Am A nm cm nn cc _ _ _ _ HR10.out HR9.out (Nat.le_trans hcm.1 hcm.2) (Nat.le_trans hcap.1 hcap.2)).mono ?_
                      rintro e w11 ⟨rfl, m11, hm11⟩
                      have HS11 := Lib.hid (hol_below HS10.out (show Below w10.heap.size w10 w11 by rw [hm11]; exact below_drewN (Below.refl _ _) m11))
                      clear hm11
                      go_wp2
                      go_roundw
                      case rel => exact ⟨k + 1, hs', tt, by omega, by go_num, HS11.out⟩
                      case measure => simp [intOf]; omega
                  · have hAi : ¬ (ja : Int) + 1 < (tp : Int) := by omega
                    have hxx : tp ≤ ja + 1 := by omega
                    obtain ⟨hw8, _, hB8, hrel8⟩ := HSV.out
                    have HTop := Lib.hid (WI.top_any wr _ p 100 (100 + Wd.lead tt) tt hw8)
                    rw [← HTT.out] at HTop
                    have HRel := Lib.hid hrel8
                    clear hrel8 hB8
                    go_wp2_with fail
                    refine (WI.whole_any _ _ _ _ _ _ hw8).mono ?_
                    rintro e w' ⟨rfl, rfl⟩
                    go_wp2_with fail
                    refine HTop.out.mono ?_
                    rintro e w9 ⟨rfl, m9, hm9⟩
                    have hB9 : Below wr.heap.size wr w9 := by rw [hm9]; exact below_drewN (Below.refl _ _) m9
                    have HS9 := Lib.hid (hol_below HSV.out hB9)
                    have HO9 := Lib.hid (ownsRow_below HOW.out hB9)
                    clear hm9 hB9 hw8
                    go_wp2_with fail
                    refine (WI.missing_any w9 _ p 100 (100 + Wd.lead tt) tt HS9.out.1 rfl HS9.out.2.2.1.size (mo : Int)).mono ?_
                    rintro e w10 ⟨Am, nm, cm, rfl, hown10, hB10⟩
                    have hcm := own_cap hown10
                    have hmi : Wd.missing (WI.most64 (mo : Int)) 100 tt = Wd.holes 101 (tt.take ja) := by
                      have e1 : WI.most64 (mo : Int) = mo := by unfold WI.most64; omega
                      rw [e1, Wd.missing_eq _ _ _ HRel.out.ends, show (((100 : Nat) : Int) + 1) = 101 from rfl]
                      exact Wd.holes_end HRel.out.ends ja mo hja (by have := HZL.out; omega) (by have := HZL.out; have := HTT.out; omega)
                    rw [hmi] at hown10
                    have HS10 := Lib.hid (hol_below HS9.out hB10)
                    have HR10 := Lib.hid (Rd.own_ hown10)
                    have HR9 := Lib.hid ((Rd.own_ HO9.out).below hB10)
                    clear hmi hown10 hB10
                    go_wp2_with fail
                    refine (same_any w10 Am A nm cm nn cc _ _ _ _ HR10.out HR9.out (Nat.le_trans hcm.1 hcm.2) (Nat.le_trans hcap.1 hcap.2)).mono ?_
                    rintro e w11 ⟨rfl, m11, hm11⟩
                    have HS11 := Lib.hid (hol_below HS10.out (show Below w10.heap.size w10 w11 by rw [hm11]; exact below_drewN (Below.refl _ _) m11))
                    clear hm11
                    go_wp2
                    go_roundw
                    case rel => exact ⟨k + 1, hs', tt, by omega, by go_num, HS11.out⟩
                    case measure => simp [intOf]; omega
    · have hB := Lib.hid HS.out.2.2.1
      by_cases hk1 : k < len1
      · have hk0 : (k : Int) < (len1 : Int) := by omega
        have hk3 : ¬ (k : Int) < 100 := by omega
        clear hlt
        go_wp2_with fail
        refine (awake_any _).mono ?_
        rintro e w5 ⟨rfl, hB5⟩
        have HBB := Lib.hid (hB.out.trans (hB5.mono hB.out.size))
        clear hB5
        go_wp2
        go_ret
        exact ⟨rfl, HBB.out⟩
      · have hk0 : ¬ (k : Int) < (len1 : Int) := by omega
        clear hlt
        go_wp2_with fail
        refine (awake_any _).mono ?_
        rintro e w5 ⟨rfl, hB5⟩
        have HBB := Lib.hid (hB.out.trans (hB5.mono hB.out.size))
        clear hB5
        go_wp2
        go_ret
        exact ⟨rfl, HBB.out⟩
end Go.Proofs.Ytomiobnjllaalaa
