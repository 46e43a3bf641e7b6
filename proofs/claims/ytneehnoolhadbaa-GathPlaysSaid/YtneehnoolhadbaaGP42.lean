/- GathRef3 GathRef4 -/
import Derived.Test.YtneehnoolhadbaaGP41
namespace Go.Proofs.Ytneehnoolhadbaa
open Go.RowKit
set_option linter.unusedVariables false
set_option linter.unusedSimpArgs false
theorem own_setCells {W w : World} {A : Option Addr} {k c b : Nat} {es : List (List Value)} {t : TypeId} (h : OwnV W w A k c es) {C : Array Value} (hk : Blk w b t C) (hne : 31 ≠ t) : ∀ (vs : List Value) (o : Nat), OwnV W (w.setCells b o vs) A k c es := by
  intro vs
  induction vs generalizing w C with
  | nil => intro o; exact h
  | cons v vs ih => intro o; exact ih (own_set_t (i := o) (u := v) h hk hne) (hk.set_ o v) (o + 1)
theorem own_row_v {W w w0 : World} {A : Option Addr} {k c b h : Nat} {es : List (List Value)} (ho : OwnV W w A k c es) (hh : w0.heap.size = h) (hlt : ∀ q, gaS b A q → W.heap.size ≤ q ∧ q < w0.heap.size) (R : Array Value) : OwnV W (w.setRow h R) A k c es := by
  refine ⟨ho.1, ?_⟩
  rcases ho.2 with h2 | ⟨q, cap, cur, q1, q2, q3, q4⟩
  · exact .inl h2
  · refine .inr ⟨q, cap, cur, q1, q2, ?_, q4⟩
    injection q1 with q1
    have := (hlt q (.inr ⟨0, q1⟩)).2
    exact (setRow_other w h q R (by omega)).trans q3
set_option maxHeartbeats 2000000 in
set_option maxRecDepth 100000 in
theorem rcommit_any {W w : World} {S : Nat → Prop} {b : Nat} {g g2 : Gm} (h : RthAt W w S b g) (h2 : g.commit = g2) :
    Calls Try.prog 22 #[.pointer (some ⟨b, 0, none⟩)] w fun e w' => e = .returned (.tuple #[msgV GA.zero g2.msg, .bool g2.com.isSome]) ∧ GotRa W w S b g2 w' := by
  obtain ⟨A, k, c, es, m0, m1, m3, m5, m7, m8, h1, rfl⟩ := h
  obtain ⟨su, hsu⟩ : ∃ x, g.com.isSome = x := ⟨_, rfl⟩
  obtain ⟨n, hn⟩ : ∃ n, g.n = n := ⟨_, rfl⟩
  obtain ⟨id, hid⟩ : ∃ n, g.id = n := ⟨_, rfl⟩
  obtain ⟨v, hv⟩ : ∃ n, g.v = n := ⟨_, rfl⟩
  obtain ⟨rd, hrd⟩ : ∃ n, g.ready = n := ⟨_, rfl⟩
  have HKB : Hid (Blk w b 60 (rgC n id v A k c m0 m1 m3 m5 m7 m8 su rd)) := Lib.hid (by have := h1.blk; rwa [hn, hid, hv, hrd, hsu] at this)
  have H1 := Lib.hid h1
  have H2 := Lib.hid h2
  have HN := Lib.hid (And.intro hn (And.intro hid (And.intro hv (And.intro hrd hsu))))
  have hn7 : 1 ≤ n ∧ n ≤ 7 := by rw [← hn]; exact ⟨h1.ok.n1, h1.ok.n7⟩
  clear h1 h2 hn hid hv hrd hsu
  go_enter Try.func22, Try.ntmps22
  go_upto_region 1 with fail
  obtain ⟨h, w1, hgE, hwE, hbE, hkE⟩ := alloced w msgZ 31
  unfold msgZ at hwE
  rw [hgE, hwE]
  have HB1 := Lib.hid hbE
  have HKH := Lib.hid hkE
  have HHG := Lib.hid hgE
  have HK1 := Lib.hid (HKB.out.below hbE)
  have c28 := HK1.out.cell 28
  have c0 := HK1.out.cell 0
  have c3 := HK1.out.cell 3
  simp [rgC] at c28 c0 c3
  have HLT := Lib.hid HK1.out.lt
  have HBH : Hid (¬ h = b) := Lib.hid (by intro e; have := HHG.out; have := HKB.out.lt; omega)
  clear hgE hwE hbE hkE
  cases su with
  | true =>
    have e2 : g2 = g := by rw [← H2.out]; exact Gm.commit_com HN.out.2.2.2.2
    have HR5 := Lib.hid (rangeComR HK1.out)
    unfold comC at HR5
    clear c0 c3
    go_wp2_with (first
      | (refine wpList_load_mid rfl 31 (.tmp 50) rfl b 4 rfl [.int .i64 m0, .int .i64 m1, .int .i64 0, .int .i64 m3, .int .i64 0, .int .i64 m5, .bool false, .int .i64 m7, .int .i64 m8, .int .i64 0, .int .i64 0, .slice none 0 0, .int .i64 0, .int .i64 0, .slice none 0 0, .slice none 0 0, .int .i64 0, .int .i64 0, .int .i64 0, .int .i64 0, .int .i64 0, .slice none 0 0, .slice none 0 0, .slice none 0 0] _ HR5.out Try.underlying31 rfl (by kernel_rfl) ?_)
      | (refine wpList_store_row rfl 31 (.tmp 2) (.tmp 51) rfl h #[.int .i64 m0, .int .i64 m1, .int .i64 0, .int .i64 m3, .int .i64 0, .int .i64 m5, .bool false, .int .i64 m7, .int .i64 m8, .int .i64 0, .int .i64 0, .slice none 0 0, .int .i64 0, .int .i64 0, .slice none 0 0, .slice none 0 0, .int .i64 0, .int .i64 0, .int .i64 0, .int .i64 0, .int .i64 0, .slice none 0 0, .slice none 0 0, .slice none 0 0] rfl rfl 31 msgZ HKH.out (by kernel_rfl) rfl (by kernel_rfl) ?_)
      | fail)
    refine bodyPost_ret (results_cell_tmp rfl _ _ _ _ _ _ rfl (HKH.out.row #[.int .i64 m0, .int .i64 m1, .int .i64 0, .int .i64 m3, .int .i64 0, .int .i64 m5, .bool false, .int .i64 m7, .int .i64 m8, .int .i64 0, .int .i64 0, .slice none 0 0, .int .i64 0, .int .i64 0, .slice none 0 0, .slice none 0 0, .int .i64 0, .int .i64 0, .int .i64 0, .int .i64 0, .int .i64 0, .slice none 0 0, .slice none 0 0, .slice none 0 0]) Try.underlying31 rfl (by kernel_rfl)) rfl ?_
    have hb3 := below_setRow HB1.out (show w.heap.size ≤ h from Nat.le_of_eq HHG.out) #[.int .i64 m0, .int .i64 m1, .int .i64 0, .int .i64 m3, .int .i64 0, .int .i64 m5, .bool false, .int .i64 m7, .int .i64 m8, .int .i64 0, .int .i64 0, .slice none 0 0, .int .i64 0, .int .i64 0, .slice none 0 0, .slice none 0 0, .int .i64 0, .int .i64 0, .int .i64 0, .int .i64 0, .int .i64 0, .slice none 0 0, .slice none 0 0, .slice none 0 0]
    rw [e2, H1.out.com.cells, HN.out.2.2.2.2]
    exact ⟨rfl, gaS b A, ⟨A, k, c, es, m0, m1, m3, m5, m7, m8, H1.out.below hb3, rfl⟩, Adv.of_below _ hb3⟩
  | false =>
    have hnone : g.com = none := by have := HN.out.2.2.2.2; cases hc : g.com with
      | none => rfl
      | some c => rw [hc] at this; cases this
    have hR0 := H1.out.rd
    have hk7 := H1.out.few
    obtain ⟨r, hr⟩ : ∃ r, Vw.choose g.l (n : Int) = r := ⟨_, rfl⟩
    obtain ⟨r1, r2, r3, r4⟩ := r
    have HRR := Lib.hid hr
    have CC : Hid (∀ wz, Below w1.heap.size w1 wz → Calls Try.prog 38 #[.slice A k c, .int .i64 (n : Int)] wz fun e w' => e = .returned (.tuple #[.int .i64 r1, .int .i64 r2, .int .i64 r3, .bool r4]) ∧ Below wz.heap.size wz w') := Lib.hid (fun wz hz =>
      refChoose_any (es := es) (r := (r1, r2, r3, r4)) (n : Int) (by rw [H1.out.st]; exact hr) ⟨by omega, by omega⟩ (by omega) ((hR0.below (HB1.out.trans (hz.mono HB1.out.size))).fit))
    have HNO := Lib.hid hnone
    clear hR0 hr hnone
    go_upto_region 2 with fail
    have hS0 : Below w1.heap.size w1 w1.drew := bel_drewN w1 1
    refine wp_region_held_drew (S := fun w' => Below w1.heap.size w1 w') (by kernel_rfl) hS0 (fun _ => ?_)
    have hS := Lib.hid hS0
    clear hS0
    generalize w1.drew = w2 at hS ⊢
    -- REGION3
    refine wpAnyH_take (i := 0) (v := .pointer (some ⟨b, 0, none⟩)) rfl (by kernel_rfl) (by kernel_rfl) (by kernel_rfl) (fun _ _ _ h => h) (Or.inl ⟨by kernel_rfl, fun w _ => by go_simp⟩) hS.out ?_
    refine wpAnyH_take (i := 1) (v := .pointer (some ⟨b, 0, none⟩)) rfl (by kernel_rfl) (by kernel_rfl) (by kernel_rfl) (fun _ _ _ h => h) (Or.inl ⟨by kernel_rfl, fun w _ => by go_simp⟩) hS.out ?_
    refine wpAnyH_take (i := 2) (v := .pointer (some ⟨b, 3, none⟩)) rfl (by kernel_rfl) (by kernel_rfl) (by kernel_rfl) (fun _ _ _ h => h) (Or.inl ⟨by kernel_rfl, fun w _ => by go_simp⟩) hS.out ?_
    refine wpAnyH_take (i := 3) (v := .slice A k c) rfl (by kernel_rfl) (by kernel_rfl) (by kernel_rfl) (fun _ _ _ h => h) (Or.inl ⟨by kernel_rfl, fun wq hq => by have q := (hq.cell (p := ⟨b, 3, none⟩) HLT.out).trans c3; go_simp⟩) hS.out ?_
    refine wpAnyH_take (i := 4) (v := .pointer (some ⟨b, 0, none⟩)) rfl (by kernel_rfl) (by kernel_rfl) (by kernel_rfl) (fun _ _ _ h => h) (Or.inl ⟨by kernel_rfl, fun w _ => by go_simp⟩) hS.out ?_
    refine wpAnyH_take (i := 5) (v := .pointer (some ⟨b, 0, none⟩)) rfl (by kernel_rfl) (by kernel_rfl) (by kernel_rfl) (fun _ _ _ h => h) (Or.inl ⟨by kernel_rfl, fun w _ => by go_simp⟩) hS.out ?_
    refine wpAnyH_take (i := 6) (v := .pointer (some ⟨b, 0, none⟩)) rfl (by kernel_rfl) (by kernel_rfl) (by kernel_rfl) (fun _ _ _ h => h) (Or.inl ⟨by kernel_rfl, fun w _ => by go_simp⟩) hS.out ?_
    refine wpAnyH_take (i := 7) (v := .int .i64 (n : Int)) rfl (by kernel_rfl) (by kernel_rfl) (by kernel_rfl) (fun _ _ _ h => h) (Or.inl ⟨by kernel_rfl, fun wq hq => by have q := (hq.cell (p := ⟨b, 0, none⟩) HLT.out).trans c0; go_simp⟩) hS.out ?_
    refine wpAnyH_ready (rs := [8]) (by kernel_rfl) (by simp) ?_
    refine AllReadyH.cons rfl (fun K hK => ?_) AllReadyH.nil
    go_simp
    refine (CC.out w2 hS.out).mono ?_
    rintro e w3 ⟨rfl, hb3⟩
    have hS := Lib.hid (hS.out.trans (hb3.mono hS.out.size))
    clear hb3
    go_simp
    refine hK.out _ _ hS.out (fun _ => ?_)
    clear hK K
    refine wpAnyH_take (i := 9) (v := .tuple #[.int .i64 r1, .int .i64 r2, .int .i64 r3, .bool r4]) rfl (by kernel_rfl) (by kernel_rfl) (by kernel_rfl) (fun _ _ _ h => h) (Or.inl ⟨by kernel_rfl, fun w _ => by go_simp⟩) hS.out ?_
    refine wpAnyH_take (i := 10) (v := .int .i64 r1) rfl (by kernel_rfl) (by kernel_rfl) (by kernel_rfl) (fun _ _ _ h => h) (Or.inl ⟨by kernel_rfl, fun w _ => by go_simp⟩) hS.out ?_
    refine wpAnyH_take (i := 11) (v := .int .i64 r2) rfl (by kernel_rfl) (by kernel_rfl) (by kernel_rfl) (fun _ _ _ h => h) (Or.inl ⟨by kernel_rfl, fun w _ => by go_simp⟩) hS.out ?_
    refine wpAnyH_take (i := 12) (v := .int .i64 r3) rfl (by kernel_rfl) (by kernel_rfl) (by kernel_rfl) (fun _ _ _ h => h) (Or.inl ⟨by kernel_rfl, fun w _ => by go_simp⟩) hS.out ?_
    refine wpAnyH_take (i := 13) (v := .bool r4) rfl (by kernel_rfl) (by kernel_rfl) (by kernel_rfl) (fun _ _ _ h => h) (Or.inl ⟨by kernel_rfl, fun w _ => by go_simp⟩) hS.out ?_
    refine wpAnyH_take (i := 14) (v := .int .i64 r1) rfl (by kernel_rfl) (by kernel_rfl) (by kernel_rfl) (fun _ _ _ h => h) (Or.inl ⟨by kernel_rfl, fun w _ => by go_simp⟩) hS.out ?_
    refine wpAnyH_take (i := 15) (v := .int .i64 r2) rfl (by kernel_rfl) (by kernel_rfl) (by kernel_rfl) (fun _ _ _ h => h) (Or.inl ⟨by kernel_rfl, fun w _ => by go_simp⟩) hS.out ?_
    refine wpAnyH_take (i := 16) (v := .int .i64 r3) rfl (by kernel_rfl) (by kernel_rfl) (by kernel_rfl) (fun _ _ _ h => h) (Or.inl ⟨by kernel_rfl, fun w _ => by go_simp⟩) hS.out ?_
    refine wpAnyH_take (i := 17) (v := .bool r4) rfl (by kernel_rfl) (by kernel_rfl) (by kernel_rfl) (fun _ _ _ h => h) (Or.inl ⟨by kernel_rfl, fun w _ => by go_simp⟩) hS.out ?_
    refine wpAnyH_done (by kernel_rfl) ?_ _
    -- END3
    go_simp
    have HB3 := Lib.hid (HB1.out.trans (hS.out.mono HB1.out.size))
    have HK3 := Lib.hid (HK1.out.below hS.out)
    have HKH3 := Lib.hid (HKH.out.below hS.out)
    have HLT3 := Lib.hid HK3.out.lt
    clear c0 c3 c28 HLT CC hS HK1 HKH
    cases r4 with
    | false =>
      have hp : g.pick = none := by
        cases hp : g.pick with
        | none => rfl
        | some c =>
          obtain ⟨mm, q2, q3⟩ := c
          have := (H1.out.ok.choose_yes HNO.out hp).1
          rw [HN.out.1, HRR.out] at this
          injection this with _ this; injection this with _ this; injection this with _ this; cases this
      have e2 : g2 = g := by
        rw [← H2.out]; unfold Gm.commit; rw [hp, ← HNO.out]
      have hm : g.msg = Mg.zero := by unfold Gm.msg; rw [HNO.out]
      go_wp2_with (first
        | (refine wpList_store_row rfl 31 (.tmp 2) (.tmp 29) rfl h #[.int .i64 0, .int .i64 0, .int .i64 0, .int .i64 0, .int .i64 0, .int .i64 0, .bool false, .int .i64 0, .int .i64 0, .int .i64 0, .int .i64 0, .slice none 0 0, .int .i64 0, .int .i64 0, .slice none 0 0, .slice none 0 0, .int .i64 0, .int .i64 0, .int .i64 0, .int .i64 0, .int .i64 0, .slice none 0 0, .slice none 0 0, .slice none 0 0] rfl rfl 31 msgZ HKH3.out (by kernel_rfl) rfl (by kernel_rfl) ?_)
        | fail)
      refine bodyPost_ret (results_cell_tmp rfl _ _ _ _ _ _ rfl (HKH3.out.row #[.int .i64 0, .int .i64 0, .int .i64 0, .int .i64 0, .int .i64 0, .int .i64 0, .bool false, .int .i64 0, .int .i64 0, .int .i64 0, .int .i64 0, .slice none 0 0, .int .i64 0, .int .i64 0, .slice none 0 0, .slice none 0 0, .int .i64 0, .int .i64 0, .int .i64 0, .int .i64 0, .int .i64 0, .slice none 0 0, .slice none 0 0, .slice none 0 0]) Try.underlying31 rfl (by kernel_rfl)) rfl ?_
      have hb3 := below_setRow HB3.out (show w.heap.size ≤ h from Nat.le_of_eq HHG.out) #[.int .i64 0, .int .i64 0, .int .i64 0, .int .i64 0, .int .i64 0, .int .i64 0, .bool false, .int .i64 0, .int .i64 0, .int .i64 0, .int .i64 0, .slice none 0 0, .int .i64 0, .int .i64 0, .slice none 0 0, .slice none 0 0, .int .i64 0, .int .i64 0, .int .i64 0, .int .i64 0, .int .i64 0, .slice none 0 0, .slice none 0 0, .slice none 0 0]
      rw [e2, hm, HN.out.2.2.2.2]
      exact ⟨rfl, gaS b A, ⟨A, k, c, es, m0, m1, m3, m5, m7, m8, H1.out.below hb3, rfl⟩, Adv.of_below _ hb3⟩
    | true =>
      obtain ⟨mm, hmm, hp⟩ : ∃ mm : Nat, r1 = (mm : Int) ∧ g.pick = some (mm, r2, r3) := by
        cases hp : g.pick with
        | none =>
          have := H1.out.ok.choose_no HNO.out hp
          rw [HN.out.1, HRR.out] at this
          injection this with _ this; injection this with _ this; injection this with _ this; cases this
        | some c =>
          obtain ⟨mm, q2, q3⟩ := c
          have := (H1.out.ok.choose_yes HNO.out hp).1
          rw [HN.out.1, HRR.out] at this
          injection this with u1 this; injection this with u2 this; injection this with u3 this
          subst u1 u2 u3
          exact ⟨mm, rfl, rfl⟩
      subst hmm
      have HP := Lib.hid hp
      have c28 := HK3.out.cell 28
      have f28 := HK3.out.frozen 28
      simp [rgC] at c28
      go_upto_region 6 with fail
      obtain ⟨w3b, hw3b⟩ : ∃ y, w3.setCell ⟨b, 28, none⟩ (.bool true) = y := ⟨_, rfl⟩
      rw [hw3b]
      have HK3b : Hid (Blk w3b b 60 (rgC n id v A k c m0 m1 m3 m5 m7 m8 true rd)) := Lib.hid (by rw [← hw3b]; exact HK3.out.set_ 28 _)
      have HKH3b : Hid (Blk w3b h 31 msgZ) := Lib.hid (by rw [← hw3b]; exact HKH3.out.set_other HBH.out)
      have HKP3b : Hid (Keeps (gaS b A) w w3b) := Lib.hid (by rw [← hw3b]; exact keeps_setCell (S := gaS b A) (.inl rfl) (Keeps.of_below HB3.out) 28 _)
      have HO3b : Hid (OwnV W w3b A k c es) := Lib.hid (by rw [← hw3b]; exact own_set_t (H1.out.own.below HB3.out) HK3.out (by decide))
      clear hw3b c28 f28 HK3 HKH3 HB3 HLT3
      have c1 := HK3b.out.cell 1
      have c2 := HK3b.out.cell 2
      simp [rgC] at c1 c2
      refine region_T (n := 15) (S := fun w' => w' = w3b.drew) (by kernel_rfl) ?_
      replace c1 : w3b.drew.cell? ⟨b, 1, none⟩ = some (.int .i64 id) := c1
      replace c2 : w3b.drew.cell? ⟨b, 2, none⟩ = some (.int .i64 v) := c2
      have HK3 : Hid (Blk w3b.drew b 60 (rgC n id v A k c m0 m1 m3 m5 m7 m8 true rd)) := HK3b
      have HKH3 : Hid (Blk w3b.drew h 31 msgZ) := HKH3b
      have HKP3 : Hid (Keeps (gaS b A) w w3b.drew) := Lib.hid ⟨HKP3b.out.os, HKP3b.out.tape, HKP3b.out.output, HKP3b.out.size, HKP3b.out.block⟩
      have HO3 : Hid (OwnV W w3b.drew A k c es) := HO3b
      clear HK3b HKH3b HKP3b HO3b
      generalize w3b.drew = w4 at c1 c2 HK3 HKH3 HKP3 HO3 ⊢
      -- REGION6
      refine AnyT.takeC [14, 13, 0] [] (i := 0) (v := .pointer (some ⟨b, 0, none⟩)) rfl (by kernel_rfl) (by kernel_rfl) (by kernel_rfl) (by kernel_rfl) (by kernel_rfl) (by kernel_rfl) (fun _ _ _ h => h) (Or.inl ⟨by kernel_rfl, fun w _ => by go_simp⟩) rfl ?_
      refine AnyT.takeC [12, 4, 3, 2, 1] [] (i := 1) (v := .pointer (some ⟨b, 0, none⟩)) rfl (by kernel_rfl) (by kernel_rfl) (by kernel_rfl) (by kernel_rfl) (by kernel_rfl) (by kernel_rfl) (fun _ _ _ h => h) (Or.inl ⟨by kernel_rfl, fun w _ => by go_simp⟩) rfl ?_
      refine AnyT.takeC [12, 4, 3, 2] [] (i := 2) (v := .pointer (some ⟨b, 0, none⟩)) rfl (by kernel_rfl) (by kernel_rfl) (by kernel_rfl) (by kernel_rfl) (by kernel_rfl) (by kernel_rfl) (fun _ _ _ h => h) (Or.inl ⟨by kernel_rfl, fun w _ => by go_simp⟩) rfl ?_
      refine AnyT.takeC [12, 4, 3] [] (i := 3) (v := .pointer (some ⟨b, 1, none⟩)) rfl (by kernel_rfl) (by kernel_rfl) (by kernel_rfl) (by kernel_rfl) (by kernel_rfl) (by kernel_rfl) (fun _ _ _ h => h) (Or.inl ⟨by kernel_rfl, fun w _ => by go_simp⟩) rfl ?_
      refine AnyT.takeC [12, 4] [] (i := 4) (v := .int .i64 id) rfl (by kernel_rfl) (by kernel_rfl) (by kernel_rfl) (by kernel_rfl) (by kernel_rfl) (by kernel_rfl) (fun _ _ _ h => h) (Or.inl ⟨by kernel_rfl, fun wq hq => by rw [hq]; have q := c1; go_simp⟩) rfl ?_
      refine AnyT.takeC [12, 8, 7, 6, 5] [] (i := 5) (v := .pointer (some ⟨b, 0, none⟩)) rfl (by kernel_rfl) (by kernel_rfl) (by kernel_rfl) (by kernel_rfl) (by kernel_rfl) (by kernel_rfl) (fun _ _ _ h => h) (Or.inl ⟨by kernel_rfl, fun w _ => by go_simp⟩) rfl ?_
      refine AnyT.takeC [12, 8, 7, 6] [] (i := 6) (v := .pointer (some ⟨b, 0, none⟩)) rfl (by kernel_rfl) (by kernel_rfl) (by kernel_rfl) (by kernel_rfl) (by kernel_rfl) (by kernel_rfl) (fun _ _ _ h => h) (Or.inl ⟨by kernel_rfl, fun w _ => by go_simp⟩) rfl ?_
      refine AnyT.takeC [12, 8, 7] [] (i := 7) (v := .pointer (some ⟨b, 2, none⟩)) rfl (by kernel_rfl) (by kernel_rfl) (by kernel_rfl) (by kernel_rfl) (by kernel_rfl) (by kernel_rfl) (fun _ _ _ h => h) (Or.inl ⟨by kernel_rfl, fun w _ => by go_simp⟩) rfl ?_
      refine AnyT.takeC [12, 8] [] (i := 8) (v := .int .i64 v) rfl (by kernel_rfl) (by kernel_rfl) (by kernel_rfl) (by kernel_rfl) (by kernel_rfl) (by kernel_rfl) (fun _ _ _ h => h) (Or.inl ⟨by kernel_rfl, fun wq hq => by rw [hq]; have q := c2; go_simp⟩) rfl ?_
      refine AnyT.takeC [12, 9] [] (i := 9) (v := .int .i64 (mm : Int)) rfl (by kernel_rfl) (by kernel_rfl) (by kernel_rfl) (by kernel_rfl) (by kernel_rfl) (by kernel_rfl) (fun _ _ _ h => h) (Or.inl ⟨by kernel_rfl, fun w _ => by go_simp⟩) rfl ?_
      refine AnyT.takeC [12, 10] [] (i := 10) (v := .int .i64 r2) rfl (by kernel_rfl) (by kernel_rfl) (by kernel_rfl) (by kernel_rfl) (by kernel_rfl) (by kernel_rfl) (fun _ _ _ h => h) (Or.inl ⟨by kernel_rfl, fun w _ => by go_simp⟩) rfl ?_
      refine AnyT.takeC [12, 11] [] (i := 11) (v := .int .i64 r3) rfl (by kernel_rfl) (by kernel_rfl) (by kernel_rfl) (by kernel_rfl) (by kernel_rfl) (by kernel_rfl) (fun _ _ _ h => h) (Or.inl ⟨by kernel_rfl, fun w _ => by go_simp⟩) rfl ?_
      refine AnyT.ready (rs := [12]) (by kernel_rfl) (by simp) ?_
      refine AllT.cons rfl (fun K hK => ?_) AllT.nil
      go_simp
      refine hK.out _ _ (Or.inr (rfl)) (fun _ => ?_)
      clear hK K
      refine AnyT.ready (rs := [13]) (by kernel_rfl) (by simp) ?_
      refine AllT.cons rfl (fun K hK => ?_) AllT.nil
      go_simp
      refine hK.out _ _ (Or.inr (rfl)) (fun _ => ?_)
      clear hK K
      refine AnyT.ready (rs := [14]) (by kernel_rfl) (by simp) ?_
      refine AllT.cons rfl (fun K hK => ?_) AllT.nil
      go_simp
      refine hK.out _ _ (Or.inr (rfl)) (fun _ => ?_)
      clear hK K
      refine AnyT.ready (rs := [15]) (by kernel_rfl) (by simp) ?_
      refine AllT.cons rfl (fun K hK => ?_) AllT.nil
      rw [if_pos (by kernel_rfl)]
      refine wp_store_mid 31 (.tmp 47) (.tmp 45) rfl b 4 #[.int .i64 3, .int .i64 id, .int .i64 0, .int .i64 v, .int .i64 0, .int .i64 r3, .bool false, .int .i64 (mm : Int), .int .i64 r2, .int .i64 0, .int .i64 0, .slice none 0 0, .int .i64 0, .int .i64 0, .slice none 0 0, .slice none 0 0, .int .i64 0, .int .i64 0, .int .i64 0, .int .i64 0, .int .i64 0, .slice none 0 0, .slice none 0 0, .slice none 0 0] (by kernel_rfl) (by kernel_rfl) (there_blk HK3.out (by show 4 + 24 ≤ 30; decide)) (by kernel_rfl) (by kernel_rfl) ?_
      refine hK.out _ _ (Or.inl rfl) (fun _ => ?_)
      clear hK K
      refine AnyT.done (by kernel_rfl) ?_ _
      -- END6
      go_simp
      obtain ⟨w5, hw5⟩ : ∃ y, w4.setCells b 4 [.int .i64 3, .int .i64 id, .int .i64 0, .int .i64 v, .int .i64 0, .int .i64 r3, .bool false, .int .i64 (mm : Int), .int .i64 r2, .int .i64 0, .int .i64 0, .slice none 0 0, .int .i64 0, .int .i64 0, .slice none 0 0, .slice none 0 0, .int .i64 0, .int .i64 0, .int .i64 0, .int .i64 0, .int .i64 0, .slice none 0 0, .slice none 0 0, .slice none 0 0] = y := ⟨_, rfl⟩
      rw [hw5]
      have HK7 : Hid (Blk w5 b 60 (rgC n id v A k c 3 id v r3 (mm : Int) r2 true rd)) := Lib.hid (by rw [← setL_rg n id v A k c m0 m1 m3 m5 m7 m8 3 id v r3 (mm : Int) r2 true rd, ← hw5]; exact Blk.setL (w := w4) _ 4 _ _ HK3.out)
      have HKH7 : Hid (Blk w5 h 31 msgZ) := Lib.hid (by rw [← hw5]; exact blk_setCells_other HKH3.out HBH.out _ _)
      have HKP7 : Hid (Keeps (gaS b A) w w5) := Lib.hid (by rw [← hw5]; exact keeps_setCells (S := gaS b A) (.inl rfl) _ 4 _ HKP3.out)
      have HO7 : Hid (OwnV W w5 A k c es) := Lib.hid (by rw [← hw5]; exact own_setCells HO3.out HK3.out (by decide) _ _)
      clear hw5 HK3 HKH3 HKP3 HO3 c1 c2
      have HR5 := Lib.hid (rangeComR HK7.out)
      unfold comC at HR5
      go_wp2_with (first
        | (refine wpList_load_mid rfl 31 (.tmp 50) rfl b 4 rfl [.int .i64 3, .int .i64 id, .int .i64 0, .int .i64 v, .int .i64 0, .int .i64 r3, .bool false, .int .i64 (mm : Int), .int .i64 r2, .int .i64 0, .int .i64 0, .slice none 0 0, .int .i64 0, .int .i64 0, .slice none 0 0, .slice none 0 0, .int .i64 0, .int .i64 0, .int .i64 0, .int .i64 0, .int .i64 0, .slice none 0 0, .slice none 0 0, .slice none 0 0] _ HR5.out Try.underlying31 rfl (by kernel_rfl) ?_)
        | (refine wpList_store_row rfl 31 (.tmp 2) (.tmp 51) rfl h #[.int .i64 3, .int .i64 id, .int .i64 0, .int .i64 v, .int .i64 0, .int .i64 r3, .bool false, .int .i64 (mm : Int), .int .i64 r2, .int .i64 0, .int .i64 0, .slice none 0 0, .int .i64 0, .int .i64 0, .slice none 0 0, .slice none 0 0, .int .i64 0, .int .i64 0, .int .i64 0, .int .i64 0, .int .i64 0, .slice none 0 0, .slice none 0 0, .slice none 0 0] rfl rfl 31 msgZ HKH7.out (by kernel_rfl) rfl (by kernel_rfl) ?_)
        | fail)
      refine bodyPost_ret (results_cell_tmp rfl _ _ _ _ _ _ rfl (HKH7.out.row #[.int .i64 3, .int .i64 id, .int .i64 0, .int .i64 v, .int .i64 0, .int .i64 r3, .bool false, .int .i64 (mm : Int), .int .i64 r2, .int .i64 0, .int .i64 0, .slice none 0 0, .int .i64 0, .int .i64 0, .slice none 0 0, .slice none 0 0, .int .i64 0, .int .i64 0, .int .i64 0, .int .i64 0, .int .i64 0, .slice none 0 0, .slice none 0 0, .slice none 0 0]) Try.underlying31 rfl (by kernel_rfl)) rfl ?_
      have hk8 := (HKP7.out.trans (Keeps.of_only (S := fun q => q = h) (only_row w5 h #[.int .i64 3, .int .i64 id, .int .i64 0, .int .i64 v, .int .i64 0, .int .i64 r3, .bool false, .int .i64 (mm : Int), .int .i64 r2, .int .i64 0, .int .i64 0, .slice none 0 0, .int .i64 0, .int .i64 0, .slice none 0 0, .slice none 0 0, .int .i64 0, .int .i64 0, .int .i64 0, .int .i64 0, .int .i64 0, .slice none 0 0, .slice none 0 0, .slice none 0 0]) rfl) (fun q hq hlt => by have := HHG.out; omega))
      have e2 : g2 = { g with com := some (mm, r2, r3) } := by rw [← H2.out]; unfold Gm.commit; rw [HP.out]
      have hok : g2.Ok := by rw [← H2.out]; exact H1.out.ok.commit
      have hk8b := hk8.below H1.out.bel (fun q hq => (H1.out.lt q hq).1)
      have hb8 := HK7.out.row_other (Ne.symm HBH.out) #[.int .i64 3, .int .i64 id, .int .i64 0, .int .i64 v, .int .i64 0, .int .i64 r3, .bool false, .int .i64 (mm : Int), .int .i64 r2, .int .i64 0, .int .i64 0, .slice none 0 0, .int .i64 0, .int .i64 0, .slice none 0 0, .slice none 0 0, .int .i64 0, .int .i64 0, .int .i64 0, .int .i64 0, .int .i64 0, .slice none 0 0, .slice none 0 0, .slice none 0 0]
      have ho8 := own_row_v HO7.out HHG.out (H1.out.lt) #[.int .i64 3, .int .i64 id, .int .i64 0, .int .i64 v, .int .i64 0, .int .i64 r3, .bool false, .int .i64 (mm : Int), .int .i64 r2, .int .i64 0, .int .i64 0, .slice none 0 0, .int .i64 0, .int .i64 0, .slice none 0 0, .slice none 0 0, .int .i64 0, .int .i64 0, .int .i64 0, .int .i64 0, .int .i64 0, .slice none 0 0, .slice none 0 0, .slice none 0 0]
      obtain ⟨u1, u2, u3, u5, u6⟩ := HN.out
      rw [e2] at hok ⊢
      refine ⟨?_, gaS b A, ⟨A, k, c, es, 3, id, v, r3, (mm : Int), r2, ⟨?_, ?_, ho8, H1.out.len, H1.out.ms, H1.out.st, hok, H1.out.lo, hk8b⟩, rfl⟩, hk8, fun q hq => .inl hq⟩
      · show _ = Ending.returned (.tuple #[msgV GA.zero { Mg.zero with kind := 3, frm := g.id, view := g.v, len := r3, mem := (mm : Int), src := r2 }, .bool true])
        rw [u2, u3]
        rfl
      · show Blk _ b 60 (rgC g.n g.id g.v A k c 3 id v r3 (mm : Int) r2 true g.ready)
        rw [u1, u2, u3, u5]
        exact hb8
      · exact ⟨rfl, u2, u3, rfl, rfl, rfl⟩
end Go.Proofs.Ytneehnoolhadbaa

namespace Go.Proofs.Ytneehnoolhadbaa
open Go.RowKit
set_option linter.unusedVariables false
set_option linter.unusedSimpArgs false
theorem msg_ms {a : GA} {m : Mg} (h : Vw.lo ≤ m.inst) : Ms (msgC a m).toList := by
  refine ⟨rfl, ?_, rfl, rfl, rfl, rfl, rfl, h⟩
  intro u hu
  unfold msgC at hu
  simp only [List.mem_cons, List.not_mem_nil, or_false] at hu
  rcases hu with rfl | rfl | rfl | rfl | rfl | rfl | rfl | rfl | rfl | rfl | rfl | rfl | rfl | rfl | rfl | rfl | rfl | rfl | rfl | rfl | rfl | rfl | rfl | rfl <;> rfl
theorem own_one24 {W w : World} (hB : Below W.heap.size W w) {cs : Array Value} (h : cs.size = 24) : OwnV W (w.alloc (.cells cs 31)) (some ⟨w.heap.size, 0, none⟩) 1 1 [cs.toList] := by
  refine ⟨by simp [h], .inr ⟨w.heap.size, 1, cs, rfl, hB.size, heap_alloc_new w _, Nat.le_refl _, by decide, by rw [h], ?_⟩⟩
  rw [List.take_of_length_le (by simp [h])]
  simp
theorem rnew_fin {W w w2 : World} {v z : Int} {f s : Nat} {a : GA} {m : Mg} (hB : Below W.heap.size W w) (hB2 : Below w.heap.size w w2) (hf : f < s) (h1 : 1 ≤ s) (h7 : s ≤ 7) (hlo : Vw.lo ≤ m.inst) (hk : m.kind = 2) (hz : z = (s : Int)) :
    RotNew W w (Gm.new s f v ⟨2, (f : Int), m.inst, m.len, m.has⟩) (.returned (.pointer (some ⟨w2.heap.size + 1, 0, none⟩)))
      ((w2.alloc (.cells (msgC a { m with frm := (f : Int) }) 31)).alloc (.cells #[.int .i64 z, .int .i64 (f : Int), .int .i64 v, .slice (some ⟨w2.heap.size, 0, none⟩) 1 1, .int .i64 0, .int .i64 0, .int .i64 0, .int .i64 0, .int .i64 0, .int .i64 0, .bool false, .int .i64 0, .int .i64 0, .int .i64 0, .int .i64 0, .slice none 0 0, .int .i64 0, .int .i64 0, .slice none 0 0, .slice none 0 0, .int .i64 0, .int .i64 0, .int .i64 0, .int .i64 0, .int .i64 0, .slice none 0 0, .slice none 0 0, .slice none 0 0, .bool false, .int .i64 0] 60)) := by
  subst hz
  have hb := hB.trans (hB2.mono hB.size)
  have hb1 : Below w.heap.size w ((w2.alloc (.cells (msgC a { m with frm := (f : Int) }) 31)).alloc (.cells #[.int .i64 (s : Int), .int .i64 (f : Int), .int .i64 v, .slice (some ⟨w2.heap.size, 0, none⟩) 1 1, .int .i64 0, .int .i64 0, .int .i64 0, .int .i64 0, .int .i64 0, .int .i64 0, .bool false, .int .i64 0, .int .i64 0, .int .i64 0, .int .i64 0, .slice none 0 0, .int .i64 0, .int .i64 0, .slice none 0 0, .slice none 0 0, .int .i64 0, .int .i64 0, .int .i64 0, .int .i64 0, .int .i64 0, .slice none 0 0, .slice none 0 0, .slice none 0 0, .bool false, .int .i64 0] 60)) := (hB2.alloc hB2.size _).alloc (by have := hB2.size; simp; omega) _
  refine ⟨w2.heap.size + 1, _, rfl, ⟨some ⟨w2.heap.size, 0, none⟩, 1, 1, [(msgC a { m with frm := (f : Int) }).toList], 0, 0, 0, 0, 0, 0, ⟨?_, ⟨rfl, rfl, rfl, rfl, rfl, rfl⟩, ?_, rfl, ?_, ?_, Gm.Ok.new h1 h7 rfl (by show (0 : Int) ≤ (f : Int); omega) (by show (f : Int) < (s : Int); omega), ?_, hB.trans (hb1.mono hB.size)⟩, rfl⟩, hb1, ?_⟩
  · have := Blk.new (w2.alloc (.cells (msgC a { m with frm := (f : Int) }) 31)) 60 (rgC s f v (some ⟨w2.heap.size, 0, none⟩) 1 1 0 0 0 0 0 0 false 0)
    rw [World.size_alloc] at this
    exact this
  · exact (own_one24 hb rfl).below ((Below.refl _ _).alloc (Nat.le_refl _) _)
  · intro cs hc
    obtain rfl := List.mem_singleton.1 hc
    exact msg_ms hlo
  · show [svOf (msgC a { m with frm := (f : Int) }).toList] = [⟨2, (f : Int), m.inst, m.len, m.has⟩]
    rw [← hk]; rfl
  · have := hb.size; omega
  · rintro q (rfl | ⟨o, hq⟩)
    · have := hB2.size; omega
    · injection hq with hq; injection hq with hq; subst hq; exact hB2.size
set_option maxHeartbeats 2000000 in
set_option maxRecDepth 100000 in
theorem rnew_any {W w : World} (n v : Int) (f s : Nat) {a : GA} {m : Mg} (hB : Below W.heap.size W w) (hn : In64 n) (hs : Vw.size n = s) (hf : f < s) (hlo : Vw.lo ≤ m.inst) (hk : m.kind = 2) :
    Calls Try.prog 19 #[.int .i64 n, .int .i64 (f : Int), .int .i64 v, msgV a m] w (RotNew W w (Gm.new s f v ⟨2, (f : Int), m.inst, m.len, m.has⟩)) := by
  have hs7 := Vw.size_bound n
  rw [hs] at hs7
  have hm1 : min (max n 1) 7 = (s : Int) := by rw [← hs]; unfold Vw.size; omega
  have HF := Lib.hid (And.intro hf (And.intro hs7.1 hs7.2))
  have HL := Lib.hid hlo
  have HK := Lib.hid hk
  have HB := Lib.hid hB
  obtain ⟨n1, n2⟩ := hn
  clear hs hlo hB hk
  unfold msgV msgC
  go_enter Try.func19, Try.ntmps19
  go_upto_region 1 with fail
  obtain ⟨h, w1, hgE, hwE, hbE, hkE⟩ := alloced w (msgC a m) 31
  unfold msgC at hwE
  rw [hgE, hwE]
  have HB1 := Lib.hid hbE
  have HKH := Lib.hid hkE
  have HHG := Lib.hid hgE
  have k1 := hkE.cell 1
  have f1 := hkE.frozen 1
  simp [msgC] at k1
  clear hgE hwE hbE hkE
  go_upto_region 2 with fail
  obtain ⟨w2, hw2⟩ : ∃ y, w1.setCell ⟨h, 1, none⟩ (.int .i64 (f : Int)) = y := ⟨_, rfl⟩
  rw [hw2]
  have HK2 : Hid (Blk w2 h 31 (msgC a { m with frm := (f : Int) })) := Lib.hid (by rw [← hw2]; exact HKH.out.set_ 1 _)
  have HB2 : Hid (Below w.heap.size w w2) := Lib.hid (by rw [← hw2]; exact HB1.out.setCell (Nat.le_of_eq HHG.out) _)
  clear hw2 HKH HB1 k1 f1
  have HK2' : Hid (w2.heap[h]? = some (.cells #[.int .i64 m.kind, .int .i64 (f : Int), .int .i64 m.dst, .int .i64 m.view, .int .i64 m.inst, .int .i64 m.len, .bool m.has, .int .i64 m.mem, .int .i64 m.src, .int .i64 m.pos, .int .i64 m.tot, .slice a.Ad m.data.length a.cd, .int .i64 m.hop, .int .i64 m.seq, .slice a.Ah m.hav.length a.ch, .slice a.An m.nee.length a.cn, .int .i64 m.idx, .int .i64 m.ent.s, .int .i64 m.ent.q, .int .i64 m.ent.c.kind, .int .i64 m.ent.c.who, .slice a.c.Ak m.ent.c.key.length a.c.ck, .slice a.c.Av m.ent.c.val.length a.c.cv, .slice a.c.Ao m.ent.c.old.length a.c.co] 31 (0, 0))) := HK2
  go_wp2_with (first
    | (refine wpList_load_row rfl 31 (.tmp 7) rfl h rfl 31 #[.int .i64 m.kind, .int .i64 (f : Int), .int .i64 m.dst, .int .i64 m.view, .int .i64 m.inst, .int .i64 m.len, .bool m.has, .int .i64 m.mem, .int .i64 m.src, .int .i64 m.pos, .int .i64 m.tot, .slice a.Ad m.data.length a.cd, .int .i64 m.hop, .int .i64 m.seq, .slice a.Ah m.hav.length a.ch, .slice a.An m.nee.length a.cn, .int .i64 m.idx, .int .i64 m.ent.s, .int .i64 m.ent.q, .int .i64 m.ent.c.kind, .int .i64 m.ent.c.who, .slice a.c.Ak m.ent.c.key.length a.c.ck, .slice a.c.Av m.ent.c.val.length a.c.cv, .slice a.c.Ao m.ent.c.old.length a.c.co] (0, 0) _ HK2'.out Try.underlying31 rfl (by kernel_rfl) ?_)
    | fail)
  all_goals go_ret
  all_goals exact rnew_fin HB.out HB2.out HF.out.1 HF.out.2.1 HF.out.2.2 HL.out HK.out (by omega)
end Go.Proofs.Ytneehnoolhadbaa

