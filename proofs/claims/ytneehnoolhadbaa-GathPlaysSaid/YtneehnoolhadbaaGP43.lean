/- GathRef5 -/
import Derived.Test.YtneehnoolhadbaaGP42
namespace Go.Proofs.Ytneehnoolhadbaa
open Go.RowKit
set_option linter.unusedVariables false
set_option linter.unusedSimpArgs false
/-- a row without cells is no row with some -/
theorem blk_apart24 {w : World} {q q' : Nat} {t t' : TypeId} {C : Array Value} (h : Blk w q t #[]) (h' : Blk w q' t' C) (hc : 0 < C.size) : q' ≠ q := by
  intro e
  subst e
  unfold Blk at h h'
  rw [h] at h'
  injection h' with h'
  injection h' with h'
  rw [← h'] at hc
  simp at hc
theorem own_empty24 {W w : World} (hB : Below W.heap.size W w) : OwnV W (w.alloc (.cells #[] 31)) (some ⟨w.heap.size, 0, none⟩) 0 0 [] := by
  refine ⟨rfl, .inr ⟨w.heap.size, 0, #[], rfl, hB.size, heap_alloc_new w _, Nat.le_refl _, by decide, rfl, rfl⟩⟩
theorem ownBlock0 (q n c : Nat) : (Value.slice (some ⟨q, 0, none⟩) n c).ownBlock = some q := by simp [Value.ownBlock]
theorem Keeps.same {S : Nat → Prop} {w w1 w2 : World} (h : Keeps S w w1) (ho : w2.os = w1.os) (ht : w2.tape = w1.tape) (hu : w2.output = w1.output) (hh : w2.heap = w1.heap) : Keeps S w w2 :=
  ⟨ho.trans h.os, ht.trans h.tape, hu.trans h.output, by rw [hh]; exact h.size, fun k hk hn => by rw [hh]; exact h.block k hk hn⟩
/-- Take under way -/
structure TkSt (W w wx : World) (b h : Nat) (A : Option Addr) (k c : Nat) (es : List (List Value)) : Prop where
  kp : Keeps (fun q => q = b) w wx
  bel : Below W.heap.size W wx
  own : OwnV W wx A k c es
  hb : w.heap.size ≤ h
theorem TkSt.below {W w wx wy : World} {b h k c : Nat} {A : Option Addr} {es : List (List Value)} (s : TkSt W w wx b h A k c es) (hb : Below wx.heap.size wx wy) : TkSt W w wy b h A k c es :=
  ⟨s.kp.trans (Keeps.of_below (S := fun q => q = b) hb) (fun q hq _ => hq), s.bel.trans (hb.mono s.bel.size), s.own.below hb, s.hb⟩
/-- one more element is behind it -/
def TkFin (W w : World) (b : Nat) (n : Nat) (id v : Int) (k : Nat) (es : List (List Value)) (ms : List Value) (m0 m1 m3 m5 m7 m8 : Int) (rd : Nat) (w' : World) : Prop :=
  ∃ A c, Keeps (fun q => q = b) w w' ∧ Below W.heap.size W w' ∧ Blk w' b 60 (rgC n id v A (k + 1) c m0 m1 m3 m5 m7 m8 false rd) ∧ OwnV W w' A (k + 1) c (es ++ [ms]) ∧ (∀ o q, A = some ⟨q, o, none⟩ → w.heap.size ≤ q)
theorem rdV_own {W w : World} {A : Option Addr} {k c : Nat} {es : List (List Value)} (h : OwnV W w A k c es) (hl : es.length = k) : Rd w w.heap.size A (k * 24) es.flatten := Rd.ownS h (by decide)
theorem flat_one {es : List (List Value)} (h : ∀ cs ∈ es, Ms cs) : ∀ u ∈ es.flatten, u.oneCell' = true := fun u hu => by
  obtain ⟨cs, hc, hu⟩ := List.mem_flatten.1 hu
  exact (h cs hc).one u hu
theorem new6 {W w w' : World} {A6 : Option Addr} {k c6 q1 B : Nat} {vs : List Value} (ho : w'.ownsRow W.heap.size 31 24 (.slice A6 k c6) k vs) (hob : (Value.slice A6 k c6).ownBlock = some q1 ∨ (Value.slice A6 k c6).ownBlock = some w.heap.size) (hq : B ≤ q1) (hB : B ≤ w.heap.size) : ∀ q o, A6 = some ⟨q, o, none⟩ → B ≤ q := by
  rintro q o rfl
  rw [ownBlock_of ho] at hob
  rcases hob with h | h <;> (injection h with h; omega)
theorem new9 {W w w' : World} {A6 A9 : Option Addr} {k c6 c9 n9 B B0 : Nat} {vs vs9 : List Value} (h6 : w.ownsRow W.heap.size 31 24 (.slice A6 k c6) k vs) (hn : ∀ q o, A6 = some ⟨q, o, none⟩ → B ≤ q) (ho : w'.ownsRow W.heap.size 31 24 (.slice A9 n9 c9) n9 vs9) (hob : (Value.slice A9 n9 c9).ownBlock = (Value.slice A6 k c6).ownBlock ∨ (Value.slice A9 n9 c9).ownBlock = some w.heap.size) (hB : B ≤ w.heap.size) (h0 : B0 ≤ B) : ∀ o q, A9 = some ⟨q, o, none⟩ → B0 ≤ q := by
  rintro o q rfl
  rw [ownBlock_of ho] at hob
  rcases hob with h | h
  · obtain ⟨o', e⟩ := ownBlock_is h6 h.symm
    exact Nat.le_trans h0 (hn q o' e)
  · injection h with h; omega
theorem not_new {W w : World} {A6 : Option Addr} {k c6 B h : Nat} {vs : List Value} (h6 : w.ownsRow W.heap.size 31 24 (.slice A6 k c6) k vs) (hn : ∀ q o, A6 = some ⟨q, o, none⟩ → B ≤ q) (hh : h < B) : some h ≠ (Value.slice A6 k c6).ownBlock := by
  intro e
  obtain ⟨o, e⟩ := ownBlock_is h6 e.symm
  have := hn h o e
  omega
theorem tk_grown {W w w2 wx wy : World} {b h k c q1 : Nat} {A : Option Addr} {es : List (List Value)} (s : TkSt W w wx b h A k c es) (hg : wx.grownBy wy (some q1)) (hq : w2.heap.size ≤ q1) (hw : w.heap.size ≤ w2.heap.size) (hl : ∀ q, gaS b A q → W.heap.size ≤ q ∧ q < w.heap.size) (hb : Below W.heap.size W wy) : TkSt W w wy b h A k c es := by
  have hk : Keeps (fun q => q = q1) wx wy := keeps_grown hg (fun q hq => by injection hq with hq; exact hq.symm)
  refine ⟨s.kp.trans hk (fun q hq hlt => by subst hq; omega), hb, ?_, s.hb⟩
  refine ⟨s.own.1, ?_⟩
  rcases s.own.2 with h2 | ⟨q, cap, cur, e1, e2, e3, e4⟩
  · exact .inl h2
  · refine .inr ⟨q, cap, cur, e1, e2, ?_, e4⟩
    injection e1 with e1
    have := (hl q (.inr ⟨0, e1⟩)).2
    exact (hk.block q (Array.getElem?_eq_some_iff.1 e3).1 (by show ¬ q = q1; omega)).trans e3
theorem tk_grown9 {W w w2 wx wy : World} {b h k c c6 : Nat} {A A6 : Option Addr} {es : List (List Value)} {vs : List Value} (s : TkSt W w wx b h A k c es) (hg : wx.grownBy wy (Value.slice A6 k c6).ownBlock) (h6 : wx.ownsRow W.heap.size 31 24 (.slice A6 k c6) k vs) (hn : ∀ q o, A6 = some ⟨q, o, none⟩ → w2.heap.size ≤ q) (hw : w.heap.size ≤ w2.heap.size) (hb : Below W.heap.size W wy) : Keeps (fun q => q = b) w wy ∧ Below W.heap.size W wy := by
  have hk : Keeps (fun q => w.heap.size ≤ q) wx wy := keeps_grown hg (fun q hq => by
    obtain ⟨o, e⟩ := ownBlock_is h6 hq
    have := hn q o e
    show w.heap.size ≤ q
    omega)
  exact ⟨s.kp.trans hk (fun q hq hlt => by have : w.heap.size ≤ q := hq; omega), hb⟩
theorem own9 {W w : World} {A9 : Option Addr} {k c9 : Nat} {es : List (List Value)} {ms : List Value} (h : w.ownsRow W.heap.size 31 24 (.slice A9 (k + 1) c9) (k + 1) (es.flatten ++ ms)) : OwnV W w A9 (k + 1) c9 (es ++ [ms]) := by
  unfold OwnV
  rw [List.flatten_append]
  simpa using h
theorem tk_fin {W w wx : World} {b n k c c9 : Nat} {id v : Int} {A A9 : Option Addr} {es : List (List Value)} {ms : List Value} {m0 m1 m3 m5 m7 m8 : Int} {rd : Nat} (h1 : Keeps (fun q => q = b) w wx ∧ Below W.heap.size W wx) (h2 : Blk wx b 60 (rgC n id v A k c m0 m1 m3 m5 m7 m8 false rd)) (h3 : OwnV W wx A9 (k + 1) c9 (es ++ [ms])) (h4 : ∀ o q, A9 = some ⟨q, o, none⟩ → w.heap.size ≤ q) (hlo : W.heap.size ≤ b) :
    TkFin W w b n id v k es ms m0 m1 m3 m5 m7 m8 rd (wx.setCell ⟨b, 3, none⟩ (.slice A9 (k + 1) c9)) :=
  ⟨A9, c9, keeps_setCell (S := fun q => q = b) rfl h1.1 3 _, h1.2.setCell hlo _, h2.set_ 3 _, own_set_t h3 h2 (by decide), h4⟩
set_option maxHeartbeats 4000000 in
set_option maxRecDepth 100000 in
theorem rtake_any {W w : World} {S : Nat → Prop} {b : Nat} {g g2 : Gm} (h : RthAt W w S b g) {a : GA} {m : Mg} (hlo : Vw.lo ≤ m.inst) (hf : In64 m.frm) {r : Bool} (hr : g.may (svM m) m.view = r) (h2 : g.take (svM m) m.view = g2) :
    Calls Try.prog 21 #[.pointer (some ⟨b, 0, none⟩), msgV a m] w fun e w' => e = .returned (.bool r) ∧ GotRa W w S b g2 w' := by
  obtain ⟨A, k, c, es, m0, m1, m3, m5, m7, m8, h1, rfl⟩ := h
  have HAT : Hid (RthAt W w (gaS b A) b g) := Lib.hid ⟨A, k, c, es, m0, m1, m3, m5, m7, m8, h1, rfl⟩
  obtain ⟨su, hsu⟩ : ∃ x, g.com.isSome = x := ⟨_, rfl⟩
  obtain ⟨n, hn⟩ : ∃ n, g.n = n := ⟨_, rfl⟩
  obtain ⟨id, hid⟩ : ∃ n, g.id = n := ⟨_, rfl⟩
  obtain ⟨v, hv⟩ : ∃ n, g.v = n := ⟨_, rfl⟩
  obtain ⟨rd, hrd⟩ : ∃ n, g.ready = n := ⟨_, rfl⟩
  have HKB : Hid (Blk w b 60 (rgC n id v A k c m0 m1 m3 m5 m7 m8 su rd)) := Lib.hid (by have := h1.blk; rwa [hn, hid, hv, hrd, hsu] at this)
  have hmay : r = (!su && (decide (m.kind = 2) && (decide (m.view = v) && (decide (0 ≤ m.frm) && (decide (m.frm.toNat < n) && !(Gm.came g.l).testBit m.frm.toNat))))) := by
    rw [← hr]; unfold Gm.may; rw [h1.ok.lack_bit, hsu, hn, hv]; rfl
  have HM := Lib.hid hmay
  have H1 := Lib.hid h1
  have H2 := Lib.hid h2
  have HR := Lib.hid hr
  have HF := Lib.hid hf
  have HLO := Lib.hid hlo
  have HN := Lib.hid (And.intro hn (And.intro hid (And.intro hv (And.intro hrd hsu))))
  have hn7 : 1 ≤ n ∧ n ≤ 7 := by rw [← hn]; exact ⟨h1.ok.n1, h1.ok.n7⟩
  have hk7 := h1.few
  clear h1 h2 hr hf hlo hmay hn hid hv hrd hsu
  unfold msgV msgC
  go_enter Try.func21, Try.ntmps21
  go_upto_region 1 with fail
  obtain ⟨h, w1, hgE, hwE, hbE, hkE⟩ := alloced w (msgC a m) 31
  unfold msgC at hwE
  rw [hgE, hwE]
  have HB1 := Lib.hid hbE
  have HKH := Lib.hid hkE
  have HAT1 := Lib.hid (HAT.out.below hbE)
  have HKB1 := Lib.hid (HKB.out.below hbE)
  have HHG := Lib.hid hgE
  have k0 := hkE.cell 0
  have k1 := hkE.cell 1
  have k3 := hkE.cell 3
  simp [msgC] at k0 k1 k3
  have c0 := HKB1.out.cell 0
  have c2 := HKB1.out.cell 2
  have c28 := HKB1.out.cell 28
  simp [rgC] at c0 c2 c28
  clear hgE hwE hbE hkE
  go_cut [42] from 5 to 42 (fun s42 wx => s42 = .bool (!r) ∧ Hid (Below w1.heap.size w1 wx))
  case first =>
    cases su with
    | true =>
      obtain rfl : r = false := by rw [HM.out]; rfl
      clear k0 k1 k3 c0 c2
      go_quiet (fail)
      go_wp2_with fail
      go_meet
      exact ⟨rfl, Lib.hid (bel_drewN _ _)⟩
    | false =>
      by_cases hk : m.kind = 2
      · rw [hk] at k0
        have HK := Lib.hid hk
        by_cases hv : m.view = v
        · rw [hv] at k3
          have HV := Lib.hid hv
          obtain ⟨fr, hfr⟩ : ∃ z, m.frm = z := ⟨_, rfl⟩
          rw [hfr] at k1
          have hmy := HM.out
          rw [hfr, decide_eq_true hk, decide_eq_true hv] at hmy
          by_cases h0 : 0 ≤ fr
          · have hd0 : decide (fr < 0) = false := decide_eq_false (by omega)
            rw [decide_eq_true h0] at hmy
            by_cases hfn : fr < (n : Int)
            · have hdn : decide ((n : Int) ≤ fr) = false := decide_eq_false (by omega)
              rw [decide_eq_true (show fr.toNat < n by omega)] at hmy
              have C2 := Lib.hid (fun q => rhas_any (HAT1.out.below (bel_drewN w1 q)) fr h0)
              obtain ⟨hs, hhs⟩ : ∃ x, (Gm.came g.l).testBit fr.toNat = x := ⟨_, rfl⟩
              rw [hhs] at C2 hmy
              have hrs : hs = (!r) := by rw [hmy]; simp
              rw [hrs] at C2
              clear hmy hrs hhs h0 hfn hk hv hfr
              go_quiet ((go_at_call 37; exact Calls.quiet_of_same ((C2.out _).mono (fun _ _ h => ⟨h.1, h.2.symm⟩))))
              go_wp2_with fail
              go_meet
              exact ⟨rfl, Lib.hid (bel_drewN _ _)⟩
            · have hdn : decide ((n : Int) ≤ fr) = true := decide_eq_true (by omega)
              obtain rfl : r = false := by rw [hmy, decide_eq_false (show ¬ fr.toNat < n by omega)]; simp
              clear hmy h0 hfn hk hv hfr
              go_quiet (fail)
              go_wp2_with fail
              go_meet
              exact ⟨rfl, Lib.hid (bel_drewN _ _)⟩
          · have hd0 : decide (fr < 0) = true := decide_eq_true (by omega)
            obtain rfl : r = false := by rw [hmy, decide_eq_false h0]; simp
            clear hmy h0 hk hv hfr c0
            go_quiet (fail)
            go_wp2_with fail
            go_meet
            exact ⟨rfl, Lib.hid (bel_drewN _ _)⟩
        · obtain rfl : r = false := by rw [HM.out, decide_eq_false hv]; simp
          have hd2 : (m.view == v) = false := by simpa using hv
          have hd3 : decide (m.view = v) = false := decide_eq_false hv
          have hd4 : (m.view != v) = true := by simpa using hv
          clear hv k1 hk c0
          go_quiet (fail)
          go_wp2_with fail
          go_meet
          exact ⟨rfl, Lib.hid (bel_drewN _ _)⟩
      · obtain rfl : r = false := by rw [HM.out, decide_eq_false hk]; simp
        have hd2 : (m.kind == 2) = false := by simpa using hk
        have hd3 : decide (m.kind = 2) = false := decide_eq_false hk
        have hd4 : (m.kind != 2) = true := by simpa using hk
        clear hk k1 k3 c2 c0
        go_quiet (fail)
        go_wp2_with fail
        go_meet
        exact ⟨rfl, Lib.hid (bel_drewN _ _)⟩
  rename_i hcut
  obtain ⟨rfl, hb2⟩ := hcut
  rename World => w2
  have HB2 := Lib.hid (HB1.out.trans (hb2.out.mono HB1.out.size))
  have HAT2 := Lib.hid (HAT1.out.below hb2.out)
  have HKH2 := Lib.hid (HKH.out.below hb2.out)
  have HKB2 := Lib.hid (HKB1.out.below hb2.out)
  clear hb2 HAT1 HKH HKB1 k0 k1 k3 c0 c2 c28
  cases r with
  | false =>
    go_wp2_with fail
    go_ret
    refine ⟨rfl, gaS b A, ?_, Adv.of_below _ HB2.out⟩
    rw [← H2.out]; unfold Gm.take; rw [if_neg (by rw [HR.out]; decide)]; exact HAT2.out
  | true =>
    have hsuf : su = false := by cases su with
      | false => rfl
      | true => have := HM.out; simp at this
    subst hsuf
    have HE : Hid (es.map svOf = g.l) := Lib.hid H1.out.st
    have HT0 : Hid (TkSt W w w2 b h A k c es) := Lib.hid ⟨Keeps.of_below HB2.out, H1.out.bel.trans (HB2.out.mono H1.out.bel.size), H1.out.own.below HB2.out, Nat.le_of_eq HHG.out⟩
    go_upto_region 3 with fail
    go_cut [] from 43 to 54 (fun wx => Hid (TkFin W w b n id v k es (msgC a m).toList m0 m1 m3 m5 m7 m8 rd wx))
    case first =>
      refine region_T (n := 12) (S := fun w' => Blk w' b 60 (rgC n id v A k c m0 m1 m3 m5 m7 m8 false rd) ∧ Blk w' h 31 (msgC a m)) (by kernel_rfl) ?_
      have hS : Hid (Blk w2.drew b 60 (rgC n id v A k c m0 m1 m3 m5 m7 m8 false rd) ∧ Blk w2.drew h 31 (msgC a m)) := Lib.hid ⟨HKB2.out, HKH2.out⟩
      have HT : Hid (TkSt W w w2.drew b h A k c es) := Lib.hid ⟨HT0.out.kp.same rfl rfl rfl rfl, HT0.out.bel.drew, HT0.out.own, HT0.out.hb⟩
      have HSZ : Hid (w2.heap.size ≤ w2.drew.heap.size) := Lib.hid (Nat.le_refl _)
      have HLT : Hid (b < w2.heap.size ∧ h < w2.heap.size) := Lib.hid ⟨HKB2.out.lt, HKH2.out.lt⟩
      generalize w2.drew = x0 at hS HT HSZ ⊢
      clear HT0 HKB2 HKH2 HAT2
      refine AnyT.takeC [11, 10, 0] [] (i := 0) (v := .pointer (some ⟨b, 0, none⟩)) rfl (by kernel_rfl) (by kernel_rfl) (by kernel_rfl) (by kernel_rfl) (by kernel_rfl) (by kernel_rfl) (fun _ _ _ h => h) (Or.inl ⟨by kernel_rfl, fun w _ => by go_simp⟩) hS.out ?_
      refine AnyT.takeC [9, 6, 5, 4, 3, 2] [] (i := 2) (v := .pointer (some ⟨b, 0, none⟩)) rfl (by kernel_rfl) (by kernel_rfl) (by kernel_rfl) (by kernel_rfl) (by kernel_rfl) (by kernel_rfl) (fun _ _ _ h => h) (Or.inl ⟨by kernel_rfl, fun w _ => by go_simp⟩) hS.out ?_
      refine AnyT.takeC [9, 6, 5, 4, 3] [] (i := 3) (v := .pointer (some ⟨b, 0, none⟩)) rfl (by kernel_rfl) (by kernel_rfl) (by kernel_rfl) (by kernel_rfl) (by kernel_rfl) (by kernel_rfl) (fun _ _ _ h => h) (Or.inl ⟨by kernel_rfl, fun w _ => by go_simp⟩) hS.out ?_
      refine AnyT.takeC [9, 6, 5, 4] [] (i := 4) (v := .pointer (some ⟨b, 3, none⟩)) rfl (by kernel_rfl) (by kernel_rfl) (by kernel_rfl) (by kernel_rfl) (by kernel_rfl) (by kernel_rfl) (fun _ _ _ h => h) (Or.inl ⟨by kernel_rfl, fun w _ => by go_simp⟩) hS.out ?_
      refine AnyT.takeC [9, 6, 5] [(9, [6, 5])] (i := 5) (v := .slice A k c) rfl (by kernel_rfl) (by kernel_rfl) (by kernel_rfl) (by kernel_rfl) (by kernel_rfl) (by kernel_rfl) (fun _ _ _ h => h) (Or.inl ⟨by kernel_rfl, fun wq hq => by have q := hq.1.cell 3; simp [rgC] at q; go_simp⟩) hS.out ?_
      refine AnyT.ready (rs := [1, 7]) (by kernel_rfl) (by simp) ?_
      refine AllT.cons rfl (fun K hK => ?_) ?_
      · go_simp
        obtain ⟨q1, x1, hgE, hwE, hbE, hkE⟩ := alloced x0 #[] 31
        have HE1 : Hid (OwnV W x1 (some ⟨q1, 0, none⟩) 0 0 [] ∧ Blk x1 q1 31 #[] ∧ w2.heap.size ≤ q1) := Lib.hid ⟨by rw [← hgE, ← hwE]; exact own_empty24 HT.out.bel, hkE, by rw [← hgE]; exact HSZ.out⟩
        rw [hgE, hwE]
        have hS := Lib.hid (And.intro (hS.out.1.below hbE) (hS.out.2.below hbE))
        have HT := Lib.hid (HT.out.below hbE)
        have HSZ := Lib.hid (Nat.le_trans HSZ.out hbE.size)
        clear hgE hwE hbE hkE
        refine hK.out _ _ (Or.inr hS.out) (fun _ => ?_)
        clear hK K
        refine AnyT.ready (rs := [6, 7]) (by kernel_rfl) (by simp) ?_
        refine AllT.cons rfl (fun K hK => ?_) ?_
        · rw [if_pos (by kernel_rfl)]
          refine wp_append_G (W := W) (w := x1) (.tmp 44) (.tmp 48) rfl (A := some ⟨q1, 0, none⟩) (n := 0) (c := 0) (by kernel_rfl) HE1.out.1 (B := x1.heap.size) (A' := A) (m := k) (c' := c) (ws := es.flatten) (by kernel_rfl) (rdV_own HT.out.own H1.out.len) (flat_one H1.out.ms) (Nat.zero_add k) (by omega) HT.out.bel ?_
          intro A6 c6 x2 hown hbel hgr hob
          rw [ownBlock0] at hgr hob
          have HO6 : Hid (OwnV W x2 A6 k c6 es ∧ (∀ q o, A6 = some ⟨q, o, none⟩ → w2.heap.size ≤ q)) := Lib.hid ⟨by simpa [OwnV] using hown, new6 hown hob HE1.out.2.2 HSZ.out⟩
          have hS := Lib.hid (And.intro (hS.out.1.grown hgr (by intro e; injection e with e; have := HLT.out.1; have := HE1.out.2.2; omega)) (hS.out.2.grown hgr (by intro e; injection e with e; have := HLT.out.2; have := HE1.out.2.2; omega)))
          have HT := Lib.hid (tk_grown HT.out hgr HE1.out.2.2 HB2.out.size H1.out.lt hbel)
          have HSZ := Lib.hid (Nat.le_trans HSZ.out hgr.size)
          clear hown hbel hgr hob HE1
          refine hK.out _ _ (Or.inr hS.out) (fun _ => ?_)
          clear hK K
          refine AnyT.ready (rs := [7]) (by kernel_rfl) (by simp) ?_
          refine AllT.cons rfl (fun K hK => ?_) AllT.nil
          rw [if_pos (by kernel_rfl)]
          refine wp_load_mid 31 (.tmp 3) rfl h 0 (by kernel_rfl) [.int .i64 m.kind, .int .i64 m.frm, .int .i64 m.dst, .int .i64 m.view, .int .i64 m.inst, .int .i64 m.len, .bool m.has, .int .i64 m.mem, .int .i64 m.src, .int .i64 m.pos, .int .i64 m.tot, .slice a.Ad m.data.length a.cd, .int .i64 m.hop, .int .i64 m.seq, .slice a.Ah m.hav.length a.ch, .slice a.An m.nee.length a.cn, .int .i64 m.idx, .int .i64 m.ent.s, .int .i64 m.ent.q, .int .i64 m.ent.c.kind, .int .i64 m.ent.c.who, .slice a.c.Ak m.ent.c.key.length a.c.ck, .slice a.c.Av m.ent.c.val.length a.c.cv, .slice a.c.Ao m.ent.c.old.length a.c.co] _ (rangeG18 hS.out.2) Try.underlying31 rfl (by kernel_rfl) ?_
          refine hK.out _ _ (Or.inr hS.out) (fun _ => ?_)
          clear hK K
          refine AnyT.ready (rs := [8]) (by kernel_rfl) (by simp) ?_
          refine AllT.cons rfl (fun K hK => ?_) AllT.nil
          go_simp
          obtain ⟨q8, x3, hgE, hwE, hbE, hkE⟩ := alloced x2 #[.int .i64 m.kind, .int .i64 m.frm, .int .i64 m.dst, .int .i64 m.view, .int .i64 m.inst, .int .i64 m.len, .bool m.has, .int .i64 m.mem, .int .i64 m.src, .int .i64 m.pos, .int .i64 m.tot, .slice a.Ad m.data.length a.cd, .int .i64 m.hop, .int .i64 m.seq, .slice a.Ah m.hav.length a.ch, .slice a.An m.nee.length a.cn, .int .i64 m.idx, .int .i64 m.ent.s, .int .i64 m.ent.q, .int .i64 m.ent.c.kind, .int .i64 m.ent.c.who, .slice a.c.Ak m.ent.c.key.length a.c.ck, .slice a.c.Av m.ent.c.val.length a.c.cv, .slice a.c.Ao m.ent.c.old.length a.c.co] 31
          rw [hgE, hwE]
          have HK8 : Hid (Blk x3 q8 31 (msgC a m) ∧ w2.heap.size ≤ q8) := Lib.hid ⟨hkE, by rw [← hgE]; exact HSZ.out⟩
          have hS := Lib.hid (And.intro (hS.out.1.below hbE) (hS.out.2.below hbE))
          have HT := Lib.hid (HT.out.below hbE)
          have HSZ := Lib.hid (Nat.le_trans HSZ.out hbE.size)
          have HO6 := Lib.hid (And.intro (HO6.out.1.below hbE) HO6.out.2)
          clear hgE hwE hbE hkE
          refine hK.out _ _ (Or.inr hS.out) (fun _ => ?_)
          clear hK K
          refine AnyT.ready (rs := [9]) (by kernel_rfl) (by simp) ?_
          refine AllT.cons rfl (fun K hK => ?_) AllT.nil
          rw [if_pos (by kernel_rfl)]
          refine wp_append_G (W := W) (w := x3) (.tmp 49) (.tmp 51) rfl (A := A6) (n := k) (c := c6) (by kernel_rfl) HO6.out.1 (B := x3.heap.size) (A' := some ⟨q8, 0, none⟩) (m := 1) (c' := 1) (ws := (msgC a m).toList) (by kernel_rfl) (rd_one24 HK8.out.1 rfl rfl) (msg_ms HLO.out).one rfl (by omega) HT.out.bel ?_
          intro A9 c9 y9 hown hbel hgr hob
          have HO9 := Lib.hid (own9 hown)
          have hS := Lib.hid (And.intro (hS.out.1.grown hgr (own_notT HO6.out.1 hS.out.1 (by decide))) (hS.out.2.grown hgr (not_new HO6.out.1 HO6.out.2 HLT.out.2)))
          have HT9 := Lib.hid (tk_grown9 HT.out hgr HO6.out.1 HO6.out.2 HB2.out.size hbel)
          have HN9 := Lib.hid (new9 HO6.out.1 HO6.out.2 hown hob HSZ.out HB2.out.size)
          clear hown hbel hgr hob HT HK8 HO6 HSZ
          refine hK.out _ _ (Or.inr hS.out) (fun _ => ?_)
          clear hK K
          refine AnyT.ready (rs := [10]) (by kernel_rfl) (by simp) ?_
          refine AllT.cons rfl (fun K hK => ?_) AllT.nil
          go_simp
          refine hK.out _ _ (Or.inr (hS.out)) (fun _ => ?_)
          clear hK K
          refine AnyT.ready (rs := [11]) (by kernel_rfl) (by simp) ?_
          refine AllT.cons rfl (fun K hK => ?_) AllT.nil
          go_simp
          refine hK.out _ _ (Or.inr (hS.out)) (fun _ => ?_)
          clear hK K
          have c3 := hS.out.1.cell 3
          have f3 := hS.out.1.frozen 3
          simp [rgC] at c3
          refine AnyT.ready (rs := [12]) (by kernel_rfl) (by simp) ?_
          refine AllT.cons rfl (fun K hK => ?_) AllT.nil
          go_simp
          refine hK.out _ _ (Or.inl rfl) (fun _ => ?_)
          clear hK K
          refine AnyT.done (by kernel_rfl) ?_ _
          go_simp
          go_wp2_with fail
          go_meet
          exact Lib.hid (tk_fin HT9.out hS.out.1 HO9.out HN9.out H1.out.lo)
        refine AllT.cons rfl (fun K hK => ?_) AllT.nil
        rw [if_pos (by kernel_rfl)]
        refine wp_load_mid 31 (.tmp 3) rfl h 0 (by kernel_rfl) [.int .i64 m.kind, .int .i64 m.frm, .int .i64 m.dst, .int .i64 m.view, .int .i64 m.inst, .int .i64 m.len, .bool m.has, .int .i64 m.mem, .int .i64 m.src, .int .i64 m.pos, .int .i64 m.tot, .slice a.Ad m.data.length a.cd, .int .i64 m.hop, .int .i64 m.seq, .slice a.Ah m.hav.length a.ch, .slice a.An m.nee.length a.cn, .int .i64 m.idx, .int .i64 m.ent.s, .int .i64 m.ent.q, .int .i64 m.ent.c.kind, .int .i64 m.ent.c.who, .slice a.c.Ak m.ent.c.key.length a.c.ck, .slice a.c.Av m.ent.c.val.length a.c.cv, .slice a.c.Ao m.ent.c.old.length a.c.co] _ (rangeG18 hS.out.2) Try.underlying31 rfl (by kernel_rfl) ?_
        refine hK.out _ _ (Or.inr hS.out) (fun _ => ?_)
        clear hK K
        refine AnyT.ready (rs := [6, 8]) (by kernel_rfl) (by simp) ?_
        refine AllT.cons rfl (fun K hK => ?_) ?_
        · rw [if_pos (by kernel_rfl)]
          refine wp_append_G (W := W) (w := x1) (.tmp 44) (.tmp 48) rfl (A := some ⟨q1, 0, none⟩) (n := 0) (c := 0) (by kernel_rfl) HE1.out.1 (B := x1.heap.size) (A' := A) (m := k) (c' := c) (ws := es.flatten) (by kernel_rfl) (rdV_own HT.out.own H1.out.len) (flat_one H1.out.ms) (Nat.zero_add k) (by omega) HT.out.bel ?_
          intro A6 c6 x2 hown hbel hgr hob
          rw [ownBlock0] at hgr hob
          have HO6 : Hid (OwnV W x2 A6 k c6 es ∧ (∀ q o, A6 = some ⟨q, o, none⟩ → w2.heap.size ≤ q)) := Lib.hid ⟨by simpa [OwnV] using hown, new6 hown hob HE1.out.2.2 HSZ.out⟩
          have hS := Lib.hid (And.intro (hS.out.1.grown hgr (by intro e; injection e with e; have := HLT.out.1; have := HE1.out.2.2; omega)) (hS.out.2.grown hgr (by intro e; injection e with e; have := HLT.out.2; have := HE1.out.2.2; omega)))
          have HT := Lib.hid (tk_grown HT.out hgr HE1.out.2.2 HB2.out.size H1.out.lt hbel)
          have HSZ := Lib.hid (Nat.le_trans HSZ.out hgr.size)
          clear hown hbel hgr hob HE1
          refine hK.out _ _ (Or.inr hS.out) (fun _ => ?_)
          clear hK K
          refine AnyT.ready (rs := [8]) (by kernel_rfl) (by simp) ?_
          refine AllT.cons rfl (fun K hK => ?_) AllT.nil
          go_simp
          obtain ⟨q8, x3, hgE, hwE, hbE, hkE⟩ := alloced x2 #[.int .i64 m.kind, .int .i64 m.frm, .int .i64 m.dst, .int .i64 m.view, .int .i64 m.inst, .int .i64 m.len, .bool m.has, .int .i64 m.mem, .int .i64 m.src, .int .i64 m.pos, .int .i64 m.tot, .slice a.Ad m.data.length a.cd, .int .i64 m.hop, .int .i64 m.seq, .slice a.Ah m.hav.length a.ch, .slice a.An m.nee.length a.cn, .int .i64 m.idx, .int .i64 m.ent.s, .int .i64 m.ent.q, .int .i64 m.ent.c.kind, .int .i64 m.ent.c.who, .slice a.c.Ak m.ent.c.key.length a.c.ck, .slice a.c.Av m.ent.c.val.length a.c.cv, .slice a.c.Ao m.ent.c.old.length a.c.co] 31
          rw [hgE, hwE]
          have HK8 : Hid (Blk x3 q8 31 (msgC a m) ∧ w2.heap.size ≤ q8) := Lib.hid ⟨hkE, by rw [← hgE]; exact HSZ.out⟩
          have hS := Lib.hid (And.intro (hS.out.1.below hbE) (hS.out.2.below hbE))
          have HT := Lib.hid (HT.out.below hbE)
          have HSZ := Lib.hid (Nat.le_trans HSZ.out hbE.size)
          have HO6 := Lib.hid (And.intro (HO6.out.1.below hbE) HO6.out.2)
          clear hgE hwE hbE hkE
          refine hK.out _ _ (Or.inr hS.out) (fun _ => ?_)
          clear hK K
          refine AnyT.ready (rs := [9]) (by kernel_rfl) (by simp) ?_
          refine AllT.cons rfl (fun K hK => ?_) AllT.nil
          rw [if_pos (by kernel_rfl)]
          refine wp_append_G (W := W) (w := x3) (.tmp 49) (.tmp 51) rfl (A := A6) (n := k) (c := c6) (by kernel_rfl) HO6.out.1 (B := x3.heap.size) (A' := some ⟨q8, 0, none⟩) (m := 1) (c' := 1) (ws := (msgC a m).toList) (by kernel_rfl) (rd_one24 HK8.out.1 rfl rfl) (msg_ms HLO.out).one rfl (by omega) HT.out.bel ?_
          intro A9 c9 y9 hown hbel hgr hob
          have HO9 := Lib.hid (own9 hown)
          have hS := Lib.hid (And.intro (hS.out.1.grown hgr (own_notT HO6.out.1 hS.out.1 (by decide))) (hS.out.2.grown hgr (not_new HO6.out.1 HO6.out.2 HLT.out.2)))
          have HT9 := Lib.hid (tk_grown9 HT.out hgr HO6.out.1 HO6.out.2 HB2.out.size hbel)
          have HN9 := Lib.hid (new9 HO6.out.1 HO6.out.2 hown hob HSZ.out HB2.out.size)
          clear hown hbel hgr hob HT HK8 HO6 HSZ
          refine hK.out _ _ (Or.inr hS.out) (fun _ => ?_)
          clear hK K
          refine AnyT.ready (rs := [10]) (by kernel_rfl) (by simp) ?_
          refine AllT.cons rfl (fun K hK => ?_) AllT.nil
          go_simp
          refine hK.out _ _ (Or.inr (hS.out)) (fun _ => ?_)
          clear hK K
          refine AnyT.ready (rs := [11]) (by kernel_rfl) (by simp) ?_
          refine AllT.cons rfl (fun K hK => ?_) AllT.nil
          go_simp
          refine hK.out _ _ (Or.inr (hS.out)) (fun _ => ?_)
          clear hK K
          have c3 := hS.out.1.cell 3
          have f3 := hS.out.1.frozen 3
          simp [rgC] at c3
          refine AnyT.ready (rs := [12]) (by kernel_rfl) (by simp) ?_
          refine AllT.cons rfl (fun K hK => ?_) AllT.nil
          go_simp
          refine hK.out _ _ (Or.inl rfl) (fun _ => ?_)
          clear hK K
          refine AnyT.done (by kernel_rfl) ?_ _
          go_simp
          go_wp2_with fail
          go_meet
          exact Lib.hid (tk_fin HT9.out hS.out.1 HO9.out HN9.out H1.out.lo)
        refine AllT.cons rfl (fun K hK => ?_) AllT.nil
        go_simp
        obtain ⟨q8, x2, hgE, hwE, hbE, hkE⟩ := alloced x1 #[.int .i64 m.kind, .int .i64 m.frm, .int .i64 m.dst, .int .i64 m.view, .int .i64 m.inst, .int .i64 m.len, .bool m.has, .int .i64 m.mem, .int .i64 m.src, .int .i64 m.pos, .int .i64 m.tot, .slice a.Ad m.data.length a.cd, .int .i64 m.hop, .int .i64 m.seq, .slice a.Ah m.hav.length a.ch, .slice a.An m.nee.length a.cn, .int .i64 m.idx, .int .i64 m.ent.s, .int .i64 m.ent.q, .int .i64 m.ent.c.kind, .int .i64 m.ent.c.who, .slice a.c.Ak m.ent.c.key.length a.c.ck, .slice a.c.Av m.ent.c.val.length a.c.cv, .slice a.c.Ao m.ent.c.old.length a.c.co] 31
        rw [hgE, hwE]
        have HK8 : Hid (Blk x2 q8 31 (msgC a m) ∧ w2.heap.size ≤ q8) := Lib.hid ⟨hkE, by rw [← hgE]; exact HSZ.out⟩
        have hS := Lib.hid (And.intro (hS.out.1.below hbE) (hS.out.2.below hbE))
        have HT := Lib.hid (HT.out.below hbE)
        have HSZ := Lib.hid (Nat.le_trans HSZ.out hbE.size)
        have HE1 := Lib.hid (And.intro (HE1.out.1.below hbE) (And.intro (HE1.out.2.1.below hbE) HE1.out.2.2))
        clear hgE hwE hbE hkE
        refine hK.out _ _ (Or.inr hS.out) (fun _ => ?_)
        clear hK K
        refine AnyT.ready (rs := [6]) (by kernel_rfl) (by simp) ?_
        refine AllT.cons rfl (fun K hK => ?_) AllT.nil
        rw [if_pos (by kernel_rfl)]
        refine wp_append_G (W := W) (w := x2) (.tmp 44) (.tmp 48) rfl (A := some ⟨q1, 0, none⟩) (n := 0) (c := 0) (by kernel_rfl) HE1.out.1 (B := x2.heap.size) (A' := A) (m := k) (c' := c) (ws := es.flatten) (by kernel_rfl) (rdV_own HT.out.own H1.out.len) (flat_one H1.out.ms) (Nat.zero_add k) (by omega) HT.out.bel ?_
        intro A6 c6 x3 hown hbel hgr hob
        rw [ownBlock0] at hgr hob
        have HO6 : Hid (OwnV W x3 A6 k c6 es ∧ (∀ q o, A6 = some ⟨q, o, none⟩ → w2.heap.size ≤ q)) := Lib.hid ⟨by simpa [OwnV] using hown, new6 hown hob HE1.out.2.2 HSZ.out⟩
        have hS := Lib.hid (And.intro (hS.out.1.grown hgr (by intro e; injection e with e; have := HLT.out.1; have := HE1.out.2.2; omega)) (hS.out.2.grown hgr (by intro e; injection e with e; have := HLT.out.2; have := HE1.out.2.2; omega)))
        have HT := Lib.hid (tk_grown HT.out hgr HE1.out.2.2 HB2.out.size H1.out.lt hbel)
        have HSZ := Lib.hid (Nat.le_trans HSZ.out hgr.size)
        have HK8 := Lib.hid (And.intro (HK8.out.1.grown hgr (by intro e; injection e with e; exact blk_apart24 HE1.out.2.1 HK8.out.1 (by show 0 < 24; decide) e)) HK8.out.2)
        clear hown hbel hgr hob HE1
        refine hK.out _ _ (Or.inr hS.out) (fun _ => ?_)
        clear hK K
        refine AnyT.ready (rs := [9]) (by kernel_rfl) (by simp) ?_
        refine AllT.cons rfl (fun K hK => ?_) AllT.nil
        rw [if_pos (by kernel_rfl)]
        refine wp_append_G (W := W) (w := x3) (.tmp 49) (.tmp 51) rfl (A := A6) (n := k) (c := c6) (by kernel_rfl) HO6.out.1 (B := x3.heap.size) (A' := some ⟨q8, 0, none⟩) (m := 1) (c' := 1) (ws := (msgC a m).toList) (by kernel_rfl) (rd_one24 HK8.out.1 rfl rfl) (msg_ms HLO.out).one rfl (by omega) HT.out.bel ?_
        intro A9 c9 y9 hown hbel hgr hob
        have HO9 := Lib.hid (own9 hown)
        have hS := Lib.hid (And.intro (hS.out.1.grown hgr (own_notT HO6.out.1 hS.out.1 (by decide))) (hS.out.2.grown hgr (not_new HO6.out.1 HO6.out.2 HLT.out.2)))
        have HT9 := Lib.hid (tk_grown9 HT.out hgr HO6.out.1 HO6.out.2 HB2.out.size hbel)
        have HN9 := Lib.hid (new9 HO6.out.1 HO6.out.2 hown hob HSZ.out HB2.out.size)
        clear hown hbel hgr hob HT HK8 HO6 HSZ
        refine hK.out _ _ (Or.inr hS.out) (fun _ => ?_)
        clear hK K
        refine AnyT.ready (rs := [10]) (by kernel_rfl) (by simp) ?_
        refine AllT.cons rfl (fun K hK => ?_) AllT.nil
        go_simp
        refine hK.out _ _ (Or.inr (hS.out)) (fun _ => ?_)
        clear hK K
        refine AnyT.ready (rs := [11]) (by kernel_rfl) (by simp) ?_
        refine AllT.cons rfl (fun K hK => ?_) AllT.nil
        go_simp
        refine hK.out _ _ (Or.inr (hS.out)) (fun _ => ?_)
        clear hK K
        have c3 := hS.out.1.cell 3
        have f3 := hS.out.1.frozen 3
        simp [rgC] at c3
        refine AnyT.ready (rs := [12]) (by kernel_rfl) (by simp) ?_
        refine AllT.cons rfl (fun K hK => ?_) AllT.nil
        go_simp
        refine hK.out _ _ (Or.inl rfl) (fun _ => ?_)
        clear hK K
        refine AnyT.done (by kernel_rfl) ?_ _
        go_simp
        go_wp2_with fail
        go_meet
        exact Lib.hid (tk_fin HT9.out hS.out.1 HO9.out HN9.out H1.out.lo)
      refine AllT.cons rfl (fun K hK => ?_) AllT.nil
      rw [if_pos (by kernel_rfl)]
      refine wp_load_mid 31 (.tmp 3) rfl h 0 (by kernel_rfl) [.int .i64 m.kind, .int .i64 m.frm, .int .i64 m.dst, .int .i64 m.view, .int .i64 m.inst, .int .i64 m.len, .bool m.has, .int .i64 m.mem, .int .i64 m.src, .int .i64 m.pos, .int .i64 m.tot, .slice a.Ad m.data.length a.cd, .int .i64 m.hop, .int .i64 m.seq, .slice a.Ah m.hav.length a.ch, .slice a.An m.nee.length a.cn, .int .i64 m.idx, .int .i64 m.ent.s, .int .i64 m.ent.q, .int .i64 m.ent.c.kind, .int .i64 m.ent.c.who, .slice a.c.Ak m.ent.c.key.length a.c.ck, .slice a.c.Av m.ent.c.val.length a.c.cv, .slice a.c.Ao m.ent.c.old.length a.c.co] _ (rangeG18 hS.out.2) Try.underlying31 rfl (by kernel_rfl) ?_
      refine hK.out _ _ (Or.inr hS.out) (fun _ => ?_)
      clear hK K
      refine AnyT.ready (rs := [1, 8]) (by kernel_rfl) (by simp) ?_
      refine AllT.cons rfl (fun K hK => ?_) ?_
      · go_simp
        obtain ⟨q1, x1, hgE, hwE, hbE, hkE⟩ := alloced x0 #[] 31
        have HE1 : Hid (OwnV W x1 (some ⟨q1, 0, none⟩) 0 0 [] ∧ Blk x1 q1 31 #[] ∧ w2.heap.size ≤ q1) := Lib.hid ⟨by rw [← hgE, ← hwE]; exact own_empty24 HT.out.bel, hkE, by rw [← hgE]; exact HSZ.out⟩
        rw [hgE, hwE]
        have hS := Lib.hid (And.intro (hS.out.1.below hbE) (hS.out.2.below hbE))
        have HT := Lib.hid (HT.out.below hbE)
        have HSZ := Lib.hid (Nat.le_trans HSZ.out hbE.size)
        clear hgE hwE hbE hkE
        refine hK.out _ _ (Or.inr hS.out) (fun _ => ?_)
        clear hK K
        refine AnyT.ready (rs := [6, 8]) (by kernel_rfl) (by simp) ?_
        refine AllT.cons rfl (fun K hK => ?_) ?_
        · rw [if_pos (by kernel_rfl)]
          refine wp_append_G (W := W) (w := x1) (.tmp 44) (.tmp 48) rfl (A := some ⟨q1, 0, none⟩) (n := 0) (c := 0) (by kernel_rfl) HE1.out.1 (B := x1.heap.size) (A' := A) (m := k) (c' := c) (ws := es.flatten) (by kernel_rfl) (rdV_own HT.out.own H1.out.len) (flat_one H1.out.ms) (Nat.zero_add k) (by omega) HT.out.bel ?_
          intro A6 c6 x2 hown hbel hgr hob
          rw [ownBlock0] at hgr hob
          have HO6 : Hid (OwnV W x2 A6 k c6 es ∧ (∀ q o, A6 = some ⟨q, o, none⟩ → w2.heap.size ≤ q)) := Lib.hid ⟨by simpa [OwnV] using hown, new6 hown hob HE1.out.2.2 HSZ.out⟩
          have hS := Lib.hid (And.intro (hS.out.1.grown hgr (by intro e; injection e with e; have := HLT.out.1; have := HE1.out.2.2; omega)) (hS.out.2.grown hgr (by intro e; injection e with e; have := HLT.out.2; have := HE1.out.2.2; omega)))
          have HT := Lib.hid (tk_grown HT.out hgr HE1.out.2.2 HB2.out.size H1.out.lt hbel)
          have HSZ := Lib.hid (Nat.le_trans HSZ.out hgr.size)
          clear hown hbel hgr hob HE1
          refine hK.out _ _ (Or.inr hS.out) (fun _ => ?_)
          clear hK K
          refine AnyT.ready (rs := [8]) (by kernel_rfl) (by simp) ?_
          refine AllT.cons rfl (fun K hK => ?_) AllT.nil
          go_simp
          obtain ⟨q8, x3, hgE, hwE, hbE, hkE⟩ := alloced x2 #[.int .i64 m.kind, .int .i64 m.frm, .int .i64 m.dst, .int .i64 m.view, .int .i64 m.inst, .int .i64 m.len, .bool m.has, .int .i64 m.mem, .int .i64 m.src, .int .i64 m.pos, .int .i64 m.tot, .slice a.Ad m.data.length a.cd, .int .i64 m.hop, .int .i64 m.seq, .slice a.Ah m.hav.length a.ch, .slice a.An m.nee.length a.cn, .int .i64 m.idx, .int .i64 m.ent.s, .int .i64 m.ent.q, .int .i64 m.ent.c.kind, .int .i64 m.ent.c.who, .slice a.c.Ak m.ent.c.key.length a.c.ck, .slice a.c.Av m.ent.c.val.length a.c.cv, .slice a.c.Ao m.ent.c.old.length a.c.co] 31
          rw [hgE, hwE]
          have HK8 : Hid (Blk x3 q8 31 (msgC a m) ∧ w2.heap.size ≤ q8) := Lib.hid ⟨hkE, by rw [← hgE]; exact HSZ.out⟩
          have hS := Lib.hid (And.intro (hS.out.1.below hbE) (hS.out.2.below hbE))
          have HT := Lib.hid (HT.out.below hbE)
          have HSZ := Lib.hid (Nat.le_trans HSZ.out hbE.size)
          have HO6 := Lib.hid (And.intro (HO6.out.1.below hbE) HO6.out.2)
          clear hgE hwE hbE hkE
          refine hK.out _ _ (Or.inr hS.out) (fun _ => ?_)
          clear hK K
          refine AnyT.ready (rs := [9]) (by kernel_rfl) (by simp) ?_
          refine AllT.cons rfl (fun K hK => ?_) AllT.nil
          rw [if_pos (by kernel_rfl)]
          refine wp_append_G (W := W) (w := x3) (.tmp 49) (.tmp 51) rfl (A := A6) (n := k) (c := c6) (by kernel_rfl) HO6.out.1 (B := x3.heap.size) (A' := some ⟨q8, 0, none⟩) (m := 1) (c' := 1) (ws := (msgC a m).toList) (by kernel_rfl) (rd_one24 HK8.out.1 rfl rfl) (msg_ms HLO.out).one rfl (by omega) HT.out.bel ?_
          intro A9 c9 y9 hown hbel hgr hob
          have HO9 := Lib.hid (own9 hown)
          have hS := Lib.hid (And.intro (hS.out.1.grown hgr (own_notT HO6.out.1 hS.out.1 (by decide))) (hS.out.2.grown hgr (not_new HO6.out.1 HO6.out.2 HLT.out.2)))
          have HT9 := Lib.hid (tk_grown9 HT.out hgr HO6.out.1 HO6.out.2 HB2.out.size hbel)
          have HN9 := Lib.hid (new9 HO6.out.1 HO6.out.2 hown hob HSZ.out HB2.out.size)
          clear hown hbel hgr hob HT HK8 HO6 HSZ
          refine hK.out _ _ (Or.inr hS.out) (fun _ => ?_)
          clear hK K
          refine AnyT.ready (rs := [10]) (by kernel_rfl) (by simp) ?_
          refine AllT.cons rfl (fun K hK => ?_) AllT.nil
          go_simp
          refine hK.out _ _ (Or.inr (hS.out)) (fun _ => ?_)
          clear hK K
          refine AnyT.ready (rs := [11]) (by kernel_rfl) (by simp) ?_
          refine AllT.cons rfl (fun K hK => ?_) AllT.nil
          go_simp
          refine hK.out _ _ (Or.inr (hS.out)) (fun _ => ?_)
          clear hK K
          have c3 := hS.out.1.cell 3
          have f3 := hS.out.1.frozen 3
          simp [rgC] at c3
          refine AnyT.ready (rs := [12]) (by kernel_rfl) (by simp) ?_
          refine AllT.cons rfl (fun K hK => ?_) AllT.nil
          go_simp
          refine hK.out _ _ (Or.inl rfl) (fun _ => ?_)
          clear hK K
          refine AnyT.done (by kernel_rfl) ?_ _
          go_simp
          go_wp2_with fail
          go_meet
          exact Lib.hid (tk_fin HT9.out hS.out.1 HO9.out HN9.out H1.out.lo)
        refine AllT.cons rfl (fun K hK => ?_) AllT.nil
        go_simp
        obtain ⟨q8, x2, hgE, hwE, hbE, hkE⟩ := alloced x1 #[.int .i64 m.kind, .int .i64 m.frm, .int .i64 m.dst, .int .i64 m.view, .int .i64 m.inst, .int .i64 m.len, .bool m.has, .int .i64 m.mem, .int .i64 m.src, .int .i64 m.pos, .int .i64 m.tot, .slice a.Ad m.data.length a.cd, .int .i64 m.hop, .int .i64 m.seq, .slice a.Ah m.hav.length a.ch, .slice a.An m.nee.length a.cn, .int .i64 m.idx, .int .i64 m.ent.s, .int .i64 m.ent.q, .int .i64 m.ent.c.kind, .int .i64 m.ent.c.who, .slice a.c.Ak m.ent.c.key.length a.c.ck, .slice a.c.Av m.ent.c.val.length a.c.cv, .slice a.c.Ao m.ent.c.old.length a.c.co] 31
        rw [hgE, hwE]
        have HK8 : Hid (Blk x2 q8 31 (msgC a m) ∧ w2.heap.size ≤ q8) := Lib.hid ⟨hkE, by rw [← hgE]; exact HSZ.out⟩
        have hS := Lib.hid (And.intro (hS.out.1.below hbE) (hS.out.2.below hbE))
        have HT := Lib.hid (HT.out.below hbE)
        have HSZ := Lib.hid (Nat.le_trans HSZ.out hbE.size)
        have HE1 := Lib.hid (And.intro (HE1.out.1.below hbE) (And.intro (HE1.out.2.1.below hbE) HE1.out.2.2))
        clear hgE hwE hbE hkE
        refine hK.out _ _ (Or.inr hS.out) (fun _ => ?_)
        clear hK K
        refine AnyT.ready (rs := [6]) (by kernel_rfl) (by simp) ?_
        refine AllT.cons rfl (fun K hK => ?_) AllT.nil
        rw [if_pos (by kernel_rfl)]
        refine wp_append_G (W := W) (w := x2) (.tmp 44) (.tmp 48) rfl (A := some ⟨q1, 0, none⟩) (n := 0) (c := 0) (by kernel_rfl) HE1.out.1 (B := x2.heap.size) (A' := A) (m := k) (c' := c) (ws := es.flatten) (by kernel_rfl) (rdV_own HT.out.own H1.out.len) (flat_one H1.out.ms) (Nat.zero_add k) (by omega) HT.out.bel ?_
        intro A6 c6 x3 hown hbel hgr hob
        rw [ownBlock0] at hgr hob
        have HO6 : Hid (OwnV W x3 A6 k c6 es ∧ (∀ q o, A6 = some ⟨q, o, none⟩ → w2.heap.size ≤ q)) := Lib.hid ⟨by simpa [OwnV] using hown, new6 hown hob HE1.out.2.2 HSZ.out⟩
        have hS := Lib.hid (And.intro (hS.out.1.grown hgr (by intro e; injection e with e; have := HLT.out.1; have := HE1.out.2.2; omega)) (hS.out.2.grown hgr (by intro e; injection e with e; have := HLT.out.2; have := HE1.out.2.2; omega)))
        have HT := Lib.hid (tk_grown HT.out hgr HE1.out.2.2 HB2.out.size H1.out.lt hbel)
        have HSZ := Lib.hid (Nat.le_trans HSZ.out hgr.size)
        have HK8 := Lib.hid (And.intro (HK8.out.1.grown hgr (by intro e; injection e with e; exact blk_apart24 HE1.out.2.1 HK8.out.1 (by show 0 < 24; decide) e)) HK8.out.2)
        clear hown hbel hgr hob HE1
        refine hK.out _ _ (Or.inr hS.out) (fun _ => ?_)
        clear hK K
        refine AnyT.ready (rs := [9]) (by kernel_rfl) (by simp) ?_
        refine AllT.cons rfl (fun K hK => ?_) AllT.nil
        rw [if_pos (by kernel_rfl)]
        refine wp_append_G (W := W) (w := x3) (.tmp 49) (.tmp 51) rfl (A := A6) (n := k) (c := c6) (by kernel_rfl) HO6.out.1 (B := x3.heap.size) (A' := some ⟨q8, 0, none⟩) (m := 1) (c' := 1) (ws := (msgC a m).toList) (by kernel_rfl) (rd_one24 HK8.out.1 rfl rfl) (msg_ms HLO.out).one rfl (by omega) HT.out.bel ?_
        intro A9 c9 y9 hown hbel hgr hob
        have HO9 := Lib.hid (own9 hown)
        have hS := Lib.hid (And.intro (hS.out.1.grown hgr (own_notT HO6.out.1 hS.out.1 (by decide))) (hS.out.2.grown hgr (not_new HO6.out.1 HO6.out.2 HLT.out.2)))
        have HT9 := Lib.hid (tk_grown9 HT.out hgr HO6.out.1 HO6.out.2 HB2.out.size hbel)
        have HN9 := Lib.hid (new9 HO6.out.1 HO6.out.2 hown hob HSZ.out HB2.out.size)
        clear hown hbel hgr hob HT HK8 HO6 HSZ
        refine hK.out _ _ (Or.inr hS.out) (fun _ => ?_)
        clear hK K
        refine AnyT.ready (rs := [10]) (by kernel_rfl) (by simp) ?_
        refine AllT.cons rfl (fun K hK => ?_) AllT.nil
        go_simp
        refine hK.out _ _ (Or.inr (hS.out)) (fun _ => ?_)
        clear hK K
        refine AnyT.ready (rs := [11]) (by kernel_rfl) (by simp) ?_
        refine AllT.cons rfl (fun K hK => ?_) AllT.nil
        go_simp
        refine hK.out _ _ (Or.inr (hS.out)) (fun _ => ?_)
        clear hK K
        have c3 := hS.out.1.cell 3
        have f3 := hS.out.1.frozen 3
        simp [rgC] at c3
        refine AnyT.ready (rs := [12]) (by kernel_rfl) (by simp) ?_
        refine AllT.cons rfl (fun K hK => ?_) AllT.nil
        go_simp
        refine hK.out _ _ (Or.inl rfl) (fun _ => ?_)
        clear hK K
        refine AnyT.done (by kernel_rfl) ?_ _
        go_simp
        go_wp2_with fail
        go_meet
        exact Lib.hid (tk_fin HT9.out hS.out.1 HO9.out HN9.out H1.out.lo)
      refine AllT.cons rfl (fun K hK => ?_) AllT.nil
      go_simp
      obtain ⟨q8, x1, hgE, hwE, hbE, hkE⟩ := alloced x0 #[.int .i64 m.kind, .int .i64 m.frm, .int .i64 m.dst, .int .i64 m.view, .int .i64 m.inst, .int .i64 m.len, .bool m.has, .int .i64 m.mem, .int .i64 m.src, .int .i64 m.pos, .int .i64 m.tot, .slice a.Ad m.data.length a.cd, .int .i64 m.hop, .int .i64 m.seq, .slice a.Ah m.hav.length a.ch, .slice a.An m.nee.length a.cn, .int .i64 m.idx, .int .i64 m.ent.s, .int .i64 m.ent.q, .int .i64 m.ent.c.kind, .int .i64 m.ent.c.who, .slice a.c.Ak m.ent.c.key.length a.c.ck, .slice a.c.Av m.ent.c.val.length a.c.cv, .slice a.c.Ao m.ent.c.old.length a.c.co] 31
      rw [hgE, hwE]
      have HK8 : Hid (Blk x1 q8 31 (msgC a m) ∧ w2.heap.size ≤ q8) := Lib.hid ⟨hkE, by rw [← hgE]; exact HSZ.out⟩
      have hS := Lib.hid (And.intro (hS.out.1.below hbE) (hS.out.2.below hbE))
      have HT := Lib.hid (HT.out.below hbE)
      have HSZ := Lib.hid (Nat.le_trans HSZ.out hbE.size)
      clear hgE hwE hbE hkE
      refine hK.out _ _ (Or.inr hS.out) (fun _ => ?_)
      clear hK K
      refine AnyT.ready (rs := [1]) (by kernel_rfl) (by simp) ?_
      refine AllT.cons rfl (fun K hK => ?_) AllT.nil
      go_simp
      obtain ⟨q1, x2, hgE, hwE, hbE, hkE⟩ := alloced x1 #[] 31
      have HE1 : Hid (OwnV W x2 (some ⟨q1, 0, none⟩) 0 0 [] ∧ Blk x2 q1 31 #[] ∧ w2.heap.size ≤ q1) := Lib.hid ⟨by rw [← hgE, ← hwE]; exact own_empty24 HT.out.bel, hkE, by rw [← hgE]; exact HSZ.out⟩
      rw [hgE, hwE]
      have hS := Lib.hid (And.intro (hS.out.1.below hbE) (hS.out.2.below hbE))
      have HT := Lib.hid (HT.out.below hbE)
      have HSZ := Lib.hid (Nat.le_trans HSZ.out hbE.size)
      have HK8 := Lib.hid (And.intro (HK8.out.1.below hbE) HK8.out.2)
      clear hgE hwE hbE hkE
      refine hK.out _ _ (Or.inr hS.out) (fun _ => ?_)
      clear hK K
      refine AnyT.ready (rs := [6]) (by kernel_rfl) (by simp) ?_
      refine AllT.cons rfl (fun K hK => ?_) AllT.nil
      rw [if_pos (by kernel_rfl)]
      refine wp_append_G (W := W) (w := x2) (.tmp 44) (.tmp 48) rfl (A := some ⟨q1, 0, none⟩) (n := 0) (c := 0) (by kernel_rfl) HE1.out.1 (B := x2.heap.size) (A' := A) (m := k) (c' := c) (ws := es.flatten) (by kernel_rfl) (rdV_own HT.out.own H1.out.len) (flat_one H1.out.ms) (Nat.zero_add k) (by omega) HT.out.bel ?_
      intro A6 c6 x3 hown hbel hgr hob
      rw [ownBlock0] at hgr hob
      have HO6 : Hid (OwnV W x3 A6 k c6 es ∧ (∀ q o, A6 = some ⟨q, o, none⟩ → w2.heap.size ≤ q)) := Lib.hid ⟨by simpa [OwnV] using hown, new6 hown hob HE1.out.2.2 HSZ.out⟩
      have hS := Lib.hid (And.intro (hS.out.1.grown hgr (by intro e; injection e with e; have := HLT.out.1; have := HE1.out.2.2; omega)) (hS.out.2.grown hgr (by intro e; injection e with e; have := HLT.out.2; have := HE1.out.2.2; omega)))
      have HT := Lib.hid (tk_grown HT.out hgr HE1.out.2.2 HB2.out.size H1.out.lt hbel)
      have HSZ := Lib.hid (Nat.le_trans HSZ.out hgr.size)
      have HK8 := Lib.hid (And.intro (HK8.out.1.grown hgr (by intro e; injection e with e; exact blk_apart24 HE1.out.2.1 HK8.out.1 (by show 0 < 24; decide) e)) HK8.out.2)
      clear hown hbel hgr hob HE1
      refine hK.out _ _ (Or.inr hS.out) (fun _ => ?_)
      clear hK K
      refine AnyT.ready (rs := [9]) (by kernel_rfl) (by simp) ?_
      refine AllT.cons rfl (fun K hK => ?_) AllT.nil
      rw [if_pos (by kernel_rfl)]
      refine wp_append_G (W := W) (w := x3) (.tmp 49) (.tmp 51) rfl (A := A6) (n := k) (c := c6) (by kernel_rfl) HO6.out.1 (B := x3.heap.size) (A' := some ⟨q8, 0, none⟩) (m := 1) (c' := 1) (ws := (msgC a m).toList) (by kernel_rfl) (rd_one24 HK8.out.1 rfl rfl) (msg_ms HLO.out).one rfl (by omega) HT.out.bel ?_
      intro A9 c9 y9 hown hbel hgr hob
      have HO9 := Lib.hid (own9 hown)
      have hS := Lib.hid (And.intro (hS.out.1.grown hgr (own_notT HO6.out.1 hS.out.1 (by decide))) (hS.out.2.grown hgr (not_new HO6.out.1 HO6.out.2 HLT.out.2)))
      have HT9 := Lib.hid (tk_grown9 HT.out hgr HO6.out.1 HO6.out.2 HB2.out.size hbel)
      have HN9 := Lib.hid (new9 HO6.out.1 HO6.out.2 hown hob HSZ.out HB2.out.size)
      clear hown hbel hgr hob HT HK8 HO6 HSZ
      refine hK.out _ _ (Or.inr hS.out) (fun _ => ?_)
      clear hK K
      refine AnyT.ready (rs := [10]) (by kernel_rfl) (by simp) ?_
      refine AllT.cons rfl (fun K hK => ?_) AllT.nil
      go_simp
      refine hK.out _ _ (Or.inr (hS.out)) (fun _ => ?_)
      clear hK K
      refine AnyT.ready (rs := [11]) (by kernel_rfl) (by simp) ?_
      refine AllT.cons rfl (fun K hK => ?_) AllT.nil
      go_simp
      refine hK.out _ _ (Or.inr (hS.out)) (fun _ => ?_)
      clear hK K
      have c3 := hS.out.1.cell 3
      have f3 := hS.out.1.frozen 3
      simp [rgC] at c3
      refine AnyT.ready (rs := [12]) (by kernel_rfl) (by simp) ?_
      refine AllT.cons rfl (fun K hK => ?_) AllT.nil
      go_simp
      refine hK.out _ _ (Or.inl rfl) (fun _ => ?_)
      clear hK K
      refine AnyT.done (by kernel_rfl) ?_ _
      go_simp
      go_wp2_with fail
      go_meet
      exact Lib.hid (tk_fin HT9.out hS.out.1 HO9.out HN9.out H1.out.lo)
    case rest =>
      obtain ⟨A9, c9, q1, q2, q3, q4, q5⟩ := hcut.out
      go_wp2_with fail
      go_ret
      have hm := HR.out
      obtain ⟨e1, e2, e3, e4, e5⟩ := HN.out
      refine ⟨rfl, gaS b A9, ⟨A9, k + 1, c9, es ++ [(msgC a m).toList], m0, m1, m3, m5, m7, m8, ?_, rfl⟩, q1.mono (fun q hq => .inl hq), ?_⟩
      · rw [← H2.out]
        unfold Gm.take
        rw [if_pos hm]
        refine ⟨?_, ⟨H1.out.com.e0, H1.out.com.e1, H1.out.com.e3, H1.out.com.e5, H1.out.com.e7, H1.out.com.e8⟩, q4, by rw [List.length_append, H1.out.len]; rfl, fun cs hc => ?_, ?_, H1.out.ok.add hm, H1.out.lo, q2⟩
        · show Blk _ b 60 (rgC g.n g.id g.v A9 (k + 1) c9 m0 m1 m3 m5 m7 m8 g.com.isSome g.ready)
          rw [e1, e2, e3, e4, e5]; exact q3
        · rcases List.mem_append.1 hc with hc | hc
          · exact H1.out.ms cs hc
          · obtain rfl := List.mem_singleton.1 hc; exact msg_ms HLO.out
        · show (es ++ [(msgC a m).toList]).map svOf = g.l ++ [svM m]
          rw [List.map_append, HE.out]; rfl
      · rintro q (rfl | ⟨o, hq⟩)
        · exact .inl (.inl rfl)
        · exact .inr (q5 o q hq)
end Go.Proofs.Ytneehnoolhadbaa

