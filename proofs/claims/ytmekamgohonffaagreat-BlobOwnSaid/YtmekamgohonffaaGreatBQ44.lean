/- MachObj MachMc -/
import Derived.Test.YtmekamgohonffaaGreatBQ06
import Derived.Test.YtmekamgohonffaaGreatBQ09
import Derived.Test.YtmekamgohonffaaGreatBQ13
import Derived.Test.YtmekamgohonffaaGreatBQ16
import Derived.Test.YtmekamgohonffaaGreatBQ20
import Derived.Test.YtmekamgohonffaaGreatBQ26
import Derived.Test.YtmekamgohonffaaGreatBQ30
import Derived.Test.YtmekamgohonffaaGreatBQ35
namespace Go.Proofs.YtmekamgohonffaaGreat
open Go.RowKit
set_option linter.unusedVariables false
/-- a reader, over what turns nothing that was there when the call began -/
theorem RdSt.belowW {w wx wy : World} {B b : Nat} {s : Pk.St} (h : RdSt w wx B b s) (hB : Below w.heap.size wx wy) (hb : b < w.heap.size) : RdSt w wy B b s := by
  refine ⟨?_, only_below h.only hB (Nat.le_refl _)⟩
  obtain ⟨A, n, c, h1, h2, h3, h4, h5, h6⟩ := h.r
  exact ⟨A, n, c, (hB.block b hb).trans h1, h2, h3, h4, h5, fun l hl => ⟨(h6 l hl).1.keep (fun p hp => hB.cell (by omega)) (Nat.le_refl _), (h6 l hl).2⟩⟩
theorem iv_snocO (l : List Int) (z : Int) : iv (l ++ [z]) = iv l ++ [.int .i64 z] := by simp [iv]
/-- objects under way: the variable, its rows, the reader -/
structure ObSt (w wx : World) (B b g : Nat) (a : OA) (o : Ob) (s : Pk.St) : Prop where
  res : Blk wx w.heap.size 28 #[.slice none 0 0, .slice none 0 0, .slice none 0 0, .slice none 0 0]
  blk : Blk wx g 28 (objC a o)
  own : OwnO w wx a o
  rd : RdSt w wx B b s
section
variable {w wx wy : World} {B b g : Nat} {a : OA} {o : Ob} {s s' : Pk.St}
theorem ObSt.call (h : ObSt w wx B b g a o s) (hb : b < w.heap.size) (hg : b ≠ g) (hr : RefAt wy B b s') (ho : Only b wx wy) : ObSt w wy B b g a o s' :=
  ⟨h.res.grown ho (by intro e; injection e with e; omega), h.blk.grown ho (by intro e; injection e with e; omega), h.own.old ho (Old.some hb), h.rd.call hr ho⟩
theorem ObSt.below (h : ObSt w wx B b g a o s) (hb : b < w.heap.size) (hB : Below wx.heap.size wx wy) : ObSt w wy B b g a o s :=
  ⟨h.res.below hB, h.blk.below hB, h.own.below hB, h.rd.belowW (hB.mono h.rd.size) hb⟩
/-- a field is written -/
theorem ObSt.put {a' : OA} {o' : Ob} {i : Nat} {u : Value} (hres : Blk wx w.heap.size 28 #[.slice none 0 0, .slice none 0 0, .slice none 0 0, .slice none 0 0]) (hblk : Blk wx g 28 (objC a o)) (hown : OwnO w wx a' o') (hrd : RdSt w wx B b s) (hg : w.heap.size < g) (hb : b < w.heap.size) (hc : (objC a o).setIfInBounds i u = objC a' o') : ObSt w (wx.setCell ⟨g, i, none⟩ u) B b g a' o' s :=
  ⟨hres.set_other (by omega), by rw [← hc]; exact hblk.set_ i u, hown.set_t hblk (by decide) (by decide) (by decide) (by decide), hrd.set hb (by omega)⟩
end
set_option maxHeartbeats 4000000 in
set_option maxRecDepth 100000 in
theorem refObjects_any (w : World) (B b : Nat) (s : Pk.St) (h : RefAt w B b s) (hbs : BytesSt s) :
    Calls Tryz.prog 96 #[.pointer (some ⟨b, 0, none⟩)] w fun en w' => ∃ a, en = .returned (.tuple #[objV a (getO s).1, .bool (decide (getO s).1.lk.Nodup && okP (getO s).1.mp)]) ∧ OwnO w w' a (getO s).1 ∧ RefAt w' B b (getO s).2 ∧ Only b w w' := by
  have hbl := h.lt
  have HBL := Lib.hid hbl
  have h0 : RdSt w w B b s := ⟨h, only_refl b w⟩
  have HR0 := Lib.hid (h0.below ((Below.refl w.heap.size w).alloc (Nat.le_refl _) (.cells #[.slice none 0 0, .slice none 0 0, .slice none 0 0, .slice none 0 0] 28)))
  have HK2 := Lib.hid (Blk.new w 28 #[.slice none 0 0, .slice none 0 0, .slice none 0 0, .slice none 0 0])
  obtain ⟨R, hR⟩ : ∃ R, getO s = R := ⟨_, rfl⟩
  rw [hR]
  have HRR := Lib.hid hR
  clear h h0 hR
  have hne : w.heap.size ≠ b := by omega
  obtain ⟨reg, e0⟩ : ∃ x, Pk.bytV s 16 = x := ⟨_, rfl⟩
  obtain ⟨s1, e1⟩ : ∃ x, Pk.bytS s 16 = x := ⟨_, rfl⟩
  obtain ⟨nq, e2⟩ : ∃ x, Pk.numV s1 8 = x := ⟨_, rfl⟩
  obtain ⟨s2, e3⟩ : ∃ x, Pk.numS s1 8 = x := ⟨_, rfl⟩
  have C0 := Lib.hid (fun w h => refrbytes_any w B b s 16 h)
  have C1 := Lib.hid (fun w h => refrnum_any w B b s1 8 h)
  rw [e0, e1] at C0
  rw [e2, e3] at C1
  have HE0 := Lib.hid e0
  have HE1 := Lib.hid e1
  have HE2 := Lib.hid e2
  have HE3 := Lib.hid e3
  have hnq : nq ≤ 8 := by have := numV_le s1 (m := 8) (by omega); omega
  clear e0 e1 e2 e3
  go_enter Tryz.func96, Tryz.ntmps96
  go_upto_region 1 with fail
  generalize w.alloc (.cells #[.slice none 0 0, .slice none 0 0, .slice none 0 0, .slice none 0 0] 28) = wa at HR0 HK2 ⊢
  go_upto_region 2 with (first
    | (go_at_call 39; refine (C0.out _ HR0.out.r).mono ?_; rintro en w1 ⟨A0, m0, c0, rfl, hv, hr, ho⟩; obtain rfl := own_len hv
       have hv := own_of HR0.out.size hv
       have hn1 : w.heap.size < w1.heap.size := (HK2.out.grown ho (by simpa using hne)).lt
       have HST : Hid (ObSt w (w1.alloc (.cells #[.slice A0 reg.length c0, .slice none 0 0, .slice none 0 0, .slice none 0 0] 28)) B b w1.heap.size ⟨A0, c0, none, 0, none, 0, none, 0⟩ ⟨reg, [], [], []⟩ s1) := Lib.hid ⟨(HK2.out.grown ho (by simpa using hne)).alloc _, Blk.new _ _ _, ⟨own_below hv ((Below.refl _ _).alloc (Nat.le_refl _) _), OwnQ.nil _ _, ownI_nil _ _, OwnP.nil _ _⟩, (HR0.out.call hr ho).below ((Below.refl _ _).alloc (Nat.le_refl _) _)⟩
       clear hv hr ho C0)
    | fail)
  generalize w1.alloc (.cells #[.slice A0 reg.length c0, .slice none 0 0, .slice none 0 0, .slice none 0 0] 28) = wb at HST ⊢
  obtain ⟨g, hg⟩ : ∃ g, w1.heap.size = g := ⟨_, rfl⟩
  rw [hg] at HST hn1 ⊢
  have hgb : b ≠ g := by omega
  go_wp2_with (first
    | (go_at_call 37; refine (C1.out _ HST.out.rd.r).mono ?_; rintro en w2 ⟨rfl, hr, ho, hz⟩; have HST := Lib.hid (HST.out.call HBL.out hgb hr ho); clear hr ho hz C1)
    | fail)
  go_loopw [6] (fun s6 wr => ∃ (j : Nat) (A1 : Option Addr) (c1 : Nat) (acc : List (List Nat)) (sj : Pk.St), j + acc.length = nq ∧ s6 = .int .i64 (j : Int) ∧ Hid (ObSt w wr B b g ⟨A0, c0, A1, c1, none, 0, none, 0⟩ ⟨reg, acc, [], []⟩ sj) ∧ Hid (getQ nq s2 = (acc ++ (getQ j sj).1, (getQ j sj).2))) (fun s6 _ => (intOf s6).toNat)
  case atStart => exact ⟨nq, none, 0, [], s2, by simp, rfl, HST, Lib.hid (by simp)⟩
  case round =>
    clear HST
    obtain ⟨j, A1, c1, acc, sj, hj, rfl, HST, HQ⟩ := hrel
    cases j with
    | succ j =>
      have hjp : (0 : Int) < ((j + 1 : Nat) : Int) := by omega
      have hjw : IntKind.i64.wrap (((j + 1 : Nat) : Int) - 1) = (j : Int) := by rw [show ((j + 1 : Nat) : Int) - 1 = (j : Int) by omega]; exact IntWalk.i64_in _ (by omega)
      obtain ⟨x, ex⟩ : ∃ y, Pk.bytV sj 16 = y := ⟨_, rfl⟩
      obtain ⟨sk, ek⟩ : ∃ y, Pk.bytS sj 16 = y := ⟨_, rfl⟩
      have HQ2 : Hid (getQ nq s2 = ((acc ++ [x]) ++ (getQ j sk).1, (getQ j sk).2)) := Lib.hid (by rw [HQ.out]; simp only [getQ, ex, ek, List.append_assoc, List.singleton_append])
      have CB := Lib.hid (fun w h => refrbytes_any w B b sj 16 h)
      rw [ex, ek] at CB
      clear ex ek HQ
      go_upto_region 6 with fail
      have hb0 := HST.out.blk
      unfold objC at hb0
      simp only at hb0
      have hbd : Below wr.heap.size wr wr.drew := (Below.refl _ _).drew
      have HS0 := Lib.hid (HST.out.below HBL.out hbd)
      refine region_T (n := 7) (S := fun w' => w'.cell? ⟨g, 1, none⟩ = some (.slice A1 acc.length c1)) (by kernel_rfl) ?_
      have hS : Hid (wr.drew.cell? ⟨g, 1, none⟩ = some (.slice A1 acc.length c1)) := Lib.hid ((hb0.below hbd).cell 1)
      clear hbd hb0 HST
      generalize wr.drew = w3 at HS0 hS ⊢
      refine AnyT.take (i := 0) (v := .pointer (some ⟨g, 1, none⟩)) rfl (by kernel_rfl) (by kernel_rfl) (by kernel_rfl) (by kernel_rfl) (fun _ _ _ h => h) (Or.inl ⟨by kernel_rfl, fun w _ => by go_simp⟩) hS.out ?_
      refine AnyT.take (i := 2) (v := .pointer (some ⟨b, 0, none⟩)) rfl (by kernel_rfl) (by kernel_rfl) (by kernel_rfl) (by kernel_rfl) (fun _ _ _ h => h) (Or.inl ⟨by kernel_rfl, fun w _ => by go_simp⟩) hS.out ?_
      refine AnyT.take (i := 1) (v := .slice A1 acc.length c1) rfl (by kernel_rfl) (by kernel_rfl) (by kernel_rfl) (by kernel_rfl) (fun _ _ _ h => h) (Or.inl ⟨by kernel_rfl, fun w h => by have q := h; go_simp⟩) hS.out ?_
      refine AnyT.ready (rs := [3]) (by kernel_rfl) (by simp) ?_
      refine AllT.cons rfl (fun K hK => ?_) AllT.nil
      go_simp
      refine (CB.out _ HS0.out.rd.r).mono ?_
      rintro en w4 ⟨A5, m5, c5, rfl, hv, hr, ho⟩
      obtain rfl := own_len hv
      have hv := own_of HS0.out.rd.size hv
      have HS1 := Lib.hid (HS0.out.call HBL.out hgb hr ho)
      have HV1 := Lib.hid hv
      have hb1 := HS1.out.blk
      unfold objC at hb1
      simp only at hb1
      have hS : Hid (w4.cell? ⟨g, 1, none⟩ = some (.slice A1 acc.length c1)) := Lib.hid (hb1.cell 1)
      clear hv hr ho hb1 HS0 CB
      go_simp
      refine hK.out _ _ (Or.inr (hS.out)) (fun _ => ?_)
      clear hK K
      refine AnyT.ready (rs := [4]) (by kernel_rfl) (by simp) ?_
      refine AllT.cons rfl (fun K hK => ?_) AllT.nil
      go_simp
      have bb : Below w4.heap.size w4 (w4.alloc (.cells #[.slice A5 x.length c5] 23)) := (Below.refl _ _).alloc (Nat.le_refl _) _
      have HS2 := Lib.hid (HS1.out.below HBL.out bb)
      have HV2 := Lib.hid (own_below HV1.out bb)
      have HSRC := Lib.hid (Rd.oneAt w4 (.slice A5 x.length c5) 23 (g := w4.heap.size) rfl)
      have hb2 := HS2.out.blk
      unfold objC at hb2
      simp only at hb2
      have hS : Hid ((w4.alloc (.cells #[.slice A5 x.length c5] 23)).cell? ⟨g, 1, none⟩ = some (.slice A1 acc.length c1)) := Lib.hid (hb2.cell 1)
      obtain ⟨vs, hq1, hq2⟩ := HS2.out.own.o1
      clear bb hb2
      go_simp
      refine hK.out _ _ (Or.inr (hS.out)) (fun _ => ?_)
      clear hK K
      generalize w4.alloc (.cells #[.slice A5 x.length c5] 23) = w5 at HS2 HV2 HSRC hS hq1 hq2 ⊢
      have hq1' : w5.ownsRow w.heap.size 23 1 (.slice A1 acc.length c1) acc.length vs := hq1
      have HQ1 := Lib.hid hq1'
      have HQ2b := Lib.hid hq2
      clear hq1 hq2
      refine AnyT.ready (rs := [5]) (by kernel_rfl) (by simp) ?_
      refine AllT.cons rfl (fun K hK => ?_) AllT.nil
      refine step_append_at (c' := 1) w.heap.size HS2.out.rd.size cellQ (.tmp 21) (.tmp 24) rfl rfl (by kernel_rfl) HQ1.out (by kernel_rfl) HSRC.out (by intro u hu; simp at hu; subst hu; rfl) (by omega) (by omega) ?_
      intro A6 c6 w6 ho6 hg6
      have hbw : Below w.heap.size w5 w6 := (Below.refl _ _).grown hg6 HS2.out.rd.size (fun k hk => (HQ1.out.lt k hk).1)
      have hown : OwnO w w6 ⟨A0, c0, A6, c6, none, 0, none, 0⟩ ⟨reg, acc ++ [x], [], []⟩ := ⟨own_grown_t HS2.out.own.o0 HQ1.out (by decide) hg6, ⟨_, by rw [List.length_append]; exact ho6, (HQ2b.out.snoc HV2.out).grown HQ1.out hg6⟩, ownI_nil _ _, OwnP.nil _ _⟩
      have hres6 := HS2.out.res.apart_own HQ1.out (by decide) hg6
      have hblk6 := HS2.out.blk.apart_own HQ1.out (by decide) hg6
      have HFIN := Lib.hid (ObSt.put (i := 1) (u := .slice A6 (acc.length + 1) c6) (a' := ⟨A0, c0, A6, c6, none, 0, none, 0⟩) (o' := ⟨reg, acc ++ [x], [], []⟩) hres6 hblk6 hown (HS2.out.rd.belowW hbw HBL.out) hn1 HBL.out (by simp [objC]))
      have hb6 := hblk6
      unfold objC at hb6
      simp only at hb6
      obtain ⟨z0, z1, z2, z3, f0, f1, f2, f3⟩ := four hb6
      have hS : Hid (w6.cell? ⟨g, 1, none⟩ = some (.slice A1 acc.length c1)) := Lib.hid z1
      clear hbw hown hres6 hblk6 hb6 ho6 hg6
      refine hK.out _ _ (Or.inr (hS.out)) (fun _ => ?_)
      clear hK K
      refine AnyT.take (i := 6) (v := .pointer (some ⟨g, 1, none⟩)) rfl (by kernel_rfl) (by kernel_rfl) (by kernel_rfl) (by kernel_rfl) (fun _ _ _ h => h) (Or.inl ⟨by kernel_rfl, fun w _ => by go_simp⟩) hS.out ?_
      refine AnyT.ready (rs := [7]) (by kernel_rfl) (by simp) ?_
      refine AllT.cons rfl (fun K hK => ?_) AllT.nil
      go_simp
      refine hK.out _ _ (Or.inl rfl) (fun _ => ?_)
      clear hK K
      refine AnyT.done (by kernel_rfl) ?_ _
      go_wp2_with fail
      go_roundw
      case rel => exact ⟨j, A6, c6, acc ++ [x], sk, by simp; omega, by go_num, HFIN, HQ2⟩
      case measure => simp only [intOf]; omega
    | zero =>
      have hq8 : acc.length ≤ 8 := by omega
      have HQF : Hid (stQ s1 = (acc, sj)) := Lib.hid (by unfold stQ; rw [HE2.out, HE3.out, HQ.out]; simp [getQ])
      obtain ⟨ni, d2⟩ : ∃ x, Pk.numV sj 5 = x := ⟨_, rfl⟩
      obtain ⟨t2, d3⟩ : ∃ x, Pk.numS sj 5 = x := ⟨_, rfl⟩
      have D1 := Lib.hid (fun w h => refrnum_any w B b sj 5 h)
      rw [d2, d3] at D1
      have HD2 := Lib.hid d2
      have HD3 := Lib.hid d3
      have hni : ni ≤ 5 := by have := numV_le sj (m := 5) (by omega); omega
      clear d2 d3 HQ hj
      go_wp2_with (first
        | (go_at_call 37; refine (D1.out _ HST.out.rd.r).mono ?_; rintro en w2 ⟨rfl, hr, ho, hz⟩; have HST := Lib.hid (HST.out.call HBL.out hgb hr ho); clear hr ho hz D1)
        | fail)
      go_loopw [5, 7, 8] (fun s5 s7 s8 wr => ∃ (j : Nat) (A2 : Option Addr) (c2 : Nat) (lk : List Int) (sk : Pk.St), j + lk.length = ni ∧ s7 = .int .i64 (j : Int) ∧ s5 = .bool (decide lk.Nodup) ∧ Hid (ObSt w wr B b g ⟨A0, c0, A1, c1, A2, c2, none, 0⟩ ⟨reg, acc, lk, []⟩ sk) ∧ Hid (getI ni t2 = (lk ++ (getI j sk).1, (getI j sk).2))) (fun _ s7 _ _ => (intOf s7).toNat)
      case atStart => exact ⟨ni, none, 0, [], t2, by simp, rfl, by simp, HST, Lib.hid (by simp)⟩
      case round =>
        clear HST
        obtain ⟨j, A2, c2, lk, sk, hj, rfl, rfl, HST, HQ⟩ := hrel
        cases j with
        | succ j =>
          have hjp : (0 : Int) < ((j + 1 : Nat) : Int) := by omega
          have hjw : IntKind.i64.wrap (((j + 1 : Nat) : Int) - 1) = (j : Int) := by rw [show ((j + 1 : Nat) : Int) - 1 = (j : Int) by omega]; exact IntWalk.i64_in _ (by omega)
          obtain ⟨z, ez⟩ : ∃ y, Pk.numV sk 999 = y := ⟨_, rfl⟩
          obtain ⟨sl, el⟩ : ∃ y, Pk.numS sk 999 = y := ⟨_, rfl⟩
          have HQ2 : Hid (getI ni t2 = ((lk ++ [(z : Int)]) ++ (getI j sl).1, (getI j sl).2)) := Lib.hid (by rw [HQ.out]; simp only [getI, ez, el, List.append_assoc, List.singleton_append])
          have CB := Lib.hid (fun w h => refrnum_any w B b sk 999 h)
          rw [ez, el] at CB
          clear ez el HQ
          go_upto_region 11 with (first
            | (go_at_call 37; refine (CB.out _ HST.out.rd.r).mono ?_; rintro en w3 ⟨rfl, hr, ho, hz⟩; have HS1 := Lib.hid (HST.out.call HBL.out hgb hr ho); clear hr ho hz CB HST)
            | fail)
          have HND : Hid (decide (lk ++ [(z : Int)]).Nodup = (decide lk.Nodup && decide ((z : Int) ∉ lk))) := Lib.hid (by
            rw [Bool.eq_iff_iff, Bool.and_eq_true, decide_eq_true_iff, decide_eq_true_iff, decide_eq_true_iff, List.nodup_append]
            constructor
            · rintro ⟨h1, _, h3⟩
              exact ⟨h1, fun h => h3 _ h _ (by simp) rfl⟩
            · rintro ⟨h1, h2⟩
              exact ⟨h1, by simp, fun a ha b hb e => by simp at hb; subst hb; subst e; exact h2 ha⟩)
          have hb1 := HS1.out.blk
          unfold objC at hb1
          simp only at hb1
          obtain ⟨x0, x1, x2, x3, f0, f1, f2, f3⟩ := four hb1
          have HO2 := Lib.hid HS1.out.own.o2
          have CP := Lib.hid (place_any w3 (c := c2) (z : Int) (Rd.own_ HS1.out.own.o2) (show lk.length ≤ maxLen by unfold maxLen; omega))
          have HB1 := Lib.hid hb1
          clear hb1
          obtain ⟨okb, hokb⟩ : ∃ x, decide lk.Nodup = x := ⟨_, rfl⟩
          obtain ⟨okc, hokc⟩ : ∃ x, decide ((z : Int) ∉ lk) = x := ⟨_, rfl⟩
          rw [hokb, hokc] at HND
          rw [hokb]
          have HOC := Lib.hid hokc
          clear hokb hokc
          cases okb with
          | true =>
            by_cases hm : (z : Int) ∈ lk
            · have hoc : okc = false := by rw [← HOC.out]; exact decide_eq_false (by simpa using hm)
              subst hoc
              obtain ⟨kk, ek, hk2, _⟩ := place_lt hm
              have hng : ¬ placeI lk (z : Int) < 0 := by omega
              clear hm ek hk2
              go_wp2_with (first
                | (go_at_call 120; refine CP.out.mono ?_; rintro en w4 ⟨rfl, rfl⟩)
                | (at_builtin
                   have hsrc := Rd.oneAt w3 (.int .i64 (z : Int)) 3 (g := w3.heap.size) rfl
                   have bb : Below w3.heap.size w3 (w3.alloc (.cells #[.int .i64 (z : Int)] 3)) := (Below.refl _ _).alloc (Nat.le_refl _) _
                   have hrow : (w3.alloc (.cells #[.int .i64 (z : Int)] 3)).ownsRow w.heap.size 3 1 (.slice A2 lk.length c2) lk.length (iv lk) := ownsRow_below HO2.out bb
                   have hst := HS1.out.below HBL.out bb
                   have hss := hst.rd.size
                   refine wpList_append_at (w := w3.alloc (.cells #[.int .i64 (z : Int)] 3)) (c' := 1) w.heap.size hss cellI (.tmp 44) (.tmp 46) rfl (by rfl) rfl hrow rfl hsrc (by intro u hu; simp at hu; subst hu; rfl) (by omega) (by omega) ?_
                   intro A6 c6 w6 ho6 hg6
                   have hbw : Below w.heap.size (w3.alloc (.cells #[.int .i64 (z : Int)] 3)) w6 := (Below.refl _ _).grown hg6 hss (fun k hk => (hrow.lt k hk).1)
                   have ho6' : OwnI w w6 A6 (lk.length + 1) c6 (lk ++ [(z : Int)]) := by unfold OwnI; rw [iv_snocO]; exact ho6
                   have hown : OwnO w w6 ⟨A0, c0, A1, c1, A6, c6, none, 0⟩ ⟨reg, acc, lk ++ [(z : Int)], []⟩ := ⟨own_grown_t hst.own.o0 hrow (by decide) hg6, hst.own.o1.grownI hrow hg6, by rw [List.length_append]; exact ho6', OwnP.nil _ _⟩
                   have hres6 := hst.res.apart_own hrow (by decide) hg6
                   have hblk6 := hst.blk.apart_own hrow (by decide) hg6
                   have HFIN := Lib.hid (ObSt.put (i := 2) (u := .slice A6 (lk.length + 1) c6) (a' := ⟨A0, c0, A1, c1, A6, c6, none, 0⟩) (o' := ⟨reg, acc, lk ++ [(z : Int)], []⟩) hres6 hblk6 hown (hst.rd.belowW hbw HBL.out) hn1 HBL.out (by simp [objC]))
                   have hb6 := hblk6
                   unfold objC at hb6
                   simp only at hb6
                   clear x0 x1 x2 x3 f0 f1 f2 f3
                   obtain ⟨x0, x1, x2, x3, f0, f1, f2, f3⟩ := four hb6
                   clear hsrc bb hrow hst hss hbw ho6' hown hres6 hblk6 hb6 ho6 hg6)
                | fail)
              go_roundw
              case rel => exact ⟨j, A6, c6, lk ++ [(z : Int)], sl, by simp; omega, by go_num, by rw [HND.out]; first | rfl | simp [hng], HFIN, HQ2⟩
              case measure => simp only [intOf]; omega
            · have hoc : okc = true := by rw [← HOC.out]; exact decide_eq_true hm
              subst hoc
              have hng : placeI lk (z : Int) < 0 := by unfold placeI; rw [if_neg hm]; omega
              clear hm
              go_wp2_with (first
                | (go_at_call 120; refine CP.out.mono ?_; rintro en w4 ⟨rfl, rfl⟩)
                | (at_builtin
                   have hsrc := Rd.oneAt w3 (.int .i64 (z : Int)) 3 (g := w3.heap.size) rfl
                   have bb : Below w3.heap.size w3 (w3.alloc (.cells #[.int .i64 (z : Int)] 3)) := (Below.refl _ _).alloc (Nat.le_refl _) _
                   have hrow : (w3.alloc (.cells #[.int .i64 (z : Int)] 3)).ownsRow w.heap.size 3 1 (.slice A2 lk.length c2) lk.length (iv lk) := ownsRow_below HO2.out bb
                   have hst := HS1.out.below HBL.out bb
                   have hss := hst.rd.size
                   refine wpList_append_at (w := w3.alloc (.cells #[.int .i64 (z : Int)] 3)) (c' := 1) w.heap.size hss cellI (.tmp 44) (.tmp 46) rfl (by rfl) rfl hrow rfl hsrc (by intro u hu; simp at hu; subst hu; rfl) (by omega) (by omega) ?_
                   intro A6 c6 w6 ho6 hg6
                   have hbw : Below w.heap.size (w3.alloc (.cells #[.int .i64 (z : Int)] 3)) w6 := (Below.refl _ _).grown hg6 hss (fun k hk => (hrow.lt k hk).1)
                   have ho6' : OwnI w w6 A6 (lk.length + 1) c6 (lk ++ [(z : Int)]) := by unfold OwnI; rw [iv_snocO]; exact ho6
                   have hown : OwnO w w6 ⟨A0, c0, A1, c1, A6, c6, none, 0⟩ ⟨reg, acc, lk ++ [(z : Int)], []⟩ := ⟨own_grown_t hst.own.o0 hrow (by decide) hg6, hst.own.o1.grownI hrow hg6, by rw [List.length_append]; exact ho6', OwnP.nil _ _⟩
                   have hres6 := hst.res.apart_own hrow (by decide) hg6
                   have hblk6 := hst.blk.apart_own hrow (by decide) hg6
                   have HFIN := Lib.hid (ObSt.put (i := 2) (u := .slice A6 (lk.length + 1) c6) (a' := ⟨A0, c0, A1, c1, A6, c6, none, 0⟩) (o' := ⟨reg, acc, lk ++ [(z : Int)], []⟩) hres6 hblk6 hown (hst.rd.belowW hbw HBL.out) hn1 HBL.out (by simp [objC]))
                   have hb6 := hblk6
                   unfold objC at hb6
                   simp only at hb6
                   clear x0 x1 x2 x3 f0 f1 f2 f3
                   obtain ⟨x0, x1, x2, x3, f0, f1, f2, f3⟩ := four hb6
                   clear hsrc bb hrow hst hss hbw ho6' hown hres6 hblk6 hb6 ho6 hg6)
                | fail)
              go_roundw
              case rel => exact ⟨j, A6, c6, lk ++ [(z : Int)], sl, by simp; omega, by go_num, by rw [HND.out]; first | rfl | simp [hng], HFIN, HQ2⟩
              case measure => simp only [intOf]; omega
          | false =>
            go_wp2_with (first
              | (at_builtin
                 have hsrc := Rd.oneAt w3 (.int .i64 (z : Int)) 3 (g := w3.heap.size) rfl
                 have bb : Below w3.heap.size w3 (w3.alloc (.cells #[.int .i64 (z : Int)] 3)) := (Below.refl _ _).alloc (Nat.le_refl _) _
                 have hrow : (w3.alloc (.cells #[.int .i64 (z : Int)] 3)).ownsRow w.heap.size 3 1 (.slice A2 lk.length c2) lk.length (iv lk) := ownsRow_below HO2.out bb
                 have hst := HS1.out.below HBL.out bb
                 have hss := hst.rd.size
                 refine wpList_append_at (w := w3.alloc (.cells #[.int .i64 (z : Int)] 3)) (c' := 1) w.heap.size hss cellI (.tmp 44) (.tmp 46) rfl (by rfl) rfl hrow rfl hsrc (by intro u hu; simp at hu; subst hu; rfl) (by omega) (by omega) ?_
                 intro A6 c6 w6 ho6 hg6
                 have hbw : Below w.heap.size (w3.alloc (.cells #[.int .i64 (z : Int)] 3)) w6 := (Below.refl _ _).grown hg6 hss (fun k hk => (hrow.lt k hk).1)
                 have ho6' : OwnI w w6 A6 (lk.length + 1) c6 (lk ++ [(z : Int)]) := by unfold OwnI; rw [iv_snocO]; exact ho6
                 have hown : OwnO w w6 ⟨A0, c0, A1, c1, A6, c6, none, 0⟩ ⟨reg, acc, lk ++ [(z : Int)], []⟩ := ⟨own_grown_t hst.own.o0 hrow (by decide) hg6, hst.own.o1.grownI hrow hg6, by rw [List.length_append]; exact ho6', OwnP.nil _ _⟩
                 have hres6 := hst.res.apart_own hrow (by decide) hg6
                 have hblk6 := hst.blk.apart_own hrow (by decide) hg6
                 have HFIN := Lib.hid (ObSt.put (i := 2) (u := .slice A6 (lk.length + 1) c6) (a' := ⟨A0, c0, A1, c1, A6, c6, none, 0⟩) (o' := ⟨reg, acc, lk ++ [(z : Int)], []⟩) hres6 hblk6 hown (hst.rd.belowW hbw HBL.out) hn1 HBL.out (by simp [objC]))
                 have hb6 := hblk6
                 unfold objC at hb6
                 simp only at hb6
                 clear x0 x1 x2 x3 f0 f1 f2 f3
                 obtain ⟨x0, x1, x2, x3, f0, f1, f2, f3⟩ := four hb6
                 clear hsrc bb hrow hst hss hbw ho6' hown hres6 hblk6 hb6 ho6 hg6)
              | fail)
            go_roundw
            case rel => exact ⟨j, A6, c6, lk ++ [(z : Int)], sl, by simp; omega, by go_num, by rw [HND.out]; simp, HFIN, HQ2⟩
            case measure => simp only [intOf]; omega
        | zero =>
          have hl5 : lk.length ≤ 5 := by omega
          have HIF : Hid (stI sj = (lk, sk)) := Lib.hid (by unfold stI; rw [HD2.out, HD3.out, HQ.out]; simp [getI])
          obtain ⟨np, d4⟩ : ∃ x, Pk.numV sk 8 = x := ⟨_, rfl⟩
          obtain ⟨t3, d5⟩ : ∃ x, Pk.numS sk 8 = x := ⟨_, rfl⟩
          have D2 := Lib.hid (fun w h => refrnum_any w B b sk 8 h)
          rw [d4, d5] at D2
          have HD4 := Lib.hid d4
          have HD5 := Lib.hid d5
          have hnp : np ≤ 8 := by have := numV_le sk (m := 8) (by omega); omega
          obtain ⟨nd, hnd⟩ : ∃ x, decide lk.Nodup = x := ⟨_, rfl⟩
          have HND := Lib.hid hnd
          rw [hnd]
          clear d4 d5 HQ hj hnd
          go_wp2_with (first
            | (go_at_call 37; refine (D2.out _ HST.out.rd.r).mono ?_; rintro en w2 ⟨rfl, hr, ho, hz⟩; have HST := Lib.hid (HST.out.call HBL.out hgb hr ho); clear hr ho hz D2)
            | fail)
          go_loopw [5, 9, 10] (fun s5 s9 s10 wr => ∃ (j : Nat) (A3 : Option Addr) (c3 : Nat) (ps : List Pr) (sl : Pk.St), j + ps.length = np ∧ s9 = .int .i64 (j : Int) ∧ s5 = .bool (nd && okP ps) ∧ Hid (∀ p ∈ ps, ∀ x ∈ p.1, x < 256) ∧ Hid (BytesSt sl) ∧ Hid (ObSt w wr B b g ⟨A0, c0, A1, c1, A2, c2, A3, c3⟩ ⟨reg, acc, lk, ps⟩ sl) ∧ Hid (getP np t3 = (ps ++ (getP j sl).1, (getP j sl).2))) (fun _ s9 _ _ => (intOf s9).toNat)
          case atStart => exact ⟨np, none, 0, [], t3, by simp, rfl, by simp [okP, chainB], Lib.hid (fun p hp => by cases hp), Lib.hid (by
            have h1 := (bytV_facts hbs (m := 16) (by omega)).2.2
            rw [HE1.out] at h1
            have h2 := (getQ_facts (Pk.numV s1 8) (numS_bytes h1 8)).2.2
            have h3 : BytesSt sj := by have := HQF.out; unfold stQ at this; rw [this] at h2; exact h2
            have h4 := (getI_facts (Pk.numV sj 5) (numS_bytes h3 5)).2.2
            have h5 : BytesSt sk := by have := HIF.out; unfold stI at this; rw [this] at h4; exact h4
            have h6 := numS_bytes h5 8
            rwa [HD5.out] at h6), HST, Lib.hid (by simp)⟩
          case round =>
            clear HST
            obtain ⟨j, A3, c3, ps, sl, hj, rfl, rfl, HBY, HBS, HST, HQ⟩ := hrel
            cases j with
            | succ j =>
              have hjp : (0 : Int) < ((j + 1 : Nat) : Int) := by omega
              have hjw : IntKind.i64.wrap (((j + 1 : Nat) : Int) - 1) = (j : Int) := by rw [show ((j + 1 : Nat) : Int) - 1 = (j : Int) by omega]; exact IntWalk.i64_in _ (by omega)
              obtain ⟨k, ek⟩ : ∃ y, Pk.bytV sl 8 = y := ⟨_, rfl⟩
              obtain ⟨sm, em⟩ : ∃ y, Pk.bytS sl 8 = y := ⟨_, rfl⟩
              obtain ⟨v, ev⟩ : ∃ y, Pk.bytV sm 16 = y := ⟨_, rfl⟩
              obtain ⟨sn, en_⟩ : ∃ y, Pk.bytS sm 16 = y := ⟨_, rfl⟩
              have HQ2 : Hid (getP np t3 = ((ps ++ [(k, v)]) ++ (getP j sn).1, (getP j sn).2)) := Lib.hid (by rw [HQ.out]; simp only [getP, getP1, ek, em, ev, en_, List.append_assoc, List.singleton_append])
              have HKB : Hid ((∀ x ∈ k, x < 256) ∧ BytesSt sn) := Lib.hid (by
                have h1 := bytV_facts HBS.out (m := 8) (by omega)
                rw [ek, em] at h1
                have h2 := bytV_facts h1.2.2 (m := 16) (by omega)
                rw [ev, en_] at h2
                exact ⟨h1.2.1, h2.2.2⟩)
              have CB := Lib.hid (fun w h => refrbytes_any w B b sl 8 h)
              have CC := Lib.hid (fun w h => refrbytes_any w B b sm 16 h)
              rw [ek, em] at CB
              rw [ev, en_] at CC
              clear ek em ev en_ HQ HBS
              go_upto_region 17 with (first
                | (go_at_call 39; refine (CB.out _ HST.out.rd.r).mono ?_; rintro en w3 ⟨A5, m5, c5, rfl, hv, hr, ho⟩; obtain rfl := own_len hv; have hv := own_of HST.out.rd.size hv; have HS1 := Lib.hid (HST.out.call HBL.out hgb hr ho); have HV1 := Lib.hid hv; clear hv hr ho CB HST)
                | (go_at_call 39; refine (CC.out _ HS1.out.rd.r).mono ?_; rintro en w4 ⟨A6, m6, c6, rfl, hv, hr, ho⟩; obtain rfl := own_len hv; have hv := own_of HS1.out.rd.size hv
                   have bb : Below w4.heap.size w4 (w4.alloc (.cells #[.slice A5 k.length c5, .slice A6 v.length c6] 74)) := (Below.refl _ _).alloc (Nat.le_refl _) _
                   have HS2 := Lib.hid ((HS1.out.call HBL.out hgb hr ho).below HBL.out bb)
                   have HV1 := Lib.hid (own_below (own_read HV1.out ho HBL.out) bb)
                   have HV2 := Lib.hid (own_below hv bb)
                   have HKP := Lib.hid (Blk.new w4 74 #[.slice A5 k.length c5, .slice A6 v.length c6])
                   have hgl := HS1.out.blk.lt
                   have hgx := ho.size
                   clear hv hr ho CC bb HS1)
                | fail)
              generalize w4.alloc (.cells #[.slice A5 k.length c5, .slice A6 v.length c6] 74) = w5 at HS2 HV1 HV2 HKP ⊢
              obtain ⟨h4, hh4⟩ : ∃ h4, w4.heap.size = h4 := ⟨_, rfl⟩
              rw [hh4] at HKP hgx ⊢
              have HOKS : Hid (okP (ps ++ [(k, v)]) = (okP ps && (match ps.getLast? with | none => true | some q => Mp.ltB q.1 k))) := Lib.hid (by unfold okP; rw [chainB_snoc]; cases ps.getLast? <;> rfl)
              obtain ⟨f0, hf0⟩ : ∃ x, (nd && okP ps) = x := ⟨_, rfl⟩
              have HF0 := Lib.hid hf0
              rw [hf0]
              clear hf0
              cases f0 with
              | false =>
                have hb2 := HS2.out.blk
                unfold objC at hb2
                simp only at hb2
                have hbd : Below w5.heap.size w5 w5.drew := (Below.refl _ _).drew
                have HS : Hid ((fun w' => Blk w' g 28 #[.slice A0 reg.length c0, .slice A1 acc.length c1, .slice A2 lk.length c2, .slice A3 ps.length c3] ∧ Blk w' h4 74 #[.slice A5 k.length c5, .slice A6 v.length c6]) w5.drew) := Lib.hid ⟨hb2.below hbd, HKP.out.below hbd⟩
                have HS3 := Lib.hid (HS2.out.below HBL.out hbd)
                have HV3 := Lib.hid (own_below HV1.out hbd)
                have HV4 := Lib.hid (own_below HV2.out hbd)
                refine wp_region_held_drew (S := fun w' => Blk w' g 28 #[.slice A0 reg.length c0, .slice A1 acc.length c1, .slice A2 lk.length c2, .slice A3 ps.length c3] ∧ Blk w' h4 74 #[.slice A5 k.length c5, .slice A6 v.length c6]) (by kernel_rfl) HS.out (fun _ => ?_)
                clear hbd hb2
                generalize w5.drew = w6 at HS HS3 HV3 HV4 ⊢
                refine wpAnyH_take (i := 0) (v := .bool false) rfl (by kernel_rfl) (by kernel_rfl) (by kernel_rfl) (fun _ _ _ h => h) (Or.inl ⟨by kernel_rfl, fun w _ => by go_simp⟩) HS.out ?_
                refine wpAnyH_ready (rs := [1]) (by kernel_rfl) (by simp) ?_
                refine AllReadyH.cons rfl (fun K hK => ?_) AllReadyH.nil
                go_simp
                refine hK.out _ _ HS.out (fun _ => ?_)
                clear hK K
                refine wpAnyH_take (i := 2) (v := undef) rfl (by kernel_rfl) (by kernel_rfl) (by kernel_rfl) (fun _ _ _ h => h) (Or.inr ⟨by kernel_rfl, rfl⟩) HS.out ?_
                refine wpAnyH_take (i := 3) (v := undef) rfl (by kernel_rfl) (by kernel_rfl) (by kernel_rfl) (fun _ _ _ h => h) (Or.inr ⟨by kernel_rfl, rfl⟩) HS.out ?_
                refine wpAnyH_take (i := 4) (v := undef) rfl (by kernel_rfl) (by kernel_rfl) (by kernel_rfl) (fun _ _ _ h => h) (Or.inr ⟨by kernel_rfl, rfl⟩) HS.out ?_
                refine wpAnyH_take (i := 5) (v := undef) rfl (by kernel_rfl) (by kernel_rfl) (by kernel_rfl) (fun _ _ _ h => h) (Or.inr ⟨by kernel_rfl, rfl⟩) HS.out ?_
                refine wpAnyH_take (i := 6) (v := undef) rfl (by kernel_rfl) (by kernel_rfl) (by kernel_rfl) (fun _ _ _ h => h) (Or.inr ⟨by kernel_rfl, rfl⟩) HS.out ?_
                refine wpAnyH_take (i := 7) (v := undef) rfl (by kernel_rfl) (by kernel_rfl) (by kernel_rfl) (fun _ _ _ h => h) (Or.inr ⟨by kernel_rfl, rfl⟩) HS.out ?_
                refine wpAnyH_take (i := 8) (v := undef) rfl (by kernel_rfl) (by kernel_rfl) (by kernel_rfl) (fun _ _ _ h => h) (Or.inr ⟨by kernel_rfl, rfl⟩) HS.out ?_
                refine wpAnyH_take (i := 9) (v := undef) rfl (by kernel_rfl) (by kernel_rfl) (by kernel_rfl) (fun _ _ _ h => h) (Or.inr ⟨by kernel_rfl, rfl⟩) HS.out ?_
                refine wpAnyH_take (i := 10) (v := undef) rfl (by kernel_rfl) (by kernel_rfl) (by kernel_rfl) (fun _ _ _ h => h) (Or.inr ⟨by kernel_rfl, rfl⟩) HS.out ?_
                refine wpAnyH_take (i := 11) (v := undef) rfl (by kernel_rfl) (by kernel_rfl) (by kernel_rfl) (fun _ _ _ h => h) (Or.inr ⟨by kernel_rfl, rfl⟩) HS.out ?_
                refine wpAnyH_take (i := 12) (v := undef) rfl (by kernel_rfl) (by kernel_rfl) (by kernel_rfl) (fun _ _ _ h => h) (Or.inr ⟨by kernel_rfl, rfl⟩) HS.out ?_
                refine wpAnyH_take (i := 13) (v := undef) rfl (by kernel_rfl) (by kernel_rfl) (by kernel_rfl) (fun _ _ _ h => h) (Or.inr ⟨by kernel_rfl, rfl⟩) HS.out ?_
                refine wpAnyH_take (i := 14) (v := undef) rfl (by kernel_rfl) (by kernel_rfl) (by kernel_rfl) (fun _ _ _ h => h) (Or.inr ⟨by kernel_rfl, rfl⟩) HS.out ?_
                refine wpAnyH_take (i := 15) (v := undef) rfl (by kernel_rfl) (by kernel_rfl) (by kernel_rfl) (fun _ _ _ h => h) (Or.inr ⟨by kernel_rfl, rfl⟩) HS.out ?_
                refine wpAnyH_take (i := 16) (v := undef) rfl (by kernel_rfl) (by kernel_rfl) (by kernel_rfl) (fun _ _ _ h => h) (Or.inr ⟨by kernel_rfl, rfl⟩) HS.out ?_
                refine wpAnyH_take (i := 17) (v := undef) rfl (by kernel_rfl) (by kernel_rfl) (by kernel_rfl) (fun _ _ _ h => h) (Or.inr ⟨by kernel_rfl, rfl⟩) HS.out ?_
                refine wpAnyH_take (i := 18) (v := undef) rfl (by kernel_rfl) (by kernel_rfl) (by kernel_rfl) (fun _ _ _ h => h) (Or.inr ⟨by kernel_rfl, rfl⟩) HS.out ?_
                refine wpAnyH_take (i := 19) (v := undef) rfl (by kernel_rfl) (by kernel_rfl) (by kernel_rfl) (fun _ _ _ h => h) (Or.inr ⟨by kernel_rfl, rfl⟩) HS.out ?_
                refine wpAnyH_take (i := 20) (v := undef) rfl (by kernel_rfl) (by kernel_rfl) (by kernel_rfl) (fun _ _ _ h => h) (Or.inr ⟨by kernel_rfl, rfl⟩) HS.out ?_
                refine wpAnyH_take (i := 21) (v := undef) rfl (by kernel_rfl) (by kernel_rfl) (by kernel_rfl) (fun _ _ _ h => h) (Or.inr ⟨by kernel_rfl, rfl⟩) HS.out ?_
                refine wpAnyH_ready (rs := [22]) (by kernel_rfl) (by simp) ?_
                refine AllReadyH.cons rfl (fun K hK => ?_) AllReadyH.nil
                go_simp
                refine hK.out _ _ HS.out (fun _ => ?_)
                clear hK K
                refine wpAnyH_ready (rs := [23]) (by kernel_rfl) (by simp) ?_
                refine AllReadyH.cons rfl (fun K hK => ?_) AllReadyH.nil
                go_simp
                refine hK.out _ _ HS.out (fun _ => ?_)
                clear hK K
                refine wpAnyH_done (by kernel_rfl) ?_ _
                obtain ⟨x0, x1, x2, x3, _⟩ := four HS.out.1
                have y0 : w6.cell? ⟨h4, 0, none⟩ = some (.slice A5 k.length c5) := HS.out.2.cell 0
                have y1 : w6.cell? ⟨h4, 1, none⟩ = some (.slice A6 v.length c6) := HS.out.2.cell 1
                go_wp2_with (first
                  | (at_builtin
                     have hsrc := Rd.twoAt w6 (.slice A5 k.length c5) (.slice A6 v.length c6) 74 (g := w6.heap.size) rfl
                     have bb : Below w6.heap.size w6 (w6.alloc (.cells #[.slice A5 k.length c5, .slice A6 v.length c6] 74)) := (Below.refl _ _).alloc (Nat.le_refl _) _
                     have hst := HS3.out.below HBL.out bb
                     obtain ⟨vs, hq1, hq2⟩ := hst.own.o3
                     have hrow : (w6.alloc (.cells #[.slice A5 k.length c5, .slice A6 v.length c6] 74)).ownsRow w.heap.size 74 2 (.slice A3 ps.length c3) ps.length vs := hq1
                     have hss := hst.rd.size
                     refine wpList_append_atS (w := w6.alloc (.cells #[.slice A5 k.length c5, .slice A6 v.length c6] 74)) (c' := 1) w.heap.size hss cellP (.tmp 84) (.tmp 86) rfl (by rfl) rfl hrow rfl hsrc (by intro u hu; simp at hu; rcases hu with rfl | rfl <;> rfl) (by omega) (by omega) ?_
                     intro A7 c7 w7 ho7 hg7
                     have hbw : Below w.heap.size (w6.alloc (.cells #[.slice A5 k.length c5, .slice A6 v.length c6] 74)) w7 := (Below.refl _ _).grown hg7 hss (fun k hk => (hrow.lt k hk).1)
                     have hown : OwnO w w7 ⟨A0, c0, A1, c1, A2, c2, A7, c7⟩ ⟨reg, acc, lk, ps ++ [(k, v)]⟩ := ⟨own_grown_t hst.own.o0 hrow (by decide) hg7, by obtain ⟨us, r1, r2⟩ := hst.own.o1; exact ⟨us, own_grown_t r1 hrow (by decide) hg7, r2.grownP hrow hg7⟩, own_grown_t hst.own.o2 hrow (by decide) hg7, ⟨_, by rw [List.length_append]; exact ho7, by rw [flat_append]; exact (hq2.two (own_below HV3.out bb) (own_below HV4.out bb)).grownP hrow hg7⟩⟩
                     have hres7 := hst.res.apart_own hrow (by decide) hg7
                     have hblk7 := hst.blk.apart_own hrow (by decide) hg7
                     have HFIN := Lib.hid (ObSt.put (i := 3) (u := .slice A7 (ps.length + 1) c7) (a' := ⟨A0, c0, A1, c1, A2, c2, A7, c7⟩) (o' := ⟨reg, acc, lk, ps ++ [(k, v)]⟩) hres7 hblk7 hown (hst.rd.belowW hbw HBL.out) hn1 HBL.out (by simp [objC]))
                     have hb7 := hblk7
                     unfold objC at hb7
                     simp only at hb7
                     clear x0 x1 x2 x3 y0 y1
                     obtain ⟨x0, x1, x2, x3, f0, f1, f2, f3⟩ := four hb7
                     clear hsrc bb hq1 hq2 hrow hst hss hbw hown hres7 hblk7 hb7 ho7 hg7)
                  | fail)
                go_roundw
                case rel => exact ⟨j, A7, c7, ps ++ [(k, v)], sn, by simp; omega, by go_num, congrArg Value.bool (by rw [HOKS.out]; have h := HF0.out; revert h; cases nd <;> cases okP ps <;> simp), Lib.hid (fun p hp => by
                  rcases List.mem_append.1 hp with h | h
                  · exact HBY.out p h
                  · have e : p = (k, v) := by simpa using h
                    rw [e]; exact HKB.out.1), Lib.hid HKB.out.2, HFIN, HQ2⟩
                case measure => simp only [intOf]; omega
              | true =>
                by_cases hps : ps.length = 0
                · have hpi : ((ps.length : Int) == 0) = true := by simpa using hps
                  have HGL : Hid (ps.getLast? = none) := Lib.hid (by rw [List.length_eq_zero_iff.1 hps]; rfl)
                  clear hps
                  have hb2 := HS2.out.blk
                  unfold objC at hb2
                  simp only at hb2
                  have hbd : Below w5.heap.size w5 w5.drew := (Below.refl _ _).drew
                  have HS : Hid ((fun w' => Blk w' g 28 #[.slice A0 reg.length c0, .slice A1 acc.length c1, .slice A2 lk.length c2, .slice A3 ps.length c3] ∧ Blk w' h4 74 #[.slice A5 k.length c5, .slice A6 v.length c6]) w5.drew) := Lib.hid ⟨hb2.below hbd, HKP.out.below hbd⟩
                  have HS3 := Lib.hid (HS2.out.below HBL.out hbd)
                  have HV3 := Lib.hid (own_below HV1.out hbd)
                  have HV4 := Lib.hid (own_below HV2.out hbd)
                  refine wp_region_held_drew (S := fun w' => Blk w' g 28 #[.slice A0 reg.length c0, .slice A1 acc.length c1, .slice A2 lk.length c2, .slice A3 ps.length c3] ∧ Blk w' h4 74 #[.slice A5 k.length c5, .slice A6 v.length c6]) (by kernel_rfl) HS.out (fun _ => ?_)
                  clear hbd hb2
                  generalize w5.drew = w6 at HS HS3 HV3 HV4 ⊢
                  refine wpAnyH_take (i := 0) (v := .bool true) rfl (by kernel_rfl) (by kernel_rfl) (by kernel_rfl) (fun _ _ _ h => h) (Or.inl ⟨by kernel_rfl, fun w _ => by go_simp⟩) HS.out ?_
                  refine wpAnyH_take (i := 1) (v := .bool true) rfl (by kernel_rfl) (by kernel_rfl) (by kernel_rfl) (fun _ _ _ h => h) (Or.inl ⟨by kernel_rfl, fun w _ => by go_simp⟩) HS.out ?_
                  refine wpAnyH_take (i := 2) (v := .pointer (some ⟨g, 3, none⟩)) rfl (by kernel_rfl) (by kernel_rfl) (by kernel_rfl) (fun _ _ _ h => h) (Or.inl ⟨by kernel_rfl, fun w _ => by go_simp⟩) HS.out ?_
                  refine wpAnyH_take (i := 3) (v := .slice A3 ps.length c3) rfl (by kernel_rfl) (by kernel_rfl) (by kernel_rfl) (fun _ _ _ h => h) (Or.inl ⟨by kernel_rfl, fun w h => by obtain ⟨q0, q1, q2, q3, _⟩ := four h.1; go_simp⟩) HS.out ?_
                  refine wpAnyH_take (i := 4) (v := .int .i64 (ps.length : Int)) rfl (by kernel_rfl) (by kernel_rfl) (by kernel_rfl) (fun _ _ _ h => h) (Or.inl ⟨by kernel_rfl, fun w _ => by go_simp⟩) HS.out ?_
                  refine wpAnyH_take (i := 5) (v := .bool true) rfl (by kernel_rfl) (by kernel_rfl) (by kernel_rfl) (fun _ _ _ h => h) (Or.inl ⟨by kernel_rfl, fun w _ => by go_simp⟩) HS.out ?_
                  refine wpAnyH_ready (rs := [6]) (by kernel_rfl) (by simp) ?_
                  refine AllReadyH.cons rfl (fun K hK => ?_) AllReadyH.nil
                  go_simp
                  refine hK.out _ _ HS.out (fun _ => ?_)
                  clear hK K
                  refine wpAnyH_take (i := 7) (v := undef) rfl (by kernel_rfl) (by kernel_rfl) (by kernel_rfl) (fun _ _ _ h => h) (Or.inr ⟨by kernel_rfl, rfl⟩) HS.out ?_
                  refine wpAnyH_take (i := 8) (v := undef) rfl (by kernel_rfl) (by kernel_rfl) (by kernel_rfl) (fun _ _ _ h => h) (Or.inr ⟨by kernel_rfl, rfl⟩) HS.out ?_
                  refine wpAnyH_take (i := 9) (v := undef) rfl (by kernel_rfl) (by kernel_rfl) (by kernel_rfl) (fun _ _ _ h => h) (Or.inr ⟨by kernel_rfl, rfl⟩) HS.out ?_
                  refine wpAnyH_take (i := 10) (v := undef) rfl (by kernel_rfl) (by kernel_rfl) (by kernel_rfl) (fun _ _ _ h => h) (Or.inr ⟨by kernel_rfl, rfl⟩) HS.out ?_
                  refine wpAnyH_take (i := 11) (v := undef) rfl (by kernel_rfl) (by kernel_rfl) (by kernel_rfl) (fun _ _ _ h => h) (Or.inr ⟨by kernel_rfl, rfl⟩) HS.out ?_
                  refine wpAnyH_take (i := 12) (v := undef) rfl (by kernel_rfl) (by kernel_rfl) (by kernel_rfl) (fun _ _ _ h => h) (Or.inr ⟨by kernel_rfl, rfl⟩) HS.out ?_
                  refine wpAnyH_take (i := 13) (v := undef) rfl (by kernel_rfl) (by kernel_rfl) (by kernel_rfl) (fun _ _ _ h => h) (Or.inr ⟨by kernel_rfl, rfl⟩) HS.out ?_
                  refine wpAnyH_take (i := 14) (v := undef) rfl (by kernel_rfl) (by kernel_rfl) (by kernel_rfl) (fun _ _ _ h => h) (Or.inr ⟨by kernel_rfl, rfl⟩) HS.out ?_
                  refine wpAnyH_take (i := 15) (v := undef) rfl (by kernel_rfl) (by kernel_rfl) (by kernel_rfl) (fun _ _ _ h => h) (Or.inr ⟨by kernel_rfl, rfl⟩) HS.out ?_
                  refine wpAnyH_take (i := 16) (v := undef) rfl (by kernel_rfl) (by kernel_rfl) (by kernel_rfl) (fun _ _ _ h => h) (Or.inr ⟨by kernel_rfl, rfl⟩) HS.out ?_
                  refine wpAnyH_take (i := 17) (v := undef) rfl (by kernel_rfl) (by kernel_rfl) (by kernel_rfl) (fun _ _ _ h => h) (Or.inr ⟨by kernel_rfl, rfl⟩) HS.out ?_
                  refine wpAnyH_take (i := 18) (v := undef) rfl (by kernel_rfl) (by kernel_rfl) (by kernel_rfl) (fun _ _ _ h => h) (Or.inr ⟨by kernel_rfl, rfl⟩) HS.out ?_
                  refine wpAnyH_take (i := 19) (v := undef) rfl (by kernel_rfl) (by kernel_rfl) (by kernel_rfl) (fun _ _ _ h => h) (Or.inr ⟨by kernel_rfl, rfl⟩) HS.out ?_
                  refine wpAnyH_take (i := 20) (v := undef) rfl (by kernel_rfl) (by kernel_rfl) (by kernel_rfl) (fun _ _ _ h => h) (Or.inr ⟨by kernel_rfl, rfl⟩) HS.out ?_
                  refine wpAnyH_ready (rs := [21]) (by kernel_rfl) (by simp) ?_
                  refine AllReadyH.cons rfl (fun K hK => ?_) AllReadyH.nil
                  go_simp
                  refine hK.out _ _ HS.out (fun _ => ?_)
                  clear hK K
                  refine wpAnyH_ready (rs := [22]) (by kernel_rfl) (by simp) ?_
                  refine AllReadyH.cons rfl (fun K hK => ?_) AllReadyH.nil
                  go_simp
                  refine hK.out _ _ HS.out (fun _ => ?_)
                  clear hK K
                  refine wpAnyH_ready (rs := [23]) (by kernel_rfl) (by simp) ?_
                  refine AllReadyH.cons rfl (fun K hK => ?_) AllReadyH.nil
                  go_simp
                  refine hK.out _ _ HS.out (fun _ => ?_)
                  clear hK K
                  refine wpAnyH_done (by kernel_rfl) ?_ _
                  obtain ⟨x0, x1, x2, x3, _⟩ := four HS.out.1
                  have y0 : w6.cell? ⟨h4, 0, none⟩ = some (.slice A5 k.length c5) := HS.out.2.cell 0
                  have y1 : w6.cell? ⟨h4, 1, none⟩ = some (.slice A6 v.length c6) := HS.out.2.cell 1
                  go_wp2_with (first
                    | (at_builtin
                       have hsrc := Rd.twoAt w6 (.slice A5 k.length c5) (.slice A6 v.length c6) 74 (g := w6.heap.size) rfl
                       have bb : Below w6.heap.size w6 (w6.alloc (.cells #[.slice A5 k.length c5, .slice A6 v.length c6] 74)) := (Below.refl _ _).alloc (Nat.le_refl _) _
                       have hst := HS3.out.below HBL.out bb
                       obtain ⟨vs, hq1, hq2⟩ := hst.own.o3
                       have hrow : (w6.alloc (.cells #[.slice A5 k.length c5, .slice A6 v.length c6] 74)).ownsRow w.heap.size 74 2 (.slice A3 ps.length c3) ps.length vs := hq1
                       have hss := hst.rd.size
                       refine wpList_append_atS (w := w6.alloc (.cells #[.slice A5 k.length c5, .slice A6 v.length c6] 74)) (c' := 1) w.heap.size hss cellP (.tmp 84) (.tmp 86) rfl (by rfl) rfl hrow rfl hsrc (by intro u hu; simp at hu; rcases hu with rfl | rfl <;> rfl) (by omega) (by omega) ?_
                       intro A7 c7 w7 ho7 hg7
                       have hbw : Below w.heap.size (w6.alloc (.cells #[.slice A5 k.length c5, .slice A6 v.length c6] 74)) w7 := (Below.refl _ _).grown hg7 hss (fun k hk => (hrow.lt k hk).1)
                       have hown : OwnO w w7 ⟨A0, c0, A1, c1, A2, c2, A7, c7⟩ ⟨reg, acc, lk, ps ++ [(k, v)]⟩ := ⟨own_grown_t hst.own.o0 hrow (by decide) hg7, by obtain ⟨us, r1, r2⟩ := hst.own.o1; exact ⟨us, own_grown_t r1 hrow (by decide) hg7, r2.grownP hrow hg7⟩, own_grown_t hst.own.o2 hrow (by decide) hg7, ⟨_, by rw [List.length_append]; exact ho7, by rw [flat_append]; exact (hq2.two (own_below HV3.out bb) (own_below HV4.out bb)).grownP hrow hg7⟩⟩
                       have hres7 := hst.res.apart_own hrow (by decide) hg7
                       have hblk7 := hst.blk.apart_own hrow (by decide) hg7
                       have HFIN := Lib.hid (ObSt.put (i := 3) (u := .slice A7 (ps.length + 1) c7) (a' := ⟨A0, c0, A1, c1, A2, c2, A7, c7⟩) (o' := ⟨reg, acc, lk, ps ++ [(k, v)]⟩) hres7 hblk7 hown (hst.rd.belowW hbw HBL.out) hn1 HBL.out (by simp [objC]))
                       have hb7 := hblk7
                       unfold objC at hb7
                       simp only at hb7
                       clear x0 x1 x2 x3 y0 y1
                       obtain ⟨x0, x1, x2, x3, f0, f1, f2, f3⟩ := four hb7
                       clear hsrc bb hq1 hq2 hrow hst hss hbw hown hres7 hblk7 hb7 ho7 hg7)
                    | fail)
                  go_roundw
                  case rel => exact ⟨j, A7, c7, ps ++ [(k, v)], sn, by simp; omega, by go_num, congrArg Value.bool (by rw [HOKS.out, HGL.out]; have h := HF0.out; revert h; cases nd <;> cases okP ps <;> simp), Lib.hid (fun p hp => by
                    rcases List.mem_append.1 hp with h | h
                    · exact HBY.out p h
                    · have e : p = (k, v) := by simpa using h
                      rw [e]; exact HKB.out.1), Lib.hid HKB.out.2, HFIN, HQ2⟩
                  case measure => simp only [intOf]; omega
                · obtain ⟨m, hm⟩ : ∃ m, ps.length = m + 1 := ⟨ps.length - 1, by omega⟩
                  obtain ⟨b3, o3, pl, A8, c8, A9, c9, hA, hpl, hcl1, _, hrd1, _⟩ := HS2.out.own.o3.rd.at (k := m) (show m < ps.length by omega)
                  have hA : A3 = some ⟨b3, o3, none⟩ := hA
                  subst hA
                  have hpl : ps[m]? = some pl := hpl
                  have HGL : Hid (ps.getLast? = some pl) := Lib.hid (by rw [List.getLast?_eq_getElem?, hm]; exact hpl)
                  have hpi : ((ps.length : Int) == 0) = false := by rw [hm]; simp; omega
                  have hsub : IntKind.i64.wrap ((ps.length : Int) - 1) = (m : Int) := by rw [hm, show ((m + 1 : Nat) : Int) - 1 = (m : Int) by omega]; exact IntWalk.i64_in _ (by omega)
                  have hml : (m : Int) < (ps.length : Int) := by omega
                  have hm0 : (0 : Int) ≤ (m : Int) := by omega
                  have hpb := HBY.out pl (List.mem_of_getElem? hpl)
                  obtain ⟨L, hL⟩ : ∃ L, Mp.ltB pl.1 k = L := ⟨_, rfl⟩
                  have hbl2 := bytesLess_strB hpb HKB.out.1
                  rw [hL] at hbl2
                  have HLL := Lib.hid hL
                  have hb2 := HS2.out.blk
                  unfold objC at hb2
                  simp only at hb2
                  have hbd : Below w5.heap.size w5 w5.drew := (Below.refl _ _).drew
                  have HS : Hid ((fun w' => Blk w' g 28 #[.slice A0 reg.length c0, .slice A1 acc.length c1, .slice A2 lk.length c2, .slice (some ⟨b3, o3, none⟩) ps.length c3] ∧ Blk w' h4 74 #[.slice A5 k.length c5, .slice A6 v.length c6] ∧ w'.cell? ⟨b3, o3 + m * 2, none⟩ = some (.slice A8 pl.1.length c8) ∧ Rd w' w5.heap.size A8 pl.1.length (bv pl.1) ∧ Rd w' w5.heap.size A5 k.length (bv k)) w5.drew) := Lib.hid ⟨hb2.below hbd, HKP.out.below hbd, (hbd.cell (p := ⟨b3, o3 + m * 2, none⟩) (World.block_lt_of_cell? _ _ hcl1)).trans hcl1, hrd1.fit.below hbd, (Rd.own_ HV1.out).below hbd⟩
                  have HS3 := Lib.hid (HS2.out.below HBL.out hbd)
                  have HV3 := Lib.hid (own_below HV1.out hbd)
                  have HV4 := Lib.hid (own_below HV2.out hbd)
                  refine wp_region_held_drew (S := fun w' => Blk w' g 28 #[.slice A0 reg.length c0, .slice A1 acc.length c1, .slice A2 lk.length c2, .slice (some ⟨b3, o3, none⟩) ps.length c3] ∧ Blk w' h4 74 #[.slice A5 k.length c5, .slice A6 v.length c6] ∧ w'.cell? ⟨b3, o3 + m * 2, none⟩ = some (.slice A8 pl.1.length c8) ∧ Rd w' w5.heap.size A8 pl.1.length (bv pl.1) ∧ Rd w' w5.heap.size A5 k.length (bv k)) (by kernel_rfl) HS.out (fun _ => ?_)
                  clear hbd hb2 hps hpl hcl1 hrd1 hpb hL hm
                  generalize w5.drew = w6 at HS HS3 HV3 HV4 ⊢
                  refine wpAnyH_take (i := 0) (v := .bool true) rfl (by kernel_rfl) (by kernel_rfl) (by kernel_rfl) (fun _ _ _ h => h) (Or.inl ⟨by kernel_rfl, fun w _ => by go_simp⟩) HS.out ?_
                  refine wpAnyH_take (i := 1) (v := .bool true) rfl (by kernel_rfl) (by kernel_rfl) (by kernel_rfl) (fun _ _ _ h => h) (Or.inl ⟨by kernel_rfl, fun w _ => by go_simp⟩) HS.out ?_
                  refine wpAnyH_take (i := 2) (v := .pointer (some ⟨g, 3, none⟩)) rfl (by kernel_rfl) (by kernel_rfl) (by kernel_rfl) (fun _ _ _ h => h) (Or.inl ⟨by kernel_rfl, fun w _ => by go_simp⟩) HS.out ?_
                  refine wpAnyH_take (i := 3) (v := .slice (some ⟨b3, o3, none⟩) ps.length c3) rfl (by kernel_rfl) (by kernel_rfl) (by kernel_rfl) (fun _ _ _ h => h) (Or.inl ⟨by kernel_rfl, fun w h => by obtain ⟨q0, q1, q2, q3, _⟩ := four h.1; go_simp⟩) HS.out ?_
                  refine wpAnyH_take (i := 4) (v := .int .i64 (ps.length : Int)) rfl (by kernel_rfl) (by kernel_rfl) (by kernel_rfl) (fun _ _ _ h => h) (Or.inl ⟨by kernel_rfl, fun w _ => by go_simp⟩) HS.out ?_
                  refine wpAnyH_take (i := 5) (v := .bool false) rfl (by kernel_rfl) (by kernel_rfl) (by kernel_rfl) (fun _ _ _ h => h) (Or.inl ⟨by kernel_rfl, fun w _ => by go_simp⟩) HS.out ?_
                  refine wpAnyH_ready (rs := [6]) (by kernel_rfl) (by simp) ?_
                  refine AllReadyH.cons rfl (fun K hK => ?_) AllReadyH.nil
                  go_simp
                  refine hK.out _ _ HS.out (fun _ => ?_)
                  clear hK K
                  refine wpAnyH_take (i := 7) (v := .pointer (some ⟨g, 3, none⟩)) rfl (by kernel_rfl) (by kernel_rfl) (by kernel_rfl) (fun _ _ _ h => h) (Or.inl ⟨by kernel_rfl, fun w _ => by go_simp⟩) HS.out ?_
                  refine wpAnyH_take (i := 9) (v := .pointer (some ⟨g, 3, none⟩)) rfl (by kernel_rfl) (by kernel_rfl) (by kernel_rfl) (fun _ _ _ h => h) (Or.inl ⟨by kernel_rfl, fun w _ => by go_simp⟩) HS.out ?_
                  refine wpAnyH_take (i := 8) (v := .slice (some ⟨b3, o3, none⟩) ps.length c3) rfl (by kernel_rfl) (by kernel_rfl) (by kernel_rfl) (fun _ _ _ h => h) (Or.inl ⟨by kernel_rfl, fun w h => by obtain ⟨q0, q1, q2, q3, _⟩ := four h.1; go_simp⟩) HS.out ?_
                  refine wpAnyH_take (i := 10) (v := .slice (some ⟨b3, o3, none⟩) ps.length c3) rfl (by kernel_rfl) (by kernel_rfl) (by kernel_rfl) (fun _ _ _ h => h) (Or.inl ⟨by kernel_rfl, fun w h => by obtain ⟨q0, q1, q2, q3, _⟩ := four h.1; go_simp⟩) HS.out ?_
                  refine wpAnyH_take (i := 11) (v := .int .i64 (ps.length : Int)) rfl (by kernel_rfl) (by kernel_rfl) (by kernel_rfl) (fun _ _ _ h => h) (Or.inl ⟨by kernel_rfl, fun w _ => by go_simp⟩) HS.out ?_
                  refine wpAnyH_take (i := 12) (v := .int .i64 (m : Int)) rfl (by kernel_rfl) (by kernel_rfl) (by kernel_rfl) (fun _ _ _ h => h) (Or.inl ⟨by kernel_rfl, fun w _ => by go_simp⟩) HS.out ?_
                  refine wpAnyH_take (i := 13) (v := .pointer (some ⟨b3, o3 + m * 2, none⟩)) rfl (by kernel_rfl) (by kernel_rfl) (by kernel_rfl) (fun _ _ _ h => h) (Or.inl ⟨by kernel_rfl, fun w _ => by go_simp⟩) HS.out ?_
                  refine wpAnyH_take (i := 14) (v := .pointer (some ⟨b3, o3 + m * 2, none⟩)) rfl (by kernel_rfl) (by kernel_rfl) (by kernel_rfl) (fun _ _ _ h => h) (Or.inl ⟨by kernel_rfl, fun w _ => by go_simp⟩) HS.out ?_
                  refine wpAnyH_take (i := 15) (v := .slice A8 pl.1.length c8) rfl (by kernel_rfl) (by kernel_rfl) (by kernel_rfl) (fun _ _ _ h => h) (Or.inl ⟨by kernel_rfl, fun w h => by have q := h.2.2.1; go_simp⟩) HS.out ?_
                  refine wpAnyH_take (i := 17) (v := .pointer (some ⟨h4, 0, none⟩)) rfl (by kernel_rfl) (by kernel_rfl) (by kernel_rfl) (fun _ _ _ h => h) (Or.inl ⟨by kernel_rfl, fun w _ => by go_simp⟩) HS.out ?_
                  refine wpAnyH_take (i := 18) (v := .slice A5 k.length c5) rfl (by kernel_rfl) (by kernel_rfl) (by kernel_rfl) (fun _ _ _ h => h) (Or.inl ⟨by kernel_rfl, fun w h => by have q := h.2.1.cell 0; have q0 : w.cell? ⟨h4, 0, none⟩ = some (.slice A5 k.length c5) := q; go_simp⟩) HS.out ?_
                  refine wpAnyH_take (i := 16) (v := .string (strB pl.1)) rfl (by kernel_rfl) (by kernel_rfl) (by kernel_rfl) (fun _ _ _ h => h) (Or.inl ⟨by kernel_rfl, fun w h => by have q := str_of (c := c8) h.2.2.2.1; go_simp⟩) HS.out ?_
                  refine wpAnyH_take (i := 19) (v := .string (strB k)) rfl (by kernel_rfl) (by kernel_rfl) (by kernel_rfl) (fun _ _ _ h => h) (Or.inl ⟨by kernel_rfl, fun w h => by have q := str_of (c := c5) h.2.2.2.2; go_simp⟩) HS.out ?_
                  refine wpAnyH_ready (rs := [20]) (by kernel_rfl) (by simp) ?_
                  refine AllReadyH.cons rfl (fun K hK => ?_) AllReadyH.nil
                  go_simp
                  refine hK.out _ _ HS.out (fun _ => ?_)
                  clear hK K
                  refine wpAnyH_take (i := 21) (v := .bool L) rfl (by kernel_rfl) (by kernel_rfl) (by kernel_rfl) (fun _ _ _ h => h) (Or.inl ⟨by kernel_rfl, fun w _ => by go_simp⟩) HS.out ?_
                  refine wpAnyH_take (i := 22) (v := .bool L) rfl (by kernel_rfl) (by kernel_rfl) (by kernel_rfl) (fun _ _ _ h => h) (Or.inl ⟨by kernel_rfl, fun w _ => by go_simp⟩) HS.out ?_
                  refine wpAnyH_ready (rs := [23]) (by kernel_rfl) (by simp) ?_
                  refine AllReadyH.cons rfl (fun K hK => ?_) AllReadyH.nil
                  go_simp
                  refine hK.out _ _ HS.out (fun _ => ?_)
                  clear hK K
                  refine wpAnyH_done (by kernel_rfl) ?_ _
                  obtain ⟨x0, x1, x2, x3, _⟩ := four HS.out.1
                  have y0 : w6.cell? ⟨h4, 0, none⟩ = some (.slice A5 k.length c5) := HS.out.2.1.cell 0
                  have y1 : w6.cell? ⟨h4, 1, none⟩ = some (.slice A6 v.length c6) := HS.out.2.1.cell 1
                  go_wp2_with (first
                    | (at_builtin
                       have hsrc := Rd.twoAt w6 (.slice A5 k.length c5) (.slice A6 v.length c6) 74 (g := w6.heap.size) rfl
                       have bb : Below w6.heap.size w6 (w6.alloc (.cells #[.slice A5 k.length c5, .slice A6 v.length c6] 74)) := (Below.refl _ _).alloc (Nat.le_refl _) _
                       have hst := HS3.out.below HBL.out bb
                       obtain ⟨vs, hq1, hq2⟩ := hst.own.o3
                       have hrow : (w6.alloc (.cells #[.slice A5 k.length c5, .slice A6 v.length c6] 74)).ownsRow w.heap.size 74 2 (.slice (some ⟨b3, o3, none⟩) ps.length c3) ps.length vs := hq1
                       have hss := hst.rd.size
                       refine wpList_append_atS (w := w6.alloc (.cells #[.slice A5 k.length c5, .slice A6 v.length c6] 74)) (c' := 1) w.heap.size hss cellP (.tmp 84) (.tmp 86) rfl (by rfl) rfl hrow rfl hsrc (by intro u hu; simp at hu; rcases hu with rfl | rfl <;> rfl) (by omega) (by omega) ?_
                       intro A7 c7 w7 ho7 hg7
                       have hbw : Below w.heap.size (w6.alloc (.cells #[.slice A5 k.length c5, .slice A6 v.length c6] 74)) w7 := (Below.refl _ _).grown hg7 hss (fun k hk => (hrow.lt k hk).1)
                       have hown : OwnO w w7 ⟨A0, c0, A1, c1, A2, c2, A7, c7⟩ ⟨reg, acc, lk, ps ++ [(k, v)]⟩ := ⟨own_grown_t hst.own.o0 hrow (by decide) hg7, by obtain ⟨us, r1, r2⟩ := hst.own.o1; exact ⟨us, own_grown_t r1 hrow (by decide) hg7, r2.grownP hrow hg7⟩, own_grown_t hst.own.o2 hrow (by decide) hg7, ⟨_, by rw [List.length_append]; exact ho7, by rw [flat_append]; exact (hq2.two (own_below HV3.out bb) (own_below HV4.out bb)).grownP hrow hg7⟩⟩
                       have hres7 := hst.res.apart_own hrow (by decide) hg7
                       have hblk7 := hst.blk.apart_own hrow (by decide) hg7
                       have HFIN := Lib.hid (ObSt.put (i := 3) (u := .slice A7 (ps.length + 1) c7) (a' := ⟨A0, c0, A1, c1, A2, c2, A7, c7⟩) (o' := ⟨reg, acc, lk, ps ++ [(k, v)]⟩) hres7 hblk7 hown (hst.rd.belowW hbw HBL.out) hn1 HBL.out (by simp [objC]))
                       have hb7 := hblk7
                       unfold objC at hb7
                       simp only at hb7
                       clear x0 x1 x2 x3 y0 y1
                       obtain ⟨x0, x1, x2, x3, f0, f1, f2, f3⟩ := four hb7
                       clear hsrc bb hq1 hq2 hrow hst hss hbw hown hres7 hblk7 hb7 ho7 hg7)
                    | fail)
                  go_roundw
                  case rel => exact ⟨j, A7, c7, ps ++ [(k, v)], sn, by simp; omega, by go_num, congrArg Value.bool (by rw [HOKS.out, HGL.out]; have h := HF0.out; simp only [HLL.out]; revert h; cases nd <;> cases okP ps <;> simp), Lib.hid (fun p hp => by
                    rcases List.mem_append.1 hp with h | h
                    · exact HBY.out p h
                    · have e : p = (k, v) := by simpa using h
                      rw [e]; exact HKB.out.1), Lib.hid HKB.out.2, HFIN, HQ2⟩
                  case measure => simp only [intOf]; omega
            | zero =>
              have HPF : Hid (R = (⟨reg, acc, lk, ps⟩, sl)) := Lib.hid (by
                rw [← HRR.out]
                unfold getO
                rw [HE0.out, HE1.out, HQF.out]
                simp only
                rw [HIF.out]
                unfold stP
                simp only
                rw [HD4.out, HD5.out, HQ.out]
                simp [getP])
              obtain ⟨okf, hokf⟩ : ∃ x, (nd && okP ps) = x := ⟨_, rfl⟩
              have HOKF := Lib.hid hokf
              rw [hokf]
              clear hokf
              have hb2 := HST.out.blk
              unfold objC at hb2
              simp only at hb2
              obtain ⟨y0, y1, y2, y3, _⟩ := four hb2
              clear hb2
              have r0 := HST.out.res
              have r1 := r0.set_ 0 (.slice A0 reg.length c0)
              have r2 := r1.set_ 1 (.slice A1 acc.length c1)
              have r3 := r2.set_ 2 (.slice A2 lk.length c2)
              have r4 := r3.set_ 3 (.slice A3 ps.length c3)
              have ho4 := (((HST.out.own.set_t r0 (i := 0) (u := .slice A0 reg.length c0) (by decide) (by decide) (by decide) (by decide)).set_t r1 (i := 1) (u := .slice A1 acc.length c1) (by decide) (by decide) (by decide) (by decide)).set_t r2 (i := 2) (u := .slice A2 lk.length c2) (by decide) (by decide) (by decide) (by decide)).set_t r3 (i := 3) (u := .slice A3 ps.length c3) (by decide) (by decide) (by decide) (by decide)
              have hr4 := (((HST.out.rd.set (i := 0) (u := .slice A0 reg.length c0) HBL.out (Nat.le_refl _)).set (i := 1) (u := .slice A1 acc.length c1) HBL.out (Nat.le_refl _)).set (i := 2) (u := .slice A2 lk.length c2) HBL.out (Nat.le_refl _)).set (i := 3) (u := .slice A3 ps.length c3) HBL.out (Nat.le_refl _)
              have HEND := Lib.hid (And.intro r4 (And.intro ho4 hr4))
              obtain ⟨x0, x1, x2, x3, f0, f1, f2, f3⟩ := four r0
              clear r0 r1 r2 r3 r4 ho4 hr4 HST
              go_wp2_with fail
              refine bodyPost_ret (results_cell_tmp rfl _ _ _ _ _ _ rfl HEND.out.1 Tryz.underlying28 rfl (by kernel_rfl)) rfl ?_
              have hR := HPF.out
              subst hR
              refine ⟨⟨A0, c0, A1, c1, A2, c2, A3, c3⟩, ?_, HEND.out.2.1, HEND.out.2.2.r, HEND.out.2.2.only⟩
              rw [HND.out, HOKF.out]
              rfl
end Go.Proofs.YtmekamgohonffaaGreat

namespace Go.Proofs.YtmekamgohonffaaGreat
open Go.RowKit
set_option linter.unusedVariables false
theorem okT_snoc (ls : List Ls) (l : Ls) : okT (ls ++ [l]) = (okT ls && (decide (Tb.named l.s l.q) && (match ls.getLast? with | none => true | some p => decide (p.s < l.s)))) := by
  unfold okT
  rw [chainB_snoc, List.all_append]
  cases ls.all (fun l => decide (Tb.named l.s l.q)) <;> cases chainB (fun a b => decide (a.s < b.s)) ls <;> cases h : ls.getLast? <;> simp
theorem OwnQ.grownL {W w w' : World} {A A' : Option Addr} {n c base' size' n' c' : Nat} {xs' : List Value} {qs : List (List Nat)} (h : OwnQ W w A n c qs) (ho : w.ownsRow base' 79 size' (.slice A' n' c') n' xs') (hg : w.grownBy w' (Value.slice A' n' c').ownBlock) : OwnQ W w' A n c qs := by
  obtain ⟨vs, h1, h2⟩ := h
  exact ⟨vs, own_grown_t h1 ho (by decide) hg, ⟨h2.1, fun i l hl => by obtain ⟨A2, c2, e, h3⟩ := h2.2 i l hl; exact ⟨A2, c2, e, own_grown_t h3 ho (by decide) hg⟩⟩⟩
theorem OwnP.grownL {W w w' : World} {A A' : Option Addr} {n c base' size' n' c' : Nat} {xs' : List Value} {qs : List Pr} (h : OwnP W w A n c qs) (ho : w.ownsRow base' 79 size' (.slice A' n' c') n' xs') (hg : w.grownBy w' (Value.slice A' n' c').ownBlock) : OwnP W w' A n c qs := by
  obtain ⟨vs, h1, h2⟩ := h
  exact ⟨vs, own_grown_t h1 ho (by decide) hg, ⟨h2.1, fun i l hl => by obtain ⟨A2, c2, e, h3⟩ := h2.2 i l hl; exact ⟨A2, c2, e, own_grown_t h3 ho (by decide) hg⟩⟩⟩
/-- a machine under way: the variable, its rows, the reader -/
structure McSt (w wx : World) (B b g : Nat) (a : MA) (m : Mc) (s : Pk.St) : Prop where
  res : Blk wx w.heap.size 31 #[.slice none 0 0, .slice none 0 0, .slice none 0 0, .slice none 0 0, .slice none 0 0]
  blk : Blk wx g 31 (machC a m)
  own : OwnM w wx a m
  rd : RdSt w wx B b s
section
variable {w wx wy : World} {B b g : Nat} {a : MA} {m : Mc} {s s' : Pk.St}
theorem McSt.call (h : McSt w wx B b g a m s) (hb : b < w.heap.size) (hg : b ≠ g) (hr : RefAt wy B b s') (ho : Only b wx wy) : McSt w wy B b g a m s' :=
  ⟨h.res.grown ho (by intro e; injection e with e; omega), h.blk.grown ho (by intro e; injection e with e; omega), h.own.old ho (Old.some hb), h.rd.call hr ho⟩
theorem McSt.below (h : McSt w wx B b g a m s) (hb : b < w.heap.size) (hB : Below wx.heap.size wx wy) : McSt w wy B b g a m s :=
  ⟨h.res.below hB, h.blk.below hB, h.own.below hB, h.rd.belowW (hB.mono h.rd.size) hb⟩
end
set_option maxHeartbeats 4000000 in
set_option maxRecDepth 100000 in
theorem refMachine_any (w : World) (B b : Nat) (s : Pk.St) (h : RefAt w B b s) (hbs : BytesSt s) :
    Calls Tryz.prog 77 #[.pointer (some ⟨b, 0, none⟩)] w fun en w' => ∃ a, en = .returned (.tuple #[machV a (Mc.get s).1, .bool ((Mc.get s).1.wf && (Mc.get s).2.isSome)]) ∧ OwnM w w' a (Mc.get s).1 ∧ RefAt w' B b (Mc.get s).2 ∧ Only b w w' := by
  have hbl := h.lt
  have HBL := Lib.hid hbl
  have HRR : Hid (Mc.get s = (⟨(getO s).1, (stT (getO s).2).1⟩, (stT (getO s).2).2)) := Lib.hid rfl
  obtain ⟨R, hR⟩ : ∃ R, Mc.get s = R := ⟨_, rfl⟩
  rw [hR] at HRR ⊢
  have C0 := Lib.hid (fun w h => refObjects_any w B b s h hbs)
  obtain ⟨⟨⟨reg, acc, lk, ps⟩, s1⟩, hO⟩ : ∃ O, getO s = O := ⟨_, rfl⟩
  rw [hO] at C0 HRR
  have h0 : RdSt w w B b s := ⟨h, only_refl b w⟩
  have HR0 := Lib.hid (h0.below ((Below.refl w.heap.size w).alloc (Nat.le_refl _) (.cells #[.slice none 0 0, .slice none 0 0, .slice none 0 0, .slice none 0 0, .slice none 0 0] 31)))
  have HK2 := Lib.hid (Blk.new w 31 #[.slice none 0 0, .slice none 0 0, .slice none 0 0, .slice none 0 0, .slice none 0 0])
  clear h h0 hR hO hbs
  have hne : w.heap.size ≠ b := by omega
  obtain ⟨nq, e2⟩ : ∃ x, Pk.numV s1 8 = x := ⟨_, rfl⟩
  obtain ⟨s2, e3⟩ : ∃ x, Pk.numS s1 8 = x := ⟨_, rfl⟩
  have C1 := Lib.hid (fun w h => refrnum_any w B b s1 8 h)
  rw [e2, e3] at C1
  have HE2 := Lib.hid e2
  have HE3 := Lib.hid e3
  have hnq : nq ≤ 8 := by have := numV_le s1 (m := 8) (by omega); omega
  clear e2 e3
  obtain ⟨ok0, hok0⟩ : ∃ x, (decide lk.Nodup && okP ps) = x := ⟨_, rfl⟩
  have HOK0 := Lib.hid hok0
  simp only at C0
  rw [hok0] at C0
  clear hok0
  go_enter Tryz.func77, Tryz.ntmps77
  go_upto_region 1 with fail
  generalize w.alloc (.cells #[.slice none 0 0, .slice none 0 0, .slice none 0 0, .slice none 0 0, .slice none 0 0] 31) = wa at HR0 HK2 ⊢
  go_upto_region 2 with (first
    | (go_at_call 96; refine (C0.out _ HR0.out.r).mono ?_; rintro en w1 ⟨⟨A0, c0, A1, c1, A2, c2, A3, c3⟩, rfl, hv, hr, ho⟩
       have hbo : Below w1.heap.size w1 (w1.alloc (.cells #[.slice A0 reg.length c0, .slice A1 acc.length c1, .slice A2 lk.length c2, .slice A3 ps.length c3] 28)) := (Below.refl _ _).alloc (Nat.le_refl _) _
       have HST0 : Hid (Blk (w1.alloc (.cells #[.slice A0 reg.length c0, .slice A1 acc.length c1, .slice A2 lk.length c2, .slice A3 ps.length c3] 28)) w.heap.size 31 #[.slice none 0 0, .slice none 0 0, .slice none 0 0, .slice none 0 0, .slice none 0 0] ∧ OwnO w (w1.alloc (.cells #[.slice A0 reg.length c0, .slice A1 acc.length c1, .slice A2 lk.length c2, .slice A3 ps.length c3] 28)) ⟨A0, c0, A1, c1, A2, c2, A3, c3⟩ ⟨reg, acc, lk, ps⟩ ∧ RdSt w (w1.alloc (.cells #[.slice A0 reg.length c0, .slice A1 acc.length c1, .slice A2 lk.length c2, .slice A3 ps.length c3] 28)) B b s1) := Lib.hid ⟨((HK2.out.grown ho (by simpa using hne)).below hbo), (hv.of HR0.out.size).below hbo, (HR0.out.call hr ho).below hbo⟩
       have hn1 : w.heap.size < w1.heap.size := (HK2.out.grown ho (by simpa using hne)).lt
       have HKO := Lib.hid (Blk.new w1 28 #[.slice A0 reg.length c0, .slice A1 acc.length c1, .slice A2 lk.length c2, .slice A3 ps.length c3])
       unfold objV objC
       simp only
       clear hv hr ho hbo C0)
    | fail)
  generalize w1.alloc (.cells #[.slice A0 reg.length c0, .slice A1 acc.length c1, .slice A2 lk.length c2, .slice A3 ps.length c3] 28) = w2 at HST0 HKO ⊢
  have hn2 : w1.heap.size < w2.heap.size := HKO.out.lt
  obtain ⟨x0, x1, x2, x3, f0, f1, f2, f3⟩ := four HKO.out
  go_upto_region 3 with fail
  have hbm : Below w2.heap.size w2 (w2.alloc (.cells #[.slice A0 reg.length c0, .slice A1 acc.length c1, .slice A2 lk.length c2, .slice A3 ps.length c3, .slice none 0 0] 31)) := (Below.refl _ _).alloc (Nat.le_refl _) _
  have HST : Hid (McSt w (w2.alloc (.cells #[.slice A0 reg.length c0, .slice A1 acc.length c1, .slice A2 lk.length c2, .slice A3 ps.length c3, .slice none 0 0] 31)) B b w2.heap.size ⟨⟨A0, c0, A1, c1, A2, c2, A3, c3⟩, none, 0⟩ ⟨⟨reg, acc, lk, ps⟩, []⟩ s1) := Lib.hid ⟨HST0.out.1.below hbm, Blk.new _ _ _, ⟨HST0.out.2.1.below hbm, OwnL.nil _ _⟩, HST0.out.2.2.below hbm⟩
  clear hbm HST0 HKO x0 x1 x2 x3 f0 f1 f2 f3
  generalize w2.alloc (.cells #[.slice A0 reg.length c0, .slice A1 acc.length c1, .slice A2 lk.length c2, .slice A3 ps.length c3, .slice none 0 0] 31) = w3 at HST ⊢
  obtain ⟨g, hg⟩ : ∃ g, w2.heap.size = g := ⟨_, rfl⟩
  rw [hg] at HST hn2 ⊢
  have hgb : b ≠ g := by omega
  have hgw : w.heap.size < g := by omega
  go_wp2_with (first
    | (go_at_call 37; refine (C1.out _ HST.out.rd.r).mono ?_; rintro en w4 ⟨rfl, hr, ho, hz⟩; have HST := Lib.hid (HST.out.call HBL.out hgb hr ho); clear hr ho hz C1)
    | fail)
  go_loopw [5, 7] (fun s5 s7 wr => ∃ (j : Nat) (At : Option Addr) (ct : Nat) (ls : List Ls) (sj : Pk.St), j + ls.length = nq ∧ s7 = .int .i64 (j : Int) ∧ s5 = .bool (ok0 && okT ls) ∧ Hid (McSt w wr B b g ⟨⟨A0, c0, A1, c1, A2, c2, A3, c3⟩, At, ct⟩ ⟨⟨reg, acc, lk, ps⟩, ls⟩ sj) ∧ Hid (getT nq s2 = (ls ++ (getT j sj).1, (getT j sj).2))) (fun _ s7 _ => (intOf s7).toNat)
  case atStart => exact ⟨nq, none, 0, [], s2, by simp, rfl, by simp [okT, chainB], HST, Lib.hid (by simp)⟩
  case round =>
    clear HST
    obtain ⟨j, At, ct, ls, sj, hj, rfl, rfl, HST, HQ⟩ := hrel
    have hls8 : ls.length ≤ 8 := by omega
    cases j with
    | succ j =>
      have hjp : (0 : Int) < ((j + 1 : Nat) : Int) := by omega
      have hjw : IntKind.i64.wrap (((j + 1 : Nat) : Int) - 1) = (j : Int) := by rw [show ((j + 1 : Nat) : Int) - 1 = (j : Int) by omega]; exact IntWalk.i64_in _ (by omega)
      obtain ⟨n1, a1⟩ : ∃ y, Pk.numV sj 1073741824 = y := ⟨_, rfl⟩
      obtain ⟨t1, b1⟩ : ∃ y, Pk.numS sj 1073741824 = y := ⟨_, rfl⟩
      obtain ⟨n2, a2⟩ : ∃ y, Pk.numV t1 1073741824 = y := ⟨_, rfl⟩
      obtain ⟨t2, b2⟩ : ∃ y, Pk.numS t1 1073741824 = y := ⟨_, rfl⟩
      obtain ⟨n3, a3⟩ : ∃ y, Pk.numV t2 10 = y := ⟨_, rfl⟩
      obtain ⟨t3, b3⟩ : ∃ y, Pk.numS t2 10 = y := ⟨_, rfl⟩
      obtain ⟨n4, a4⟩ : ∃ y, Pk.numV t3 1073741825 = y := ⟨_, rfl⟩
      obtain ⟨t4, b4⟩ : ∃ y, Pk.numS t3 1073741825 = y := ⟨_, rfl⟩
      obtain ⟨v, a5⟩ : ∃ y, Pk.bytV t4 16 = y := ⟨_, rfl⟩
      obtain ⟨t5, b5⟩ : ∃ y, Pk.bytS t4 16 = y := ⟨_, rfl⟩
      have h4 : n4 ≤ 1073741825 := by have := numV_le t3 (m := 1073741825) (by omega); omega
      have hw4 : IntKind.i64.wrap ((n4 : Int) - 1) = (n4 : Int) - 1 := IntWalk.i64_in _ (by omega)
      obtain ⟨l, hl⟩ : ∃ l : Ls, l = ⟨n1, n2, n3, v, (n4 : Int) - 1⟩ := ⟨_, rfl⟩
      have HL := Lib.hid hl
      have HQ2 : Hid (getT nq s2 = ((ls ++ [l]) ++ (getT j t5).1, (getT j t5).2)) := Lib.hid (by rw [HQ.out]; simp only [getT, getT1, a1, b1, a2, b2, a3, b3, a4, b4, a5, b5, List.append_assoc, List.singleton_append, hl])
      have K1 := Lib.hid (fun w h => refrnum_any w B b sj 1073741824 h)
      have K2 := Lib.hid (fun w h => refrnum_any w B b t1 1073741824 h)
      have K3 := Lib.hid (fun w h => refrnum_any w B b t2 10 h)
      have K4 := Lib.hid (fun w h => refrnum_any w B b t3 1073741825 h)
      have K5 := Lib.hid (fun w h => refrbytes_any w B b t4 16 h)
      rw [a1, b1] at K1
      rw [a2, b2] at K2
      rw [a3, b3] at K3
      rw [a4, b4] at K4
      rw [a5, b5] at K5
      clear a1 b1 a2 b2 a3 b3 a4 b4 a5 b5 HQ hl h4
      go_upto_region 7 with (first
        | (go_at_call 37; refine (K1.out _ HST.out.rd.r).mono ?_; rintro en w5 ⟨rfl, hr, ho, hz⟩; have HS1 := Lib.hid (HST.out.call HBL.out hgb hr ho); clear hr ho hz K1 HST)
        | (go_at_call 37; refine (K2.out _ HS1.out.rd.r).mono ?_; rintro en w6 ⟨rfl, hr, ho, hz⟩
           have HS2 := Lib.hid (HS1.out.call HBL.out hgb hr ho)
           have bb : Below w6.heap.size w6 (w6.alloc (.cells #[.int .i64 (n1 : Int), .int .i64 (n2 : Int), .int .i64 0, .slice none 0 0, .int .i64 0] 79)) := (Below.refl _ _).alloc (Nat.le_refl _) _
           have HON := Lib.hid (only_below (only_refl b w6) bb (Nat.le_refl _))
           have HRD := Lib.hid (HS2.out.rd.below bb)
           have HKL := Lib.hid (Blk.new w6 79 #[.int .i64 (n1 : Int), .int .i64 (n2 : Int), .int .i64 0, .slice none 0 0, .int .i64 0])
           clear hr ho hz K2 HS1 bb)
        | fail)
      generalize w6.alloc (.cells #[.int .i64 (n1 : Int), .int .i64 (n2 : Int), .int .i64 0, .slice none 0 0, .int .i64 0] 79) = w7 at HON HRD HKL ⊢
      obtain ⟨e, he⟩ : ∃ e, w6.heap.size = e := ⟨_, rfl⟩
      have hge : g < e := by have := HS2.out.blk.lt; omega
      have hwe : w.heap.size ≤ e := by omega
      have heb : b ≠ e := by omega
      rw [he] at HKL ⊢
      have HE := Lib.hid he
      clear he
      go_upto_region 10 with (first
        | (go_at_call 37; refine (K3.out _ HRD.out.r).mono ?_; rintro en w8 ⟨rfl, hr, ho, hz⟩
           have hk := HKL.out.grown ho (by intro q; injection q with q; omega)
           have HKL3 := Lib.hid (hk.set_ 2 (.int .i64 (n3 : Int)))
           have hr1 := HRD.out.call hr ho
           have HRD3 := Lib.hid (hr1.set (i := 2) (u := .int .i64 (n3 : Int)) HBL.out hwe)
           have HON3 := Lib.hid (only_below (only_trans HON.out ho) ((Below.refl e w8).setCell (p := ⟨e, 2, none⟩) (Nat.le_refl _) (.int .i64 (n3 : Int))) (by have := HE.out; omega))
           have y2 := hk.cell 2
           have f2 := hk.frozen 2
           clear hr ho hz K3 hk hr1 HKL HRD HON)
        | (go_at_call 37; refine (K4.out _ HRD3.out.r).mono ?_; rintro en w9 ⟨rfl, hr, ho, hz⟩
           clear y2 f2
           have hk := HKL3.out.grown ho (by intro q; injection q with q; omega)
           have HKL4 := Lib.hid (hk.set_ 4 (.int .i64 ((n4 : Int) - 1)))
           have hr1 := HRD3.out.call hr ho
           have HRD4 := Lib.hid (hr1.set (i := 4) (u := .int .i64 ((n4 : Int) - 1)) HBL.out hwe)
           have HON4 := Lib.hid (only_below (only_trans HON3.out ho) ((Below.refl e w9).setCell (p := ⟨e, 4, none⟩) (Nat.le_refl _) (.int .i64 ((n4 : Int) - 1))) (by have := HE.out; omega))
           have y4 := hk.cell 4
           have f4 := hk.frozen 4
           clear hr ho hz K4 hk hr1 HKL3 HRD3 HON3)
        | (go_at_call 39; refine (K5.out _ HRD4.out.r).mono ?_; rintro en w10 ⟨A5, m5, c5, rfl, hv, hr, ho⟩; obtain rfl := own_len hv
           clear y4 f4
           have hv := own_of HRD4.out.size hv
           have hk := HKL4.out.grown ho (by intro q; injection q with q; omega)
           have HKL5 := Lib.hid (hk.set_ 3 (.slice A5 v.length c5))
           have hr1 := HRD4.out.call hr ho
           have HRD5 := Lib.hid (hr1.set (i := 3) (u := .slice A5 v.length c5) HBL.out hwe)
           have HON5 := Lib.hid (only_below (only_trans HON4.out ho) ((Below.refl e w10).setCell (p := ⟨e, 3, none⟩) (Nat.le_refl _) (.slice A5 v.length c5)) (by have := HE.out; omega))
           have HV := Lib.hid (own_set_t (i := 3) (u := .slice A5 v.length c5) hv hk (by decide))
           have y3 := hk.cell 3
           have f3 := hk.frozen 3
           clear hv hr ho K5 hk hr1 HKL4 HRD4 HON4)
        | fail)
      generalize w10.setCell ⟨e, 3, none⟩ (.slice A5 v.length c5) = w11 at HKL5 HRD5 HON5 HV ⊢
      have HKL : Hid (Blk w11 e 79 #[.int .i64 (n1 : Int), .int .i64 (n2 : Int), .int .i64 (n3 : Int), .slice A5 v.length c5, .int .i64 ((n4 : Int) - 1)]) := Lib.hid (by simpa using HKL5.out)
      have HS3 := Lib.hid (HS2.out.call HBL.out hgb HRD5.out.r HON5.out)
      clear y3 f3 HKL5 HRD5 HON5 HS2
      have HOKS : Hid (okT (ls ++ [l]) = (okT ls && (decide (Tb.named (n1 : Int) (n2 : Int)) && (match ls.getLast? with | none => true | some p => decide (p.s < (n1 : Int)))))) := Lib.hid (by rw [okT_snoc, HL.out])
      obtain ⟨f0, hf0⟩ : ∃ x, (ok0 && okT ls) = x := ⟨_, rfl⟩
      have HF0 := Lib.hid hf0
      rw [hf0]
      clear hf0
      obtain ⟨nm, hnm⟩ : ∃ x, decide (Tb.named (n1 : Int) (n2 : Int)) = x := ⟨_, rfl⟩
      have CN := Lib.hid (fun w => refNamed_any w (n1 : Int) (n2 : Int))
      rw [hnm] at CN HOKS
      clear hnm
      cases f0 with
      | false =>
        have hb2 := HS3.out.blk
        unfold machC at hb2
        simp only at hb2
        have hbd : Below w11.heap.size w11 w11.drew := (Below.refl _ _).drew
        have HS : Hid ((fun w' => Blk w' g 31 #[.slice A0 reg.length c0, .slice A1 acc.length c1, .slice A2 lk.length c2, .slice A3 ps.length c3, .slice At ls.length ct] ∧ Blk w' e 79 #[.int .i64 (n1 : Int), .int .i64 (n2 : Int), .int .i64 (n3 : Int), .slice A5 v.length c5, .int .i64 ((n4 : Int) - 1)]) w11.drew) := Lib.hid ⟨hb2.below hbd, HKL.out.below hbd⟩
        have HS4 := Lib.hid (HS3.out.below HBL.out hbd)
        have HV4 := Lib.hid (own_below HV.out hbd)
        refine wp_region_held_drew (S := fun w' => Blk w' g 31 #[.slice A0 reg.length c0, .slice A1 acc.length c1, .slice A2 lk.length c2, .slice A3 ps.length c3, .slice At ls.length ct] ∧ Blk w' e 79 #[.int .i64 (n1 : Int), .int .i64 (n2 : Int), .int .i64 (n3 : Int), .slice A5 v.length c5, .int .i64 ((n4 : Int) - 1)]) (by kernel_rfl) HS.out (fun _ => ?_)
        clear hbd hb2 HS3 HV HKL
        generalize w11.drew = w12 at HS HS4 HV4 ⊢
        refine wpAnyH_take (i := 0) (v := .bool false) rfl (by kernel_rfl) (by kernel_rfl) (by kernel_rfl) (fun _ _ _ h => h) (Or.inl ⟨by kernel_rfl, fun w _ => by go_simp⟩) HS.out ?_
        refine wpAnyH_ready (rs := [1]) (by kernel_rfl) (by simp) ?_
        refine AllReadyH.cons rfl (fun K hK => ?_) AllReadyH.nil
        go_simp
        refine hK.out _ _ HS.out (fun _ => ?_)
        clear hK K
        refine wpAnyH_take (i := 2) (v := undef) rfl (by kernel_rfl) (by kernel_rfl) (by kernel_rfl) (fun _ _ _ h => h) (Or.inr ⟨by kernel_rfl, rfl⟩) HS.out ?_
        refine wpAnyH_take (i := 3) (v := undef) rfl (by kernel_rfl) (by kernel_rfl) (by kernel_rfl) (fun _ _ _ h => h) (Or.inr ⟨by kernel_rfl, rfl⟩) HS.out ?_
        refine wpAnyH_take (i := 4) (v := undef) rfl (by kernel_rfl) (by kernel_rfl) (by kernel_rfl) (fun _ _ _ h => h) (Or.inr ⟨by kernel_rfl, rfl⟩) HS.out ?_
        refine wpAnyH_take (i := 5) (v := undef) rfl (by kernel_rfl) (by kernel_rfl) (by kernel_rfl) (fun _ _ _ h => h) (Or.inr ⟨by kernel_rfl, rfl⟩) HS.out ?_
        refine wpAnyH_take (i := 6) (v := undef) rfl (by kernel_rfl) (by kernel_rfl) (by kernel_rfl) (fun _ _ _ h => h) (Or.inr ⟨by kernel_rfl, rfl⟩) HS.out ?_
        refine wpAnyH_ready (rs := [7]) (by kernel_rfl) (by simp) ?_
        refine AllReadyH.cons rfl (fun K hK => ?_) AllReadyH.nil
        go_simp
        refine hK.out _ _ HS.out (fun _ => ?_)
        clear hK K
        refine wpAnyH_ready (rs := [8]) (by kernel_rfl) (by simp) ?_
        refine AllReadyH.cons rfl (fun K hK => ?_) AllReadyH.nil
        go_simp
        refine hK.out _ _ HS.out (fun _ => ?_)
        clear hK K
        refine wpAnyH_take (i := 9) (v := undef) rfl (by kernel_rfl) (by kernel_rfl) (by kernel_rfl) (fun _ _ _ h => h) (Or.inr ⟨by kernel_rfl, rfl⟩) HS.out ?_
        refine wpAnyH_take (i := 10) (v := undef) rfl (by kernel_rfl) (by kernel_rfl) (by kernel_rfl) (fun _ _ _ h => h) (Or.inr ⟨by kernel_rfl, rfl⟩) HS.out ?_
        refine wpAnyH_take (i := 11) (v := undef) rfl (by kernel_rfl) (by kernel_rfl) (by kernel_rfl) (fun _ _ _ h => h) (Or.inr ⟨by kernel_rfl, rfl⟩) HS.out ?_
        refine wpAnyH_take (i := 12) (v := undef) rfl (by kernel_rfl) (by kernel_rfl) (by kernel_rfl) (fun _ _ _ h => h) (Or.inr ⟨by kernel_rfl, rfl⟩) HS.out ?_
        refine wpAnyH_take (i := 13) (v := undef) rfl (by kernel_rfl) (by kernel_rfl) (by kernel_rfl) (fun _ _ _ h => h) (Or.inr ⟨by kernel_rfl, rfl⟩) HS.out ?_
        refine wpAnyH_take (i := 14) (v := undef) rfl (by kernel_rfl) (by kernel_rfl) (by kernel_rfl) (fun _ _ _ h => h) (Or.inr ⟨by kernel_rfl, rfl⟩) HS.out ?_
        refine wpAnyH_take (i := 15) (v := undef) rfl (by kernel_rfl) (by kernel_rfl) (by kernel_rfl) (fun _ _ _ h => h) (Or.inr ⟨by kernel_rfl, rfl⟩) HS.out ?_
        refine wpAnyH_take (i := 16) (v := undef) rfl (by kernel_rfl) (by kernel_rfl) (by kernel_rfl) (fun _ _ _ h => h) (Or.inr ⟨by kernel_rfl, rfl⟩) HS.out ?_
        refine wpAnyH_take (i := 17) (v := undef) rfl (by kernel_rfl) (by kernel_rfl) (by kernel_rfl) (fun _ _ _ h => h) (Or.inr ⟨by kernel_rfl, rfl⟩) HS.out ?_
        refine wpAnyH_take (i := 18) (v := undef) rfl (by kernel_rfl) (by kernel_rfl) (by kernel_rfl) (fun _ _ _ h => h) (Or.inr ⟨by kernel_rfl, rfl⟩) HS.out ?_
        refine wpAnyH_take (i := 19) (v := undef) rfl (by kernel_rfl) (by kernel_rfl) (by kernel_rfl) (fun _ _ _ h => h) (Or.inr ⟨by kernel_rfl, rfl⟩) HS.out ?_
        refine wpAnyH_take (i := 20) (v := undef) rfl (by kernel_rfl) (by kernel_rfl) (by kernel_rfl) (fun _ _ _ h => h) (Or.inr ⟨by kernel_rfl, rfl⟩) HS.out ?_
        refine wpAnyH_take (i := 21) (v := undef) rfl (by kernel_rfl) (by kernel_rfl) (by kernel_rfl) (fun _ _ _ h => h) (Or.inr ⟨by kernel_rfl, rfl⟩) HS.out ?_
        refine wpAnyH_take (i := 22) (v := undef) rfl (by kernel_rfl) (by kernel_rfl) (by kernel_rfl) (fun _ _ _ h => h) (Or.inr ⟨by kernel_rfl, rfl⟩) HS.out ?_
        refine wpAnyH_take (i := 23) (v := undef) rfl (by kernel_rfl) (by kernel_rfl) (by kernel_rfl) (fun _ _ _ h => h) (Or.inr ⟨by kernel_rfl, rfl⟩) HS.out ?_
        refine wpAnyH_take (i := 24) (v := undef) rfl (by kernel_rfl) (by kernel_rfl) (by kernel_rfl) (fun _ _ _ h => h) (Or.inr ⟨by kernel_rfl, rfl⟩) HS.out ?_
        refine wpAnyH_take (i := 25) (v := undef) rfl (by kernel_rfl) (by kernel_rfl) (by kernel_rfl) (fun _ _ _ h => h) (Or.inr ⟨by kernel_rfl, rfl⟩) HS.out ?_
        refine wpAnyH_take (i := 26) (v := undef) rfl (by kernel_rfl) (by kernel_rfl) (by kernel_rfl) (fun _ _ _ h => h) (Or.inr ⟨by kernel_rfl, rfl⟩) HS.out ?_
        refine wpAnyH_ready (rs := [27]) (by kernel_rfl) (by simp) ?_
        refine AllReadyH.cons rfl (fun K hK => ?_) AllReadyH.nil
        go_simp
        refine hK.out _ _ HS.out (fun _ => ?_)
        clear hK K
        refine wpAnyH_ready (rs := [28]) (by kernel_rfl) (by simp) ?_
        refine AllReadyH.cons rfl (fun K hK => ?_) AllReadyH.nil
        go_simp
        refine hK.out _ _ HS.out (fun _ => ?_)
        clear hK K
        refine wpAnyH_done (by kernel_rfl) ?_ _
        obtain ⟨x0, x1, x2, x3, x4⟩ := five (t := 31) HS.out.1
        obtain ⟨y0, y1, y2, y3, y4⟩ := five (t := 79) HS.out.2
        have HSRC : Hid (Rd (w12.alloc (.cells #[.int .i64 (n1 : Int), .int .i64 (n2 : Int), .int .i64 (n3 : Int), .slice A5 v.length c5, .int .i64 ((n4 : Int) - 1)] 79)) (w12.heap.size + 1) (some ⟨w12.heap.size, 0, none⟩) (1 * 5) (lastC A5 c5 ⟨n1, n2, n3, v, (n4 : Int) - 1⟩)) := Lib.hid (Rd.made w12 #[.int .i64 (n1 : Int), .int .i64 (n2 : Int), .int .i64 (n3 : Int), .slice A5 v.length c5, .int .i64 ((n4 : Int) - 1)] 79 (0, 0) 5 rfl)
        have bb : Below w12.heap.size w12 (w12.alloc (.cells #[.int .i64 (n1 : Int), .int .i64 (n2 : Int), .int .i64 (n3 : Int), .slice A5 v.length c5, .int .i64 ((n4 : Int) - 1)] 79)) := (Below.refl _ _).alloc (Nat.le_refl _) _
        have hst := HS4.out.below HBL.out bb
        obtain ⟨vs, hq1, hq2⟩ := hst.own.t
        have hrow : (w12.alloc (.cells #[.int .i64 (n1 : Int), .int .i64 (n2 : Int), .int .i64 (n3 : Int), .slice A5 v.length c5, .int .i64 ((n4 : Int) - 1)] 79)).ownsRow w.heap.size 79 5 (.slice At ls.length ct) ls.length vs := hq1
        have hss := hst.rd.size
        have HSS := Lib.hid hss
        have HROW := Lib.hid hrow
        have HPOST : Hid (∀ A7 c7 w13, w13.ownsRow w.heap.size 79 5 (.slice A7 (ls.length + 1) c7) (ls.length + 1) (vs ++ lastC A5 c5 ⟨n1, n2, n3, v, (n4 : Int) - 1⟩) → (w12.alloc (.cells #[.int .i64 (n1 : Int), .int .i64 (n2 : Int), .int .i64 (n3 : Int), .slice A5 v.length c5, .int .i64 ((n4 : Int) - 1)] 79)).grownBy w13 (Value.slice At ls.length ct).ownBlock → Hid (Blk w13 g 31 #[.slice A0 reg.length c0, .slice A1 acc.length c1, .slice A2 lk.length c2, .slice A3 ps.length c3, .slice At ls.length ct]) ∧ Hid (McSt w (w13.setCell ⟨g, 4, none⟩ (.slice A7 (ls.length + 1) c7)) B b g ⟨⟨A0, c0, A1, c1, A2, c2, A3, c3⟩, A7, c7⟩ ⟨⟨reg, acc, lk, ps⟩, ls ++ [l]⟩ t5)) := Lib.hid (by
          intro A7 c7 w13 ho7 hg7
          have hbw : Below w.heap.size (w12.alloc (.cells #[.int .i64 (n1 : Int), .int .i64 (n2 : Int), .int .i64 (n3 : Int), .slice A5 v.length c5, .int .i64 ((n4 : Int) - 1)] 79)) w13 := (Below.refl _ _).grown hg7 hss (fun k hk => (hrow.lt k hk).1)
          have hown : OwnM w w13 ⟨⟨A0, c0, A1, c1, A2, c2, A3, c3⟩, A7, c7⟩ ⟨⟨reg, acc, lk, ps⟩, ls ++ [l]⟩ := ⟨⟨own_grown_t hst.own.o.o0 hrow (by decide) hg7, hst.own.o.o1.grownL hrow hg7, own_grown_t hst.own.o.o2 hrow (by decide) hg7, hst.own.o.o3.grownL hrow hg7⟩, ⟨_, by rw [List.length_append]; exact ho7, by rw [HL.out]; exact OwnsL.grown (OwnsL.snoc hq2 (own_below HV4.out bb)) (by decide) hrow hg7⟩⟩
          have hres7 := hst.res.apart_own hrow (by decide) hg7
          have hblk7 := hst.blk.apart_own hrow (by decide) hg7
          have hrd7 := hst.rd.belowW hbw HBL.out
          exact ⟨Lib.hid hblk7, Lib.hid ⟨hres7.set_other (by omega), by have q := hblk7.set_ 4 (.slice A7 (ls.length + 1) c7); simpa [machC] using q, hown.set_t hblk7 (by decide) (by decide) (by decide) (by decide) (by decide), hrd7.set HBL.out (by omega)⟩⟩)
        clear bb hst hq1 hq2 hrow hss
        go_wp2_with (first
          | (at_builtin
             refine wpList_append_atS (w := w12.alloc (.cells #[.int .i64 (n1 : Int), .int .i64 (n2 : Int), .int .i64 (n3 : Int), .slice A5 v.length c5, .int .i64 ((n4 : Int) - 1)] 79)) (c' := 1) w.heap.size HSS.out cellL (.tmp 69) (.tmp 71) rfl (by rfl) rfl HROW.out rfl HSRC.out (lastC_one A5 c5 _) (by omega) (by omega) ?_
             intro A7 c7 w13 ho7 hg7
             obtain ⟨hb7, HFIN⟩ := HPOST.out A7 c7 w13 ho7 hg7
             clear x0 x1 x2 x3 x4 y0 y1 y2 y3 y4
             obtain ⟨x0, x1, x2, x3, x4⟩ := five (t := 31) hb7.out
             obtain ⟨f0', f1, f2, f3, f4⟩ := five_frozen hb7.out
             clear ho7 hg7 hb7 HPOST)
          | fail)
        go_roundw
        case rel => exact ⟨j, A7, c7, ls ++ [l], t5, by simp; omega, by go_num, congrArg Value.bool (by rw [HOKS.out]; have h := HF0.out; revert h; cases ok0 <;> cases okT ls <;> simp), HFIN, HQ2⟩
        case measure => simp only [intOf]; omega
      | true =>
        cases nm with
        | false =>
          have hb2 := HS3.out.blk
          unfold machC at hb2
          simp only at hb2
          have hbd : Below w11.heap.size w11 w11.drew := (Below.refl _ _).drew
          have HS : Hid ((fun w' => Blk w' g 31 #[.slice A0 reg.length c0, .slice A1 acc.length c1, .slice A2 lk.length c2, .slice A3 ps.length c3, .slice At ls.length ct] ∧ Blk w' e 79 #[.int .i64 (n1 : Int), .int .i64 (n2 : Int), .int .i64 (n3 : Int), .slice A5 v.length c5, .int .i64 ((n4 : Int) - 1)]) w11.drew) := Lib.hid ⟨hb2.below hbd, HKL.out.below hbd⟩
          have HS4 := Lib.hid (HS3.out.below HBL.out hbd)
          have HV4 := Lib.hid (own_below HV.out hbd)
          refine wp_region_held_drew (S := fun w' => Blk w' g 31 #[.slice A0 reg.length c0, .slice A1 acc.length c1, .slice A2 lk.length c2, .slice A3 ps.length c3, .slice At ls.length ct] ∧ Blk w' e 79 #[.int .i64 (n1 : Int), .int .i64 (n2 : Int), .int .i64 (n3 : Int), .slice A5 v.length c5, .int .i64 ((n4 : Int) - 1)]) (by kernel_rfl) HS.out (fun _ => ?_)
          clear hbd hb2 HS3 HV HKL
          generalize w11.drew = w12 at HS HS4 HV4 ⊢
          refine wpAnyH_take (i := 0) (v := .bool true) rfl (by kernel_rfl) (by kernel_rfl) (by kernel_rfl) (fun _ _ _ h => h) (Or.inl ⟨by kernel_rfl, fun w _ => by go_simp⟩) HS.out ?_
          refine wpAnyH_take (i := 1) (v := .bool true) rfl (by kernel_rfl) (by kernel_rfl) (by kernel_rfl) (fun _ _ _ h => h) (Or.inl ⟨by kernel_rfl, fun w _ => by go_simp⟩) HS.out ?_
          refine wpAnyH_take (i := 2) (v := .pointer (some ⟨e, 0, none⟩)) rfl (by kernel_rfl) (by kernel_rfl) (by kernel_rfl) (fun _ _ _ h => h) (Or.inl ⟨by kernel_rfl, fun w _ => by go_simp⟩) HS.out ?_
          refine wpAnyH_take (i := 3) (v := .int .i64 (n1 : Int)) rfl (by kernel_rfl) (by kernel_rfl) (by kernel_rfl) (fun _ _ _ h => h) (Or.inl ⟨by kernel_rfl, fun w h => by obtain ⟨q0, q1, q2, q3, q4⟩ := five (t := 79) h.2; go_simp⟩) HS.out ?_
          refine wpAnyH_take (i := 4) (v := .pointer (some ⟨e, 1, none⟩)) rfl (by kernel_rfl) (by kernel_rfl) (by kernel_rfl) (fun _ _ _ h => h) (Or.inl ⟨by kernel_rfl, fun w _ => by go_simp⟩) HS.out ?_
          refine wpAnyH_take (i := 5) (v := .int .i64 (n2 : Int)) rfl (by kernel_rfl) (by kernel_rfl) (by kernel_rfl) (fun _ _ _ h => h) (Or.inl ⟨by kernel_rfl, fun w h => by obtain ⟨q0, q1, q2, q3, q4⟩ := five (t := 79) h.2; go_simp⟩) HS.out ?_
          refine wpAnyH_ready (rs := [6]) (by kernel_rfl) (by simp) ?_
          refine AllReadyH.cons rfl (fun K hK => ?_) AllReadyH.nil
          go_simp
          refine (CN.out _).mono ?_
          rintro en w13 ⟨rfl, rfl⟩
          go_simp
          refine hK.out _ _ HS.out (fun _ => ?_)
          clear hK K
          refine wpAnyH_ready (rs := [7]) (by kernel_rfl) (by simp) ?_
          refine AllReadyH.cons rfl (fun K hK => ?_) AllReadyH.nil
          go_simp
          refine hK.out _ _ HS.out (fun _ => ?_)
          clear hK K
          refine wpAnyH_ready (rs := [8]) (by kernel_rfl) (by simp) ?_
          refine AllReadyH.cons rfl (fun K hK => ?_) AllReadyH.nil
          go_simp
          refine hK.out _ _ HS.out (fun _ => ?_)
          clear hK K
          refine wpAnyH_take (i := 9) (v := undef) rfl (by kernel_rfl) (by kernel_rfl) (by kernel_rfl) (fun _ _ _ h => h) (Or.inr ⟨by kernel_rfl, rfl⟩) HS.out ?_
          refine wpAnyH_take (i := 10) (v := undef) rfl (by kernel_rfl) (by kernel_rfl) (by kernel_rfl) (fun _ _ _ h => h) (Or.inr ⟨by kernel_rfl, rfl⟩) HS.out ?_
          refine wpAnyH_take (i := 11) (v := undef) rfl (by kernel_rfl) (by kernel_rfl) (by kernel_rfl) (fun _ _ _ h => h) (Or.inr ⟨by kernel_rfl, rfl⟩) HS.out ?_
          refine wpAnyH_take (i := 12) (v := undef) rfl (by kernel_rfl) (by kernel_rfl) (by kernel_rfl) (fun _ _ _ h => h) (Or.inr ⟨by kernel_rfl, rfl⟩) HS.out ?_
          refine wpAnyH_take (i := 13) (v := undef) rfl (by kernel_rfl) (by kernel_rfl) (by kernel_rfl) (fun _ _ _ h => h) (Or.inr ⟨by kernel_rfl, rfl⟩) HS.out ?_
          refine wpAnyH_take (i := 14) (v := undef) rfl (by kernel_rfl) (by kernel_rfl) (by kernel_rfl) (fun _ _ _ h => h) (Or.inr ⟨by kernel_rfl, rfl⟩) HS.out ?_
          refine wpAnyH_take (i := 15) (v := undef) rfl (by kernel_rfl) (by kernel_rfl) (by kernel_rfl) (fun _ _ _ h => h) (Or.inr ⟨by kernel_rfl, rfl⟩) HS.out ?_
          refine wpAnyH_take (i := 16) (v := undef) rfl (by kernel_rfl) (by kernel_rfl) (by kernel_rfl) (fun _ _ _ h => h) (Or.inr ⟨by kernel_rfl, rfl⟩) HS.out ?_
          refine wpAnyH_take (i := 17) (v := undef) rfl (by kernel_rfl) (by kernel_rfl) (by kernel_rfl) (fun _ _ _ h => h) (Or.inr ⟨by kernel_rfl, rfl⟩) HS.out ?_
          refine wpAnyH_take (i := 18) (v := undef) rfl (by kernel_rfl) (by kernel_rfl) (by kernel_rfl) (fun _ _ _ h => h) (Or.inr ⟨by kernel_rfl, rfl⟩) HS.out ?_
          refine wpAnyH_take (i := 19) (v := undef) rfl (by kernel_rfl) (by kernel_rfl) (by kernel_rfl) (fun _ _ _ h => h) (Or.inr ⟨by kernel_rfl, rfl⟩) HS.out ?_
          refine wpAnyH_take (i := 20) (v := undef) rfl (by kernel_rfl) (by kernel_rfl) (by kernel_rfl) (fun _ _ _ h => h) (Or.inr ⟨by kernel_rfl, rfl⟩) HS.out ?_
          refine wpAnyH_take (i := 21) (v := undef) rfl (by kernel_rfl) (by kernel_rfl) (by kernel_rfl) (fun _ _ _ h => h) (Or.inr ⟨by kernel_rfl, rfl⟩) HS.out ?_
          refine wpAnyH_take (i := 22) (v := undef) rfl (by kernel_rfl) (by kernel_rfl) (by kernel_rfl) (fun _ _ _ h => h) (Or.inr ⟨by kernel_rfl, rfl⟩) HS.out ?_
          refine wpAnyH_take (i := 23) (v := undef) rfl (by kernel_rfl) (by kernel_rfl) (by kernel_rfl) (fun _ _ _ h => h) (Or.inr ⟨by kernel_rfl, rfl⟩) HS.out ?_
          refine wpAnyH_take (i := 24) (v := undef) rfl (by kernel_rfl) (by kernel_rfl) (by kernel_rfl) (fun _ _ _ h => h) (Or.inr ⟨by kernel_rfl, rfl⟩) HS.out ?_
          refine wpAnyH_take (i := 25) (v := undef) rfl (by kernel_rfl) (by kernel_rfl) (by kernel_rfl) (fun _ _ _ h => h) (Or.inr ⟨by kernel_rfl, rfl⟩) HS.out ?_
          refine wpAnyH_take (i := 26) (v := undef) rfl (by kernel_rfl) (by kernel_rfl) (by kernel_rfl) (fun _ _ _ h => h) (Or.inr ⟨by kernel_rfl, rfl⟩) HS.out ?_
          refine wpAnyH_ready (rs := [27]) (by kernel_rfl) (by simp) ?_
          refine AllReadyH.cons rfl (fun K hK => ?_) AllReadyH.nil
          go_simp
          refine hK.out _ _ HS.out (fun _ => ?_)
          clear hK K
          refine wpAnyH_ready (rs := [28]) (by kernel_rfl) (by simp) ?_
          refine AllReadyH.cons rfl (fun K hK => ?_) AllReadyH.nil
          go_simp
          refine hK.out _ _ HS.out (fun _ => ?_)
          clear hK K
          refine wpAnyH_done (by kernel_rfl) ?_ _
          obtain ⟨x0, x1, x2, x3, x4⟩ := five (t := 31) HS.out.1
          obtain ⟨y0, y1, y2, y3, y4⟩ := five (t := 79) HS.out.2
          have HSRC : Hid (Rd (w12.alloc (.cells #[.int .i64 (n1 : Int), .int .i64 (n2 : Int), .int .i64 (n3 : Int), .slice A5 v.length c5, .int .i64 ((n4 : Int) - 1)] 79)) (w12.heap.size + 1) (some ⟨w12.heap.size, 0, none⟩) (1 * 5) (lastC A5 c5 ⟨n1, n2, n3, v, (n4 : Int) - 1⟩)) := Lib.hid (Rd.made w12 #[.int .i64 (n1 : Int), .int .i64 (n2 : Int), .int .i64 (n3 : Int), .slice A5 v.length c5, .int .i64 ((n4 : Int) - 1)] 79 (0, 0) 5 rfl)
          have bb : Below w12.heap.size w12 (w12.alloc (.cells #[.int .i64 (n1 : Int), .int .i64 (n2 : Int), .int .i64 (n3 : Int), .slice A5 v.length c5, .int .i64 ((n4 : Int) - 1)] 79)) := (Below.refl _ _).alloc (Nat.le_refl _) _
          have hst := HS4.out.below HBL.out bb
          obtain ⟨vs, hq1, hq2⟩ := hst.own.t
          have hrow : (w12.alloc (.cells #[.int .i64 (n1 : Int), .int .i64 (n2 : Int), .int .i64 (n3 : Int), .slice A5 v.length c5, .int .i64 ((n4 : Int) - 1)] 79)).ownsRow w.heap.size 79 5 (.slice At ls.length ct) ls.length vs := hq1
          have hss := hst.rd.size
          have HSS := Lib.hid hss
          have HROW := Lib.hid hrow
          have HPOST : Hid (∀ A7 c7 w13, w13.ownsRow w.heap.size 79 5 (.slice A7 (ls.length + 1) c7) (ls.length + 1) (vs ++ lastC A5 c5 ⟨n1, n2, n3, v, (n4 : Int) - 1⟩) → (w12.alloc (.cells #[.int .i64 (n1 : Int), .int .i64 (n2 : Int), .int .i64 (n3 : Int), .slice A5 v.length c5, .int .i64 ((n4 : Int) - 1)] 79)).grownBy w13 (Value.slice At ls.length ct).ownBlock → Hid (Blk w13 g 31 #[.slice A0 reg.length c0, .slice A1 acc.length c1, .slice A2 lk.length c2, .slice A3 ps.length c3, .slice At ls.length ct]) ∧ Hid (McSt w (w13.setCell ⟨g, 4, none⟩ (.slice A7 (ls.length + 1) c7)) B b g ⟨⟨A0, c0, A1, c1, A2, c2, A3, c3⟩, A7, c7⟩ ⟨⟨reg, acc, lk, ps⟩, ls ++ [l]⟩ t5)) := Lib.hid (by
            intro A7 c7 w13 ho7 hg7
            have hbw : Below w.heap.size (w12.alloc (.cells #[.int .i64 (n1 : Int), .int .i64 (n2 : Int), .int .i64 (n3 : Int), .slice A5 v.length c5, .int .i64 ((n4 : Int) - 1)] 79)) w13 := (Below.refl _ _).grown hg7 hss (fun k hk => (hrow.lt k hk).1)
            have hown : OwnM w w13 ⟨⟨A0, c0, A1, c1, A2, c2, A3, c3⟩, A7, c7⟩ ⟨⟨reg, acc, lk, ps⟩, ls ++ [l]⟩ := ⟨⟨own_grown_t hst.own.o.o0 hrow (by decide) hg7, hst.own.o.o1.grownL hrow hg7, own_grown_t hst.own.o.o2 hrow (by decide) hg7, hst.own.o.o3.grownL hrow hg7⟩, ⟨_, by rw [List.length_append]; exact ho7, by rw [HL.out]; exact OwnsL.grown (OwnsL.snoc hq2 (own_below HV4.out bb)) (by decide) hrow hg7⟩⟩
            have hres7 := hst.res.apart_own hrow (by decide) hg7
            have hblk7 := hst.blk.apart_own hrow (by decide) hg7
            have hrd7 := hst.rd.belowW hbw HBL.out
            exact ⟨Lib.hid hblk7, Lib.hid ⟨hres7.set_other (by omega), by have q := hblk7.set_ 4 (.slice A7 (ls.length + 1) c7); simpa [machC] using q, hown.set_t hblk7 (by decide) (by decide) (by decide) (by decide) (by decide), hrd7.set HBL.out (by omega)⟩⟩)
          clear bb hst hq1 hq2 hrow hss
          go_wp2_with (first
            | (at_builtin
               refine wpList_append_atS (w := w12.alloc (.cells #[.int .i64 (n1 : Int), .int .i64 (n2 : Int), .int .i64 (n3 : Int), .slice A5 v.length c5, .int .i64 ((n4 : Int) - 1)] 79)) (c' := 1) w.heap.size HSS.out cellL (.tmp 69) (.tmp 71) rfl (by rfl) rfl HROW.out rfl HSRC.out (lastC_one A5 c5 _) (by omega) (by omega) ?_
               intro A7 c7 w13 ho7 hg7
               obtain ⟨hb7, HFIN⟩ := HPOST.out A7 c7 w13 ho7 hg7
               clear x0 x1 x2 x3 x4 y0 y1 y2 y3 y4
               obtain ⟨x0, x1, x2, x3, x4⟩ := five (t := 31) hb7.out
               obtain ⟨f0', f1, f2, f3, f4⟩ := five_frozen hb7.out
               clear ho7 hg7 hb7 HPOST)
            | fail)
          go_roundw
          case rel => exact ⟨j, A7, c7, ls ++ [l], t5, by simp; omega, by go_num, congrArg Value.bool (by rw [HOKS.out]; have h := HF0.out; revert h; cases ok0 <;> cases okT ls <;> simp), HFIN, HQ2⟩
          case measure => simp only [intOf]; omega
        | true =>
          by_cases hps : ls.length = 0
          · have hpi : ((ls.length : Int) == 0) = true := by simpa using hps
            have HGL : Hid (ls.getLast? = none) := Lib.hid (by rw [List.length_eq_zero_iff.1 hps]; rfl)
            clear hps
            have hb2 := HS3.out.blk
            unfold machC at hb2
            simp only at hb2
            have hbd : Below w11.heap.size w11 w11.drew := (Below.refl _ _).drew
            have HS : Hid ((fun w' => Blk w' g 31 #[.slice A0 reg.length c0, .slice A1 acc.length c1, .slice A2 lk.length c2, .slice A3 ps.length c3, .slice At ls.length ct] ∧ Blk w' e 79 #[.int .i64 (n1 : Int), .int .i64 (n2 : Int), .int .i64 (n3 : Int), .slice A5 v.length c5, .int .i64 ((n4 : Int) - 1)]) w11.drew) := Lib.hid ⟨hb2.below hbd, HKL.out.below hbd⟩
            have HS4 := Lib.hid (HS3.out.below HBL.out hbd)
            have HV4 := Lib.hid (own_below HV.out hbd)
            refine wp_region_held_drew (S := fun w' => Blk w' g 31 #[.slice A0 reg.length c0, .slice A1 acc.length c1, .slice A2 lk.length c2, .slice A3 ps.length c3, .slice At ls.length ct] ∧ Blk w' e 79 #[.int .i64 (n1 : Int), .int .i64 (n2 : Int), .int .i64 (n3 : Int), .slice A5 v.length c5, .int .i64 ((n4 : Int) - 1)]) (by kernel_rfl) HS.out (fun _ => ?_)
            clear hbd hb2 HS3 HV HKL
            generalize w11.drew = w12 at HS HS4 HV4 ⊢
            refine wpAnyH_take (i := 0) (v := .bool true) rfl (by kernel_rfl) (by kernel_rfl) (by kernel_rfl) (fun _ _ _ h => h) (Or.inl ⟨by kernel_rfl, fun w _ => by go_simp⟩) HS.out ?_
            refine wpAnyH_take (i := 1) (v := .bool true) rfl (by kernel_rfl) (by kernel_rfl) (by kernel_rfl) (fun _ _ _ h => h) (Or.inl ⟨by kernel_rfl, fun w _ => by go_simp⟩) HS.out ?_
            refine wpAnyH_take (i := 2) (v := .pointer (some ⟨e, 0, none⟩)) rfl (by kernel_rfl) (by kernel_rfl) (by kernel_rfl) (fun _ _ _ h => h) (Or.inl ⟨by kernel_rfl, fun w _ => by go_simp⟩) HS.out ?_
            refine wpAnyH_take (i := 3) (v := .int .i64 (n1 : Int)) rfl (by kernel_rfl) (by kernel_rfl) (by kernel_rfl) (fun _ _ _ h => h) (Or.inl ⟨by kernel_rfl, fun w h => by obtain ⟨q0, q1, q2, q3, q4⟩ := five (t := 79) h.2; go_simp⟩) HS.out ?_
            refine wpAnyH_take (i := 4) (v := .pointer (some ⟨e, 1, none⟩)) rfl (by kernel_rfl) (by kernel_rfl) (by kernel_rfl) (fun _ _ _ h => h) (Or.inl ⟨by kernel_rfl, fun w _ => by go_simp⟩) HS.out ?_
            refine wpAnyH_take (i := 5) (v := .int .i64 (n2 : Int)) rfl (by kernel_rfl) (by kernel_rfl) (by kernel_rfl) (fun _ _ _ h => h) (Or.inl ⟨by kernel_rfl, fun w h => by obtain ⟨q0, q1, q2, q3, q4⟩ := five (t := 79) h.2; go_simp⟩) HS.out ?_
            refine wpAnyH_ready (rs := [6]) (by kernel_rfl) (by simp) ?_
            refine AllReadyH.cons rfl (fun K hK => ?_) AllReadyH.nil
            go_simp
            refine (CN.out _).mono ?_
            rintro en w13 ⟨rfl, rfl⟩
            go_simp
            refine hK.out _ _ HS.out (fun _ => ?_)
            clear hK K
            refine wpAnyH_take (i := 7) (v := .bool true) rfl (by kernel_rfl) (by kernel_rfl) (by kernel_rfl) (fun _ _ _ h => h) (Or.inl ⟨by kernel_rfl, fun w _ => by go_simp⟩) HS.out ?_
            refine wpAnyH_take (i := 8) (v := .bool true) rfl (by kernel_rfl) (by kernel_rfl) (by kernel_rfl) (fun _ _ _ h => h) (Or.inl ⟨by kernel_rfl, fun w _ => by go_simp⟩) HS.out ?_
            refine wpAnyH_take (i := 9) (v := .pointer (some ⟨g, 4, none⟩)) rfl (by kernel_rfl) (by kernel_rfl) (by kernel_rfl) (fun _ _ _ h => h) (Or.inl ⟨by kernel_rfl, fun w _ => by go_simp⟩) HS.out ?_
            refine wpAnyH_take (i := 10) (v := .slice At ls.length ct) rfl (by kernel_rfl) (by kernel_rfl) (by kernel_rfl) (fun _ _ _ h => h) (Or.inl ⟨by kernel_rfl, fun w h => by obtain ⟨q0, q1, q2, q3, q4⟩ := five (t := 31) h.1; go_simp⟩) HS.out ?_
            refine wpAnyH_take (i := 11) (v := .int .i64 (ls.length : Int)) rfl (by kernel_rfl) (by kernel_rfl) (by kernel_rfl) (fun _ _ _ h => h) (Or.inl ⟨by kernel_rfl, fun w _ => by go_simp⟩) HS.out ?_
            refine wpAnyH_take (i := 12) (v := .bool true) rfl (by kernel_rfl) (by kernel_rfl) (by kernel_rfl) (fun _ _ _ h => h) (Or.inl ⟨by kernel_rfl, fun w _ => by go_simp⟩) HS.out ?_
            refine wpAnyH_ready (rs := [13]) (by kernel_rfl) (by simp) ?_
            refine AllReadyH.cons rfl (fun K hK => ?_) AllReadyH.nil
            go_simp
            refine hK.out _ _ HS.out (fun _ => ?_)
            clear hK K
            refine wpAnyH_take (i := 14) (v := undef) rfl (by kernel_rfl) (by kernel_rfl) (by kernel_rfl) (fun _ _ _ h => h) (Or.inr ⟨by kernel_rfl, rfl⟩) HS.out ?_
            refine wpAnyH_take (i := 15) (v := undef) rfl (by kernel_rfl) (by kernel_rfl) (by kernel_rfl) (fun _ _ _ h => h) (Or.inr ⟨by kernel_rfl, rfl⟩) HS.out ?_
            refine wpAnyH_take (i := 16) (v := undef) rfl (by kernel_rfl) (by kernel_rfl) (by kernel_rfl) (fun _ _ _ h => h) (Or.inr ⟨by kernel_rfl, rfl⟩) HS.out ?_
            refine wpAnyH_take (i := 17) (v := undef) rfl (by kernel_rfl) (by kernel_rfl) (by kernel_rfl) (fun _ _ _ h => h) (Or.inr ⟨by kernel_rfl, rfl⟩) HS.out ?_
            refine wpAnyH_take (i := 18) (v := undef) rfl (by kernel_rfl) (by kernel_rfl) (by kernel_rfl) (fun _ _ _ h => h) (Or.inr ⟨by kernel_rfl, rfl⟩) HS.out ?_
            refine wpAnyH_take (i := 19) (v := undef) rfl (by kernel_rfl) (by kernel_rfl) (by kernel_rfl) (fun _ _ _ h => h) (Or.inr ⟨by kernel_rfl, rfl⟩) HS.out ?_
            refine wpAnyH_take (i := 20) (v := undef) rfl (by kernel_rfl) (by kernel_rfl) (by kernel_rfl) (fun _ _ _ h => h) (Or.inr ⟨by kernel_rfl, rfl⟩) HS.out ?_
            refine wpAnyH_take (i := 21) (v := undef) rfl (by kernel_rfl) (by kernel_rfl) (by kernel_rfl) (fun _ _ _ h => h) (Or.inr ⟨by kernel_rfl, rfl⟩) HS.out ?_
            refine wpAnyH_take (i := 22) (v := undef) rfl (by kernel_rfl) (by kernel_rfl) (by kernel_rfl) (fun _ _ _ h => h) (Or.inr ⟨by kernel_rfl, rfl⟩) HS.out ?_
            refine wpAnyH_take (i := 23) (v := undef) rfl (by kernel_rfl) (by kernel_rfl) (by kernel_rfl) (fun _ _ _ h => h) (Or.inr ⟨by kernel_rfl, rfl⟩) HS.out ?_
            refine wpAnyH_take (i := 24) (v := undef) rfl (by kernel_rfl) (by kernel_rfl) (by kernel_rfl) (fun _ _ _ h => h) (Or.inr ⟨by kernel_rfl, rfl⟩) HS.out ?_
            refine wpAnyH_take (i := 25) (v := undef) rfl (by kernel_rfl) (by kernel_rfl) (by kernel_rfl) (fun _ _ _ h => h) (Or.inr ⟨by kernel_rfl, rfl⟩) HS.out ?_
            refine wpAnyH_ready (rs := [26]) (by kernel_rfl) (by simp) ?_
            refine AllReadyH.cons rfl (fun K hK => ?_) AllReadyH.nil
            go_simp
            refine hK.out _ _ HS.out (fun _ => ?_)
            clear hK K
            refine wpAnyH_ready (rs := [27]) (by kernel_rfl) (by simp) ?_
            refine AllReadyH.cons rfl (fun K hK => ?_) AllReadyH.nil
            go_simp
            refine hK.out _ _ HS.out (fun _ => ?_)
            clear hK K
            refine wpAnyH_ready (rs := [28]) (by kernel_rfl) (by simp) ?_
            refine AllReadyH.cons rfl (fun K hK => ?_) AllReadyH.nil
            go_simp
            refine hK.out _ _ HS.out (fun _ => ?_)
            clear hK K
            refine wpAnyH_done (by kernel_rfl) ?_ _
            obtain ⟨x0, x1, x2, x3, x4⟩ := five (t := 31) HS.out.1
            obtain ⟨y0, y1, y2, y3, y4⟩ := five (t := 79) HS.out.2
            have HSRC : Hid (Rd (w12.alloc (.cells #[.int .i64 (n1 : Int), .int .i64 (n2 : Int), .int .i64 (n3 : Int), .slice A5 v.length c5, .int .i64 ((n4 : Int) - 1)] 79)) (w12.heap.size + 1) (some ⟨w12.heap.size, 0, none⟩) (1 * 5) (lastC A5 c5 ⟨n1, n2, n3, v, (n4 : Int) - 1⟩)) := Lib.hid (Rd.made w12 #[.int .i64 (n1 : Int), .int .i64 (n2 : Int), .int .i64 (n3 : Int), .slice A5 v.length c5, .int .i64 ((n4 : Int) - 1)] 79 (0, 0) 5 rfl)
            have bb : Below w12.heap.size w12 (w12.alloc (.cells #[.int .i64 (n1 : Int), .int .i64 (n2 : Int), .int .i64 (n3 : Int), .slice A5 v.length c5, .int .i64 ((n4 : Int) - 1)] 79)) := (Below.refl _ _).alloc (Nat.le_refl _) _
            have hst := HS4.out.below HBL.out bb
            obtain ⟨vs, hq1, hq2⟩ := hst.own.t
            have hrow : (w12.alloc (.cells #[.int .i64 (n1 : Int), .int .i64 (n2 : Int), .int .i64 (n3 : Int), .slice A5 v.length c5, .int .i64 ((n4 : Int) - 1)] 79)).ownsRow w.heap.size 79 5 (.slice At ls.length ct) ls.length vs := hq1
            have hss := hst.rd.size
            have HSS := Lib.hid hss
            have HROW := Lib.hid hrow
            have HPOST : Hid (∀ A7 c7 w13, w13.ownsRow w.heap.size 79 5 (.slice A7 (ls.length + 1) c7) (ls.length + 1) (vs ++ lastC A5 c5 ⟨n1, n2, n3, v, (n4 : Int) - 1⟩) → (w12.alloc (.cells #[.int .i64 (n1 : Int), .int .i64 (n2 : Int), .int .i64 (n3 : Int), .slice A5 v.length c5, .int .i64 ((n4 : Int) - 1)] 79)).grownBy w13 (Value.slice At ls.length ct).ownBlock → Hid (Blk w13 g 31 #[.slice A0 reg.length c0, .slice A1 acc.length c1, .slice A2 lk.length c2, .slice A3 ps.length c3, .slice At ls.length ct]) ∧ Hid (McSt w (w13.setCell ⟨g, 4, none⟩ (.slice A7 (ls.length + 1) c7)) B b g ⟨⟨A0, c0, A1, c1, A2, c2, A3, c3⟩, A7, c7⟩ ⟨⟨reg, acc, lk, ps⟩, ls ++ [l]⟩ t5)) := Lib.hid (by
              intro A7 c7 w13 ho7 hg7
              have hbw : Below w.heap.size (w12.alloc (.cells #[.int .i64 (n1 : Int), .int .i64 (n2 : Int), .int .i64 (n3 : Int), .slice A5 v.length c5, .int .i64 ((n4 : Int) - 1)] 79)) w13 := (Below.refl _ _).grown hg7 hss (fun k hk => (hrow.lt k hk).1)
              have hown : OwnM w w13 ⟨⟨A0, c0, A1, c1, A2, c2, A3, c3⟩, A7, c7⟩ ⟨⟨reg, acc, lk, ps⟩, ls ++ [l]⟩ := ⟨⟨own_grown_t hst.own.o.o0 hrow (by decide) hg7, hst.own.o.o1.grownL hrow hg7, own_grown_t hst.own.o.o2 hrow (by decide) hg7, hst.own.o.o3.grownL hrow hg7⟩, ⟨_, by rw [List.length_append]; exact ho7, by rw [HL.out]; exact OwnsL.grown (OwnsL.snoc hq2 (own_below HV4.out bb)) (by decide) hrow hg7⟩⟩
              have hres7 := hst.res.apart_own hrow (by decide) hg7
              have hblk7 := hst.blk.apart_own hrow (by decide) hg7
              have hrd7 := hst.rd.belowW hbw HBL.out
              exact ⟨Lib.hid hblk7, Lib.hid ⟨hres7.set_other (by omega), by have q := hblk7.set_ 4 (.slice A7 (ls.length + 1) c7); simpa [machC] using q, hown.set_t hblk7 (by decide) (by decide) (by decide) (by decide) (by decide), hrd7.set HBL.out (by omega)⟩⟩)
            clear bb hst hq1 hq2 hrow hss
            go_wp2_with (first
              | (at_builtin
                 refine wpList_append_atS (w := w12.alloc (.cells #[.int .i64 (n1 : Int), .int .i64 (n2 : Int), .int .i64 (n3 : Int), .slice A5 v.length c5, .int .i64 ((n4 : Int) - 1)] 79)) (c' := 1) w.heap.size HSS.out cellL (.tmp 69) (.tmp 71) rfl (by rfl) rfl HROW.out rfl HSRC.out (lastC_one A5 c5 _) (by omega) (by omega) ?_
                 intro A7 c7 w13 ho7 hg7
                 obtain ⟨hb7, HFIN⟩ := HPOST.out A7 c7 w13 ho7 hg7
                 clear x0 x1 x2 x3 x4 y0 y1 y2 y3 y4
                 obtain ⟨x0, x1, x2, x3, x4⟩ := five (t := 31) hb7.out
                 obtain ⟨f0', f1, f2, f3, f4⟩ := five_frozen hb7.out
                 clear ho7 hg7 hb7 HPOST)
              | fail)
            go_roundw
            case rel => exact ⟨j, A7, c7, ls ++ [l], t5, by simp; omega, by go_num, congrArg Value.bool (by rw [HOKS.out, HGL.out]; have h := HF0.out; revert h; cases ok0 <;> cases okT ls <;> simp), HFIN, HQ2⟩
            case measure => simp only [intOf]; omega
          · obtain ⟨m, hm⟩ : ∃ m, ls.length = m + 1 := ⟨ls.length - 1, by omega⟩
            obtain ⟨b3, pl, A8, c8, hA, hpl, _, _, hcl1, _⟩ := HS3.out.own.t.at (k := m) (show m < ls.length by omega)
            have hA : At = some ⟨b3, 0, none⟩ := hA
            subst hA
            have hpl : ls[m]? = some pl := hpl
            have HGL : Hid (ls.getLast? = some pl) := Lib.hid (by rw [List.getLast?_eq_getElem?, hm]; exact hpl)
            have hpi : ((ls.length : Int) == 0) = false := by rw [hm]; simp; omega
            have hsub : IntKind.i64.wrap ((ls.length : Int) - 1) = (m : Int) := by rw [hm, show ((m + 1 : Nat) : Int) - 1 = (m : Int) by omega]; exact IntWalk.i64_in _ (by omega)
            have hml : (m : Int) < (ls.length : Int) := by omega
            have hm0 : (0 : Int) ≤ (m : Int) := by omega
            by_cases hlt : pl.s < (n1 : Int)
            · have HLT : Hid (decide (pl.s < (n1 : Int)) = true) := Lib.hid (decide_eq_true hlt)
              have hb2 := HS3.out.blk
              unfold machC at hb2
              simp only at hb2
              have hbd : Below w11.heap.size w11 w11.drew := (Below.refl _ _).drew
              have HS : Hid ((fun w' => Blk w' g 31 #[.slice A0 reg.length c0, .slice A1 acc.length c1, .slice A2 lk.length c2, .slice A3 ps.length c3, .slice (some ⟨b3, 0, none⟩) ls.length ct] ∧ Blk w' e 79 #[.int .i64 (n1 : Int), .int .i64 (n2 : Int), .int .i64 (n3 : Int), .slice A5 v.length c5, .int .i64 ((n4 : Int) - 1)] ∧ w'.cell? ⟨b3, m * 5, none⟩ = some (.int .i64 pl.s)) w11.drew) := Lib.hid ⟨hb2.below hbd, HKL.out.below hbd, (hbd.cell (p := ⟨b3, m * 5, none⟩) (World.block_lt_of_cell? _ _ hcl1)).trans hcl1⟩
              have HS4 := Lib.hid (HS3.out.below HBL.out hbd)
              have HV4 := Lib.hid (own_below HV.out hbd)
              refine wp_region_held_drew (S := fun w' => Blk w' g 31 #[.slice A0 reg.length c0, .slice A1 acc.length c1, .slice A2 lk.length c2, .slice A3 ps.length c3, .slice (some ⟨b3, 0, none⟩) ls.length ct] ∧ Blk w' e 79 #[.int .i64 (n1 : Int), .int .i64 (n2 : Int), .int .i64 (n3 : Int), .slice A5 v.length c5, .int .i64 ((n4 : Int) - 1)] ∧ w'.cell? ⟨b3, m * 5, none⟩ = some (.int .i64 pl.s)) (by kernel_rfl) HS.out (fun _ => ?_)
              clear hbd hb2 HS3 HV HKL hps hpl hcl1 hm
              generalize w11.drew = w12 at HS HS4 HV4 ⊢
              refine wpAnyH_take (i := 0) (v := .bool true) rfl (by kernel_rfl) (by kernel_rfl) (by kernel_rfl) (fun _ _ _ h => h) (Or.inl ⟨by kernel_rfl, fun w _ => by go_simp⟩) HS.out ?_
              refine wpAnyH_take (i := 1) (v := .bool true) rfl (by kernel_rfl) (by kernel_rfl) (by kernel_rfl) (fun _ _ _ h => h) (Or.inl ⟨by kernel_rfl, fun w _ => by go_simp⟩) HS.out ?_
              refine wpAnyH_take (i := 2) (v := .pointer (some ⟨e, 0, none⟩)) rfl (by kernel_rfl) (by kernel_rfl) (by kernel_rfl) (fun _ _ _ h => h) (Or.inl ⟨by kernel_rfl, fun w _ => by go_simp⟩) HS.out ?_
              refine wpAnyH_take (i := 3) (v := .int .i64 (n1 : Int)) rfl (by kernel_rfl) (by kernel_rfl) (by kernel_rfl) (fun _ _ _ h => h) (Or.inl ⟨by kernel_rfl, fun w h => by obtain ⟨q0, q1, q2, q3, q4⟩ := five (t := 79) h.2.1; go_simp⟩) HS.out ?_
              refine wpAnyH_take (i := 4) (v := .pointer (some ⟨e, 1, none⟩)) rfl (by kernel_rfl) (by kernel_rfl) (by kernel_rfl) (fun _ _ _ h => h) (Or.inl ⟨by kernel_rfl, fun w _ => by go_simp⟩) HS.out ?_
              refine wpAnyH_take (i := 5) (v := .int .i64 (n2 : Int)) rfl (by kernel_rfl) (by kernel_rfl) (by kernel_rfl) (fun _ _ _ h => h) (Or.inl ⟨by kernel_rfl, fun w h => by obtain ⟨q0, q1, q2, q3, q4⟩ := five (t := 79) h.2.1; go_simp⟩) HS.out ?_
              refine wpAnyH_ready (rs := [6]) (by kernel_rfl) (by simp) ?_
              refine AllReadyH.cons rfl (fun K hK => ?_) AllReadyH.nil
              go_simp
              refine (CN.out _).mono ?_
              rintro en w13 ⟨rfl, rfl⟩
              go_simp
              refine hK.out _ _ HS.out (fun _ => ?_)
              clear hK K
              refine wpAnyH_take (i := 7) (v := .bool true) rfl (by kernel_rfl) (by kernel_rfl) (by kernel_rfl) (fun _ _ _ h => h) (Or.inl ⟨by kernel_rfl, fun w _ => by go_simp⟩) HS.out ?_
              refine wpAnyH_take (i := 8) (v := .bool true) rfl (by kernel_rfl) (by kernel_rfl) (by kernel_rfl) (fun _ _ _ h => h) (Or.inl ⟨by kernel_rfl, fun w _ => by go_simp⟩) HS.out ?_
              refine wpAnyH_take (i := 9) (v := .pointer (some ⟨g, 4, none⟩)) rfl (by kernel_rfl) (by kernel_rfl) (by kernel_rfl) (fun _ _ _ h => h) (Or.inl ⟨by kernel_rfl, fun w _ => by go_simp⟩) HS.out ?_
              refine wpAnyH_take (i := 10) (v := .slice (some ⟨b3, 0, none⟩) ls.length ct) rfl (by kernel_rfl) (by kernel_rfl) (by kernel_rfl) (fun _ _ _ h => h) (Or.inl ⟨by kernel_rfl, fun w h => by obtain ⟨q0, q1, q2, q3, q4⟩ := five (t := 31) h.1; go_simp⟩) HS.out ?_
              refine wpAnyH_take (i := 11) (v := .int .i64 (ls.length : Int)) rfl (by kernel_rfl) (by kernel_rfl) (by kernel_rfl) (fun _ _ _ h => h) (Or.inl ⟨by kernel_rfl, fun w _ => by go_simp⟩) HS.out ?_
              refine wpAnyH_take (i := 12) (v := .bool false) rfl (by kernel_rfl) (by kernel_rfl) (by kernel_rfl) (fun _ _ _ h => h) (Or.inl ⟨by kernel_rfl, fun w _ => by go_simp⟩) HS.out ?_
              refine wpAnyH_ready (rs := [13]) (by kernel_rfl) (by simp) ?_
              refine AllReadyH.cons rfl (fun K hK => ?_) AllReadyH.nil
              go_simp
              refine hK.out _ _ HS.out (fun _ => ?_)
              clear hK K
              refine wpAnyH_take (i := 14) (v := .pointer (some ⟨g, 4, none⟩)) rfl (by kernel_rfl) (by kernel_rfl) (by kernel_rfl) (fun _ _ _ h => h) (Or.inl ⟨by kernel_rfl, fun w _ => by go_simp⟩) HS.out ?_
              refine wpAnyH_take (i := 16) (v := .pointer (some ⟨g, 4, none⟩)) rfl (by kernel_rfl) (by kernel_rfl) (by kernel_rfl) (fun _ _ _ h => h) (Or.inl ⟨by kernel_rfl, fun w _ => by go_simp⟩) HS.out ?_
              refine wpAnyH_take (i := 15) (v := .slice (some ⟨b3, 0, none⟩) ls.length ct) rfl (by kernel_rfl) (by kernel_rfl) (by kernel_rfl) (fun _ _ _ h => h) (Or.inl ⟨by kernel_rfl, fun w h => by obtain ⟨q0, q1, q2, q3, q4⟩ := five (t := 31) h.1; go_simp⟩) HS.out ?_
              refine wpAnyH_take (i := 17) (v := .slice (some ⟨b3, 0, none⟩) ls.length ct) rfl (by kernel_rfl) (by kernel_rfl) (by kernel_rfl) (fun _ _ _ h => h) (Or.inl ⟨by kernel_rfl, fun w h => by obtain ⟨q0, q1, q2, q3, q4⟩ := five (t := 31) h.1; go_simp⟩) HS.out ?_
              refine wpAnyH_take (i := 18) (v := .int .i64 (ls.length : Int)) rfl (by kernel_rfl) (by kernel_rfl) (by kernel_rfl) (fun _ _ _ h => h) (Or.inl ⟨by kernel_rfl, fun w _ => by go_simp⟩) HS.out ?_
              refine wpAnyH_take (i := 19) (v := .int .i64 (m : Int)) rfl (by kernel_rfl) (by kernel_rfl) (by kernel_rfl) (fun _ _ _ h => h) (Or.inl ⟨by kernel_rfl, fun w _ => by go_simp⟩) HS.out ?_
              refine wpAnyH_take (i := 20) (v := .pointer (some ⟨b3, m * 5, none⟩)) rfl (by kernel_rfl) (by kernel_rfl) (by kernel_rfl) (fun _ _ _ h => h) (Or.inl ⟨by kernel_rfl, fun w _ => by go_simp⟩) HS.out ?_
              refine wpAnyH_take (i := 21) (v := .pointer (some ⟨b3, m * 5, none⟩)) rfl (by kernel_rfl) (by kernel_rfl) (by kernel_rfl) (fun _ _ _ h => h) (Or.inl ⟨by kernel_rfl, fun w _ => by go_simp⟩) HS.out ?_
              refine wpAnyH_take (i := 22) (v := .int .i64 pl.s) rfl (by kernel_rfl) (by kernel_rfl) (by kernel_rfl) (fun _ _ _ h => h) (Or.inl ⟨by kernel_rfl, fun w h => by have q := h.2.2; go_simp⟩) HS.out ?_
              refine wpAnyH_take (i := 23) (v := .pointer (some ⟨e, 0, none⟩)) rfl (by kernel_rfl) (by kernel_rfl) (by kernel_rfl) (fun _ _ _ h => h) (Or.inl ⟨by kernel_rfl, fun w _ => by go_simp⟩) HS.out ?_
              refine wpAnyH_take (i := 24) (v := .int .i64 (n1 : Int)) rfl (by kernel_rfl) (by kernel_rfl) (by kernel_rfl) (fun _ _ _ h => h) (Or.inl ⟨by kernel_rfl, fun w h => by obtain ⟨q0, q1, q2, q3, q4⟩ := five (t := 79) h.2.1; go_simp⟩) HS.out ?_
              refine wpAnyH_take (i := 25) (v := .bool true) rfl (by kernel_rfl) (by kernel_rfl) (by kernel_rfl) (fun _ _ _ h => h) (Or.inl ⟨by kernel_rfl, fun w _ => by go_simp⟩) HS.out ?_
              refine wpAnyH_ready (rs := [26]) (by kernel_rfl) (by simp) ?_
              refine AllReadyH.cons rfl (fun K hK => ?_) AllReadyH.nil
              go_simp
              refine hK.out _ _ HS.out (fun _ => ?_)
              clear hK K
              refine wpAnyH_ready (rs := [27]) (by kernel_rfl) (by simp) ?_
              refine AllReadyH.cons rfl (fun K hK => ?_) AllReadyH.nil
              go_simp
              refine hK.out _ _ HS.out (fun _ => ?_)
              clear hK K
              refine wpAnyH_ready (rs := [28]) (by kernel_rfl) (by simp) ?_
              refine AllReadyH.cons rfl (fun K hK => ?_) AllReadyH.nil
              go_simp
              refine hK.out _ _ HS.out (fun _ => ?_)
              clear hK K
              refine wpAnyH_done (by kernel_rfl) ?_ _
              obtain ⟨x0, x1, x2, x3, x4⟩ := five (t := 31) HS.out.1
              obtain ⟨y0, y1, y2, y3, y4⟩ := five (t := 79) HS.out.2.1
              have HSRC : Hid (Rd (w12.alloc (.cells #[.int .i64 (n1 : Int), .int .i64 (n2 : Int), .int .i64 (n3 : Int), .slice A5 v.length c5, .int .i64 ((n4 : Int) - 1)] 79)) (w12.heap.size + 1) (some ⟨w12.heap.size, 0, none⟩) (1 * 5) (lastC A5 c5 ⟨n1, n2, n3, v, (n4 : Int) - 1⟩)) := Lib.hid (Rd.made w12 #[.int .i64 (n1 : Int), .int .i64 (n2 : Int), .int .i64 (n3 : Int), .slice A5 v.length c5, .int .i64 ((n4 : Int) - 1)] 79 (0, 0) 5 rfl)
              have bb : Below w12.heap.size w12 (w12.alloc (.cells #[.int .i64 (n1 : Int), .int .i64 (n2 : Int), .int .i64 (n3 : Int), .slice A5 v.length c5, .int .i64 ((n4 : Int) - 1)] 79)) := (Below.refl _ _).alloc (Nat.le_refl _) _
              have hst := HS4.out.below HBL.out bb
              obtain ⟨vs, hq1, hq2⟩ := hst.own.t
              have hrow : (w12.alloc (.cells #[.int .i64 (n1 : Int), .int .i64 (n2 : Int), .int .i64 (n3 : Int), .slice A5 v.length c5, .int .i64 ((n4 : Int) - 1)] 79)).ownsRow w.heap.size 79 5 (.slice (some ⟨b3, 0, none⟩) ls.length ct) ls.length vs := hq1
              have hss := hst.rd.size
              have HSS := Lib.hid hss
              have HROW := Lib.hid hrow
              have HPOST : Hid (∀ A7 c7 w13, w13.ownsRow w.heap.size 79 5 (.slice A7 (ls.length + 1) c7) (ls.length + 1) (vs ++ lastC A5 c5 ⟨n1, n2, n3, v, (n4 : Int) - 1⟩) → (w12.alloc (.cells #[.int .i64 (n1 : Int), .int .i64 (n2 : Int), .int .i64 (n3 : Int), .slice A5 v.length c5, .int .i64 ((n4 : Int) - 1)] 79)).grownBy w13 (Value.slice (some ⟨b3, 0, none⟩) ls.length ct).ownBlock → Hid (Blk w13 g 31 #[.slice A0 reg.length c0, .slice A1 acc.length c1, .slice A2 lk.length c2, .slice A3 ps.length c3, .slice (some ⟨b3, 0, none⟩) ls.length ct]) ∧ Hid (McSt w (w13.setCell ⟨g, 4, none⟩ (.slice A7 (ls.length + 1) c7)) B b g ⟨⟨A0, c0, A1, c1, A2, c2, A3, c3⟩, A7, c7⟩ ⟨⟨reg, acc, lk, ps⟩, ls ++ [l]⟩ t5)) := Lib.hid (by
                intro A7 c7 w13 ho7 hg7
                have hbw : Below w.heap.size (w12.alloc (.cells #[.int .i64 (n1 : Int), .int .i64 (n2 : Int), .int .i64 (n3 : Int), .slice A5 v.length c5, .int .i64 ((n4 : Int) - 1)] 79)) w13 := (Below.refl _ _).grown hg7 hss (fun k hk => (hrow.lt k hk).1)
                have hown : OwnM w w13 ⟨⟨A0, c0, A1, c1, A2, c2, A3, c3⟩, A7, c7⟩ ⟨⟨reg, acc, lk, ps⟩, ls ++ [l]⟩ := ⟨⟨own_grown_t hst.own.o.o0 hrow (by decide) hg7, hst.own.o.o1.grownL hrow hg7, own_grown_t hst.own.o.o2 hrow (by decide) hg7, hst.own.o.o3.grownL hrow hg7⟩, ⟨_, by rw [List.length_append]; exact ho7, by rw [HL.out]; exact OwnsL.grown (OwnsL.snoc hq2 (own_below HV4.out bb)) (by decide) hrow hg7⟩⟩
                have hres7 := hst.res.apart_own hrow (by decide) hg7
                have hblk7 := hst.blk.apart_own hrow (by decide) hg7
                have hrd7 := hst.rd.belowW hbw HBL.out
                exact ⟨Lib.hid hblk7, Lib.hid ⟨hres7.set_other (by omega), by have q := hblk7.set_ 4 (.slice A7 (ls.length + 1) c7); simpa [machC] using q, hown.set_t hblk7 (by decide) (by decide) (by decide) (by decide) (by decide), hrd7.set HBL.out (by omega)⟩⟩)
              clear bb hst hq1 hq2 hrow hss
              go_wp2_with (first
                | (at_builtin
                   refine wpList_append_atS (w := w12.alloc (.cells #[.int .i64 (n1 : Int), .int .i64 (n2 : Int), .int .i64 (n3 : Int), .slice A5 v.length c5, .int .i64 ((n4 : Int) - 1)] 79)) (c' := 1) w.heap.size HSS.out cellL (.tmp 69) (.tmp 71) rfl (by rfl) rfl HROW.out rfl HSRC.out (lastC_one A5 c5 _) (by omega) (by omega) ?_
                   intro A7 c7 w13 ho7 hg7
                   obtain ⟨hb7, HFIN⟩ := HPOST.out A7 c7 w13 ho7 hg7
                   clear x0 x1 x2 x3 x4 y0 y1 y2 y3 y4
                   obtain ⟨x0, x1, x2, x3, x4⟩ := five (t := 31) hb7.out
                   obtain ⟨f0', f1, f2, f3, f4⟩ := five_frozen hb7.out
                   clear ho7 hg7 hb7 HPOST)
                | fail)
              go_roundw
              case rel => exact ⟨j, A7, c7, ls ++ [l], t5, by simp; omega, by go_num, congrArg Value.bool (by rw [HOKS.out, HGL.out]; have h := HF0.out; simp only [HLT.out]; revert h; cases ok0 <;> cases okT ls <;> simp), HFIN, HQ2⟩
              case measure => simp only [intOf]; omega
            · have HLT : Hid (decide (pl.s < (n1 : Int)) = false) := Lib.hid (decide_eq_false hlt)
              have hb2 := HS3.out.blk
              unfold machC at hb2
              simp only at hb2
              have hbd : Below w11.heap.size w11 w11.drew := (Below.refl _ _).drew
              have HS : Hid ((fun w' => Blk w' g 31 #[.slice A0 reg.length c0, .slice A1 acc.length c1, .slice A2 lk.length c2, .slice A3 ps.length c3, .slice (some ⟨b3, 0, none⟩) ls.length ct] ∧ Blk w' e 79 #[.int .i64 (n1 : Int), .int .i64 (n2 : Int), .int .i64 (n3 : Int), .slice A5 v.length c5, .int .i64 ((n4 : Int) - 1)] ∧ w'.cell? ⟨b3, m * 5, none⟩ = some (.int .i64 pl.s)) w11.drew) := Lib.hid ⟨hb2.below hbd, HKL.out.below hbd, (hbd.cell (p := ⟨b3, m * 5, none⟩) (World.block_lt_of_cell? _ _ hcl1)).trans hcl1⟩
              have HS4 := Lib.hid (HS3.out.below HBL.out hbd)
              have HV4 := Lib.hid (own_below HV.out hbd)
              refine wp_region_held_drew (S := fun w' => Blk w' g 31 #[.slice A0 reg.length c0, .slice A1 acc.length c1, .slice A2 lk.length c2, .slice A3 ps.length c3, .slice (some ⟨b3, 0, none⟩) ls.length ct] ∧ Blk w' e 79 #[.int .i64 (n1 : Int), .int .i64 (n2 : Int), .int .i64 (n3 : Int), .slice A5 v.length c5, .int .i64 ((n4 : Int) - 1)] ∧ w'.cell? ⟨b3, m * 5, none⟩ = some (.int .i64 pl.s)) (by kernel_rfl) HS.out (fun _ => ?_)
              clear hbd hb2 HS3 HV HKL hps hpl hcl1 hm
              generalize w11.drew = w12 at HS HS4 HV4 ⊢
              refine wpAnyH_take (i := 0) (v := .bool true) rfl (by kernel_rfl) (by kernel_rfl) (by kernel_rfl) (fun _ _ _ h => h) (Or.inl ⟨by kernel_rfl, fun w _ => by go_simp⟩) HS.out ?_
              refine wpAnyH_take (i := 1) (v := .bool true) rfl (by kernel_rfl) (by kernel_rfl) (by kernel_rfl) (fun _ _ _ h => h) (Or.inl ⟨by kernel_rfl, fun w _ => by go_simp⟩) HS.out ?_
              refine wpAnyH_take (i := 2) (v := .pointer (some ⟨e, 0, none⟩)) rfl (by kernel_rfl) (by kernel_rfl) (by kernel_rfl) (fun _ _ _ h => h) (Or.inl ⟨by kernel_rfl, fun w _ => by go_simp⟩) HS.out ?_
              refine wpAnyH_take (i := 3) (v := .int .i64 (n1 : Int)) rfl (by kernel_rfl) (by kernel_rfl) (by kernel_rfl) (fun _ _ _ h => h) (Or.inl ⟨by kernel_rfl, fun w h => by obtain ⟨q0, q1, q2, q3, q4⟩ := five (t := 79) h.2.1; go_simp⟩) HS.out ?_
              refine wpAnyH_take (i := 4) (v := .pointer (some ⟨e, 1, none⟩)) rfl (by kernel_rfl) (by kernel_rfl) (by kernel_rfl) (fun _ _ _ h => h) (Or.inl ⟨by kernel_rfl, fun w _ => by go_simp⟩) HS.out ?_
              refine wpAnyH_take (i := 5) (v := .int .i64 (n2 : Int)) rfl (by kernel_rfl) (by kernel_rfl) (by kernel_rfl) (fun _ _ _ h => h) (Or.inl ⟨by kernel_rfl, fun w h => by obtain ⟨q0, q1, q2, q3, q4⟩ := five (t := 79) h.2.1; go_simp⟩) HS.out ?_
              refine wpAnyH_ready (rs := [6]) (by kernel_rfl) (by simp) ?_
              refine AllReadyH.cons rfl (fun K hK => ?_) AllReadyH.nil
              go_simp
              refine (CN.out _).mono ?_
              rintro en w13 ⟨rfl, rfl⟩
              go_simp
              refine hK.out _ _ HS.out (fun _ => ?_)
              clear hK K
              refine wpAnyH_take (i := 7) (v := .bool true) rfl (by kernel_rfl) (by kernel_rfl) (by kernel_rfl) (fun _ _ _ h => h) (Or.inl ⟨by kernel_rfl, fun w _ => by go_simp⟩) HS.out ?_
              refine wpAnyH_take (i := 8) (v := .bool true) rfl (by kernel_rfl) (by kernel_rfl) (by kernel_rfl) (fun _ _ _ h => h) (Or.inl ⟨by kernel_rfl, fun w _ => by go_simp⟩) HS.out ?_
              refine wpAnyH_take (i := 9) (v := .pointer (some ⟨g, 4, none⟩)) rfl (by kernel_rfl) (by kernel_rfl) (by kernel_rfl) (fun _ _ _ h => h) (Or.inl ⟨by kernel_rfl, fun w _ => by go_simp⟩) HS.out ?_
              refine wpAnyH_take (i := 10) (v := .slice (some ⟨b3, 0, none⟩) ls.length ct) rfl (by kernel_rfl) (by kernel_rfl) (by kernel_rfl) (fun _ _ _ h => h) (Or.inl ⟨by kernel_rfl, fun w h => by obtain ⟨q0, q1, q2, q3, q4⟩ := five (t := 31) h.1; go_simp⟩) HS.out ?_
              refine wpAnyH_take (i := 11) (v := .int .i64 (ls.length : Int)) rfl (by kernel_rfl) (by kernel_rfl) (by kernel_rfl) (fun _ _ _ h => h) (Or.inl ⟨by kernel_rfl, fun w _ => by go_simp⟩) HS.out ?_
              refine wpAnyH_take (i := 12) (v := .bool false) rfl (by kernel_rfl) (by kernel_rfl) (by kernel_rfl) (fun _ _ _ h => h) (Or.inl ⟨by kernel_rfl, fun w _ => by go_simp⟩) HS.out ?_
              refine wpAnyH_ready (rs := [13]) (by kernel_rfl) (by simp) ?_
              refine AllReadyH.cons rfl (fun K hK => ?_) AllReadyH.nil
              go_simp
              refine hK.out _ _ HS.out (fun _ => ?_)
              clear hK K
              refine wpAnyH_take (i := 14) (v := .pointer (some ⟨g, 4, none⟩)) rfl (by kernel_rfl) (by kernel_rfl) (by kernel_rfl) (fun _ _ _ h => h) (Or.inl ⟨by kernel_rfl, fun w _ => by go_simp⟩) HS.out ?_
              refine wpAnyH_take (i := 16) (v := .pointer (some ⟨g, 4, none⟩)) rfl (by kernel_rfl) (by kernel_rfl) (by kernel_rfl) (fun _ _ _ h => h) (Or.inl ⟨by kernel_rfl, fun w _ => by go_simp⟩) HS.out ?_
              refine wpAnyH_take (i := 15) (v := .slice (some ⟨b3, 0, none⟩) ls.length ct) rfl (by kernel_rfl) (by kernel_rfl) (by kernel_rfl) (fun _ _ _ h => h) (Or.inl ⟨by kernel_rfl, fun w h => by obtain ⟨q0, q1, q2, q3, q4⟩ := five (t := 31) h.1; go_simp⟩) HS.out ?_
              refine wpAnyH_take (i := 17) (v := .slice (some ⟨b3, 0, none⟩) ls.length ct) rfl (by kernel_rfl) (by kernel_rfl) (by kernel_rfl) (fun _ _ _ h => h) (Or.inl ⟨by kernel_rfl, fun w h => by obtain ⟨q0, q1, q2, q3, q4⟩ := five (t := 31) h.1; go_simp⟩) HS.out ?_
              refine wpAnyH_take (i := 18) (v := .int .i64 (ls.length : Int)) rfl (by kernel_rfl) (by kernel_rfl) (by kernel_rfl) (fun _ _ _ h => h) (Or.inl ⟨by kernel_rfl, fun w _ => by go_simp⟩) HS.out ?_
              refine wpAnyH_take (i := 19) (v := .int .i64 (m : Int)) rfl (by kernel_rfl) (by kernel_rfl) (by kernel_rfl) (fun _ _ _ h => h) (Or.inl ⟨by kernel_rfl, fun w _ => by go_simp⟩) HS.out ?_
              refine wpAnyH_take (i := 20) (v := .pointer (some ⟨b3, m * 5, none⟩)) rfl (by kernel_rfl) (by kernel_rfl) (by kernel_rfl) (fun _ _ _ h => h) (Or.inl ⟨by kernel_rfl, fun w _ => by go_simp⟩) HS.out ?_
              refine wpAnyH_take (i := 21) (v := .pointer (some ⟨b3, m * 5, none⟩)) rfl (by kernel_rfl) (by kernel_rfl) (by kernel_rfl) (fun _ _ _ h => h) (Or.inl ⟨by kernel_rfl, fun w _ => by go_simp⟩) HS.out ?_
              refine wpAnyH_take (i := 22) (v := .int .i64 pl.s) rfl (by kernel_rfl) (by kernel_rfl) (by kernel_rfl) (fun _ _ _ h => h) (Or.inl ⟨by kernel_rfl, fun w h => by have q := h.2.2; go_simp⟩) HS.out ?_
              refine wpAnyH_take (i := 23) (v := .pointer (some ⟨e, 0, none⟩)) rfl (by kernel_rfl) (by kernel_rfl) (by kernel_rfl) (fun _ _ _ h => h) (Or.inl ⟨by kernel_rfl, fun w _ => by go_simp⟩) HS.out ?_
              refine wpAnyH_take (i := 24) (v := .int .i64 (n1 : Int)) rfl (by kernel_rfl) (by kernel_rfl) (by kernel_rfl) (fun _ _ _ h => h) (Or.inl ⟨by kernel_rfl, fun w h => by obtain ⟨q0, q1, q2, q3, q4⟩ := five (t := 79) h.2.1; go_simp⟩) HS.out ?_
              refine wpAnyH_take (i := 25) (v := .bool false) rfl (by kernel_rfl) (by kernel_rfl) (by kernel_rfl) (fun _ _ _ h => h) (Or.inl ⟨by kernel_rfl, fun w _ => by go_simp⟩) HS.out ?_
              refine wpAnyH_ready (rs := [26]) (by kernel_rfl) (by simp) ?_
              refine AllReadyH.cons rfl (fun K hK => ?_) AllReadyH.nil
              go_simp
              refine hK.out _ _ HS.out (fun _ => ?_)
              clear hK K
              refine wpAnyH_ready (rs := [27]) (by kernel_rfl) (by simp) ?_
              refine AllReadyH.cons rfl (fun K hK => ?_) AllReadyH.nil
              go_simp
              refine hK.out _ _ HS.out (fun _ => ?_)
              clear hK K
              refine wpAnyH_ready (rs := [28]) (by kernel_rfl) (by simp) ?_
              refine AllReadyH.cons rfl (fun K hK => ?_) AllReadyH.nil
              go_simp
              refine hK.out _ _ HS.out (fun _ => ?_)
              clear hK K
              refine wpAnyH_done (by kernel_rfl) ?_ _
              obtain ⟨x0, x1, x2, x3, x4⟩ := five (t := 31) HS.out.1
              obtain ⟨y0, y1, y2, y3, y4⟩ := five (t := 79) HS.out.2.1
              have HSRC : Hid (Rd (w12.alloc (.cells #[.int .i64 (n1 : Int), .int .i64 (n2 : Int), .int .i64 (n3 : Int), .slice A5 v.length c5, .int .i64 ((n4 : Int) - 1)] 79)) (w12.heap.size + 1) (some ⟨w12.heap.size, 0, none⟩) (1 * 5) (lastC A5 c5 ⟨n1, n2, n3, v, (n4 : Int) - 1⟩)) := Lib.hid (Rd.made w12 #[.int .i64 (n1 : Int), .int .i64 (n2 : Int), .int .i64 (n3 : Int), .slice A5 v.length c5, .int .i64 ((n4 : Int) - 1)] 79 (0, 0) 5 rfl)
              have bb : Below w12.heap.size w12 (w12.alloc (.cells #[.int .i64 (n1 : Int), .int .i64 (n2 : Int), .int .i64 (n3 : Int), .slice A5 v.length c5, .int .i64 ((n4 : Int) - 1)] 79)) := (Below.refl _ _).alloc (Nat.le_refl _) _
              have hst := HS4.out.below HBL.out bb
              obtain ⟨vs, hq1, hq2⟩ := hst.own.t
              have hrow : (w12.alloc (.cells #[.int .i64 (n1 : Int), .int .i64 (n2 : Int), .int .i64 (n3 : Int), .slice A5 v.length c5, .int .i64 ((n4 : Int) - 1)] 79)).ownsRow w.heap.size 79 5 (.slice (some ⟨b3, 0, none⟩) ls.length ct) ls.length vs := hq1
              have hss := hst.rd.size
              have HSS := Lib.hid hss
              have HROW := Lib.hid hrow
              have HPOST : Hid (∀ A7 c7 w13, w13.ownsRow w.heap.size 79 5 (.slice A7 (ls.length + 1) c7) (ls.length + 1) (vs ++ lastC A5 c5 ⟨n1, n2, n3, v, (n4 : Int) - 1⟩) → (w12.alloc (.cells #[.int .i64 (n1 : Int), .int .i64 (n2 : Int), .int .i64 (n3 : Int), .slice A5 v.length c5, .int .i64 ((n4 : Int) - 1)] 79)).grownBy w13 (Value.slice (some ⟨b3, 0, none⟩) ls.length ct).ownBlock → Hid (Blk w13 g 31 #[.slice A0 reg.length c0, .slice A1 acc.length c1, .slice A2 lk.length c2, .slice A3 ps.length c3, .slice (some ⟨b3, 0, none⟩) ls.length ct]) ∧ Hid (McSt w (w13.setCell ⟨g, 4, none⟩ (.slice A7 (ls.length + 1) c7)) B b g ⟨⟨A0, c0, A1, c1, A2, c2, A3, c3⟩, A7, c7⟩ ⟨⟨reg, acc, lk, ps⟩, ls ++ [l]⟩ t5)) := Lib.hid (by
                intro A7 c7 w13 ho7 hg7
                have hbw : Below w.heap.size (w12.alloc (.cells #[.int .i64 (n1 : Int), .int .i64 (n2 : Int), .int .i64 (n3 : Int), .slice A5 v.length c5, .int .i64 ((n4 : Int) - 1)] 79)) w13 := (Below.refl _ _).grown hg7 hss (fun k hk => (hrow.lt k hk).1)
                have hown : OwnM w w13 ⟨⟨A0, c0, A1, c1, A2, c2, A3, c3⟩, A7, c7⟩ ⟨⟨reg, acc, lk, ps⟩, ls ++ [l]⟩ := ⟨⟨own_grown_t hst.own.o.o0 hrow (by decide) hg7, hst.own.o.o1.grownL hrow hg7, own_grown_t hst.own.o.o2 hrow (by decide) hg7, hst.own.o.o3.grownL hrow hg7⟩, ⟨_, by rw [List.length_append]; exact ho7, by rw [HL.out]; exact OwnsL.grown (OwnsL.snoc hq2 (own_below HV4.out bb)) (by decide) hrow hg7⟩⟩
                have hres7 := hst.res.apart_own hrow (by decide) hg7
                have hblk7 := hst.blk.apart_own hrow (by decide) hg7
                have hrd7 := hst.rd.belowW hbw HBL.out
                exact ⟨Lib.hid hblk7, Lib.hid ⟨hres7.set_other (by omega), by have q := hblk7.set_ 4 (.slice A7 (ls.length + 1) c7); simpa [machC] using q, hown.set_t hblk7 (by decide) (by decide) (by decide) (by decide) (by decide), hrd7.set HBL.out (by omega)⟩⟩)
              clear bb hst hq1 hq2 hrow hss
              go_wp2_with (first
                | (at_builtin
                   refine wpList_append_atS (w := w12.alloc (.cells #[.int .i64 (n1 : Int), .int .i64 (n2 : Int), .int .i64 (n3 : Int), .slice A5 v.length c5, .int .i64 ((n4 : Int) - 1)] 79)) (c' := 1) w.heap.size HSS.out cellL (.tmp 69) (.tmp 71) rfl (by rfl) rfl HROW.out rfl HSRC.out (lastC_one A5 c5 _) (by omega) (by omega) ?_
                   intro A7 c7 w13 ho7 hg7
                   obtain ⟨hb7, HFIN⟩ := HPOST.out A7 c7 w13 ho7 hg7
                   clear x0 x1 x2 x3 x4 y0 y1 y2 y3 y4
                   obtain ⟨x0, x1, x2, x3, x4⟩ := five (t := 31) hb7.out
                   obtain ⟨f0', f1, f2, f3, f4⟩ := five_frozen hb7.out
                   clear ho7 hg7 hb7 HPOST)
                | fail)
              go_roundw
              case rel => exact ⟨j, A7, c7, ls ++ [l], t5, by simp; omega, by go_num, congrArg Value.bool (by rw [HOKS.out, HGL.out]; have h := HF0.out; simp only [HLT.out]; revert h; cases ok0 <;> cases okT ls <;> simp), HFIN, HQ2⟩
              case measure => simp only [intOf]; omega
    | zero =>
      have HPF : Hid (R = (⟨⟨reg, acc, lk, ps⟩, ls⟩, sj)) := Lib.hid (by
        rw [HRR.out]
        unfold stT
        try simp only
        rw [HE2.out, HE3.out, HQ.out]
        simp [getT])
      obtain ⟨okf, hokf⟩ : ∃ x, (ok0 && okT ls) = x := ⟨_, rfl⟩
      have HOKF := Lib.hid hokf
      rw [hokf]
      clear hokf HQ
      obtain ⟨Ar, nr, cr, hbr, _⟩ := HST.out.rd.r
      obtain ⟨bad, hbad⟩ : ∃ x, sj.isNone = x := ⟨_, rfl⟩
      rw [hbad] at hbr
      have HBAD := Lib.hid hbad
      have HBR := Lib.hid hbr
      clear hbad hbr
      go_upto_region 12 with fail
      have hb2 := HST.out.blk
      unfold machC at hb2
      simp only at hb2
      have hbd : Below wr.heap.size wr wr.drew := (Below.refl _ _).drew
      have HS : Hid ((fun w' => Blk w' g 31 #[.slice A0 reg.length c0, .slice A1 acc.length c1, .slice A2 lk.length c2, .slice A3 ps.length c3, .slice At ls.length ct] ∧ Blk w' b 68 #[.slice Ar nr cr, .bool bad]) wr.drew) := Lib.hid ⟨hb2.below hbd, HBR.out.below hbd⟩
      have HS3 := Lib.hid (HST.out.below HBL.out hbd)
      refine wp_region_held_drew (S := fun w' => Blk w' g 31 #[.slice A0 reg.length c0, .slice A1 acc.length c1, .slice A2 lk.length c2, .slice A3 ps.length c3, .slice At ls.length ct] ∧ Blk w' b 68 #[.slice Ar nr cr, .bool bad]) (by kernel_rfl) HS.out (fun _ => ?_)
      clear hbd hb2 HST HBR
      generalize wr.drew = w6 at HS HS3 ⊢
      have r0 := HS3.out.res
      obtain ⟨k1, k2, k3, k4, k5⟩ := put5 r0 (.slice A0 reg.length c0) (.slice A1 acc.length c1) (.slice A2 lk.length c2) (.slice A3 ps.length c3) (.slice At ls.length ct)
      have HS5 := Lib.hid (And.intro (k5 g _ _ (by omega) HS.out.1) (k5 b _ _ (by omega) HS.out.2))
      have ho5 := k3 w _ _ HS3.out.own (by decide) (by decide) (by decide) (by decide) (by decide)
      have hr5 := ((((HS3.out.rd.set (i := 0) (u := .slice A0 reg.length c0) HBL.out (Nat.le_refl _)).set (i := 1) (u := .slice A1 acc.length c1) HBL.out (Nat.le_refl _)).set (i := 2) (u := .slice A2 lk.length c2) HBL.out (Nat.le_refl _)).set (i := 3) (u := .slice A3 ps.length c3) HBL.out (Nat.le_refl _)).set (i := 4) (u := .slice At ls.length ct) HBL.out (Nat.le_refl _)
      have HEND := Lib.hid (And.intro k1 (And.intro ho5 hr5))
      obtain ⟨x0, x1, x2, x3, x4⟩ := five (t := 31) r0
      obtain ⟨f0, f1, f2, f3, f4⟩ := five_frozen r0
      clear r0 k1 k2 k3 k4 k5 ho5 hr5
      cases okf with
      | false =>
        refine wpAnyH_take (i := 0) (v := .agg #[.slice A0 reg.length c0, .slice A1 acc.length c1, .slice A2 lk.length c2, .slice A3 ps.length c3, .slice At ls.length ct]) rfl (by kernel_rfl) (by kernel_rfl) (by kernel_rfl) (fun _ _ _ h => h) (Or.inl ⟨by kernel_rfl, fun w h => by obtain ⟨q0, q1, q2, q3, q4⟩ := five (t := 31) h.1; go_simp⟩) HS.out ?_
        refine wpAnyH_take (i := 1) (v := .bool false) rfl (by kernel_rfl) (by kernel_rfl) (by kernel_rfl) (fun _ _ _ h => h) (Or.inl ⟨by kernel_rfl, fun w _ => by go_simp⟩) HS.out ?_
        refine wpAnyH_ready (rs := [2]) (by kernel_rfl) (by simp) ?_
        refine AllReadyH.cons rfl (fun K hK => ?_) AllReadyH.nil
        go_simp
        refine hK.out _ _ HS.out (fun _ => ?_)
        clear hK K
        refine wpAnyH_take (i := 3) (v := undef) rfl (by kernel_rfl) (by kernel_rfl) (by kernel_rfl) (fun _ _ _ h => h) (Or.inr ⟨by kernel_rfl, rfl⟩) HS.out ?_
        refine wpAnyH_take (i := 4) (v := undef) rfl (by kernel_rfl) (by kernel_rfl) (by kernel_rfl) (fun _ _ _ h => h) (Or.inr ⟨by kernel_rfl, rfl⟩) HS.out ?_
        refine wpAnyH_take (i := 5) (v := undef) rfl (by kernel_rfl) (by kernel_rfl) (by kernel_rfl) (fun _ _ _ h => h) (Or.inr ⟨by kernel_rfl, rfl⟩) HS.out ?_
        refine wpAnyH_take (i := 6) (v := undef) rfl (by kernel_rfl) (by kernel_rfl) (by kernel_rfl) (fun _ _ _ h => h) (Or.inr ⟨by kernel_rfl, rfl⟩) HS.out ?_
        refine wpAnyH_take (i := 7) (v := undef) rfl (by kernel_rfl) (by kernel_rfl) (by kernel_rfl) (fun _ _ _ h => h) (Or.inr ⟨by kernel_rfl, rfl⟩) HS.out ?_
        refine wpAnyH_take (i := 8) (v := .bool false) rfl (by kernel_rfl) (by kernel_rfl) (by kernel_rfl) (fun _ _ _ h => h) (Or.inl ⟨by kernel_rfl, fun w _ => by go_simp⟩) HS.out ?_
        refine wpAnyH_ready (rs := [9]) (by kernel_rfl) (by simp) ?_
        refine AllReadyH.cons rfl (fun K hK => ?_) AllReadyH.nil
        go_simp
        refine hK.out _ _ HS5.out (fun _ => ?_)
        clear hK K
        refine wpAnyH_ready (rs := [10]) (by kernel_rfl) (by simp) ?_
        refine AllReadyH.cons rfl (fun K hK => ?_) AllReadyH.nil
        go_simp
        refine hK.out _ _ HS5.out (fun _ => ?_)
        clear hK K
        refine wpAnyH_done (by kernel_rfl) ?_ _
        go_wp2_with fail
        refine bodyPost_ret (results_cell_tmp rfl _ _ _ _ _ _ rfl HEND.out.1 Tryz.underlying31 rfl (by kernel_rfl)) rfl ?_
        have hR := HPF.out
        subst hR
        refine ⟨⟨⟨A0, c0, A1, c1, A2, c2, A3, c3⟩, At, ct⟩, ?_, HEND.out.2.1, HEND.out.2.2.r, HEND.out.2.2.only⟩
        have hwf : Mc.wf ⟨⟨reg, acc, lk, ps⟩, ls⟩ = false := by unfold Mc.wf; rw [← HOKF.out, ← HOK0.out]
        have hso : sj.isSome = !bad := by rw [← HBAD.out]; cases sj <;> rfl
        simp only [hwf, hso]
        cases bad <;> rfl
      | true =>
        refine wpAnyH_take (i := 0) (v := .agg #[.slice A0 reg.length c0, .slice A1 acc.length c1, .slice A2 lk.length c2, .slice A3 ps.length c3, .slice At ls.length ct]) rfl (by kernel_rfl) (by kernel_rfl) (by kernel_rfl) (fun _ _ _ h => h) (Or.inl ⟨by kernel_rfl, fun w h => by obtain ⟨q0, q1, q2, q3, q4⟩ := five (t := 31) h.1; go_simp⟩) HS.out ?_
        refine wpAnyH_take (i := 1) (v := .bool true) rfl (by kernel_rfl) (by kernel_rfl) (by kernel_rfl) (fun _ _ _ h => h) (Or.inl ⟨by kernel_rfl, fun w _ => by go_simp⟩) HS.out ?_
        refine wpAnyH_ready (rs := [2]) (by kernel_rfl) (by simp) ?_
        refine AllReadyH.cons rfl (fun K hK => ?_) AllReadyH.nil
        go_simp
        refine hK.out _ _ HS.out (fun _ => ?_)
        clear hK K
        refine wpAnyH_take (i := 3) (v := .pointer (some ⟨b, 0, none⟩)) rfl (by kernel_rfl) (by kernel_rfl) (by kernel_rfl) (fun _ _ _ h => h) (Or.inl ⟨by kernel_rfl, fun w _ => by go_simp⟩) HS.out ?_
        refine wpAnyH_take (i := 4) (v := .pointer (some ⟨b, 0, none⟩)) rfl (by kernel_rfl) (by kernel_rfl) (by kernel_rfl) (fun _ _ _ h => h) (Or.inl ⟨by kernel_rfl, fun w _ => by go_simp⟩) HS.out ?_
        refine wpAnyH_take (i := 5) (v := .pointer (some ⟨b, 1, none⟩)) rfl (by kernel_rfl) (by kernel_rfl) (by kernel_rfl) (fun _ _ _ h => h) (Or.inl ⟨by kernel_rfl, fun w _ => by go_simp⟩) HS.out ?_
        refine wpAnyH_take (i := 6) (v := .bool bad) rfl (by kernel_rfl) (by kernel_rfl) (by kernel_rfl) (fun _ _ _ h => h) (Or.inl ⟨by kernel_rfl, fun w h => by have q := h.2.cell 1; have q1 : w.cell? ⟨b, 1, none⟩ = some (.bool bad) := q; go_simp⟩) HS.out ?_
        refine wpAnyH_take (i := 7) (v := .bool (!bad)) rfl (by kernel_rfl) (by kernel_rfl) (by kernel_rfl) (fun _ _ _ h => h) (Or.inl ⟨by kernel_rfl, fun w _ => by go_simp⟩) HS.out ?_
        refine wpAnyH_take (i := 8) (v := .bool (!bad)) rfl (by kernel_rfl) (by kernel_rfl) (by kernel_rfl) (fun _ _ _ h => h) (Or.inl ⟨by kernel_rfl, fun w _ => by go_simp⟩) HS.out ?_
        refine wpAnyH_ready (rs := [9]) (by kernel_rfl) (by simp) ?_
        refine AllReadyH.cons rfl (fun K hK => ?_) AllReadyH.nil
        go_simp
        refine hK.out _ _ HS5.out (fun _ => ?_)
        clear hK K
        refine wpAnyH_ready (rs := [10]) (by kernel_rfl) (by simp) ?_
        refine AllReadyH.cons rfl (fun K hK => ?_) AllReadyH.nil
        go_simp
        refine hK.out _ _ HS5.out (fun _ => ?_)
        clear hK K
        refine wpAnyH_done (by kernel_rfl) ?_ _
        go_wp2_with fail
        refine bodyPost_ret (results_cell_tmp rfl _ _ _ _ _ _ rfl HEND.out.1 Tryz.underlying31 rfl (by kernel_rfl)) rfl ?_
        have hR := HPF.out
        subst hR
        refine ⟨⟨⟨A0, c0, A1, c1, A2, c2, A3, c3⟩, At, ct⟩, ?_, HEND.out.2.1, HEND.out.2.2.r, HEND.out.2.2.only⟩
        have hwf : Mc.wf ⟨⟨reg, acc, lk, ps⟩, ls⟩ = true := by unfold Mc.wf; rw [← HOKF.out, ← HOK0.out]
        have hso : sj.isSome = !bad := by rw [← HBAD.out]; cases sj <;> rfl
        simp only [hwf, hso]
        cases bad <;> rfl
end Go.Proofs.YtmekamgohonffaaGreat

