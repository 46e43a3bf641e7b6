/- MachMc -/
import Derived.Test.YtlgpglhbbkikpaaGreatT00
import Derived.Test.YtlgpglhbbkikpaaGreatT03
import Derived.Test.YtlgpglhbbkikpaaGreatT15
namespace Go.Proofs.YtlgpglhbbkikpaaGreat
open Go.RowKit
set_option linter.unusedVariables false
theorem okT_snoc (ls : List Ls) (l : Ls) : okT (ls ++ [l]) = (okT ls && (decide (Tb.named l.s l.q) && (match ls.getLast? with | none => true | some p => decide (p.s < l.s)))) := by
 unfold okT
 rw [chainB_snoc, List.all_append]
 cases ls.all (fun l => decide (Tb.named l.s l.q)) <;> cases chainB (fun a b => decide (a.s < b.s)) ls <;> cases h : ls.getLast? <;> simp
theorem OwnQ.grownL {W w w' : World} {A A' : Option Addr} {n c base' size' n' c' : Nat} {xs' : List Value} {qs : List (List Nat)} (h : OwnQ W w A n c qs) (ho : w.ownsRow base' 71 size' (.slice A' n' c') n' xs') (hg : w.grownBy w' (Value.slice A' n' c').ownBlock) : OwnQ W w' A n c qs := by
 obtain ⟨vs, h1, h2⟩ := h
 exact ⟨vs, own_grown_t h1 ho (by decide) hg, ⟨h2.1, fun i l hl => by obtain ⟨A2, c2, e, h3⟩ := h2.2 i l hl; exact ⟨A2, c2, e, own_grown_t h3 ho (by decide) hg⟩⟩⟩
theorem OwnP.grownL {W w w' : World} {A A' : Option Addr} {n c base' size' n' c' : Nat} {xs' : List Value} {qs : List Pr} (h : OwnP W w A n c qs) (ho : w.ownsRow base' 71 size' (.slice A' n' c') n' xs') (hg : w.grownBy w' (Value.slice A' n' c').ownBlock) : OwnP W w' A n c qs := by
 obtain ⟨vs, h1, h2⟩ := h
 exact ⟨vs, own_grown_t h1 ho (by decide) hg, ⟨h2.1, fun i l hl => by obtain ⟨A2, c2, e, h3⟩ := h2.2 i l hl; exact ⟨A2, c2, e, own_grown_t h3 ho (by decide) hg⟩⟩⟩
structure McSt (w wx : World) (B b g : Nat) (a : MA) (m : Mc) (s : Pk.St) : Prop where
 res : Blk wx w.heap.size 36 #[.slice none 0 0, .slice none 0 0, .slice none 0 0, .slice none 0 0, .slice none 0 0]
 blk : Blk wx g 36 (machC a m)
 own : OwnM w wx a m
 rd : RdSt w wx B b s
section
variable {w wx wy : World} {B b g : Nat} {a : MA} {m : Mc} {s s' : Pk.St}
theorem McSt.call (h : McSt w wx B b g a m s) (hb : b < w.heap.size) (hg : b ≠ g) (hr : RefAt wy B b s') (ho : Only b wx wy) : McSt w wy B b g a m s' :=
 ⟨h.res.grown ho (by intro e; injection e with e; omega), h.blk.grown ho (by intro e; injection e with e; omega), h.own.old ho (Old.some hb), h.rd.call hr ho⟩
theorem McSt.below (h : McSt w wx B b g a m s) (hb : b < w.heap.size) (hB : Below wx.heap.size wx wy) : McSt w wy B b g a m s :=
 ⟨h.res.below hB, h.blk.below hB, h.own.below hB, h.rd.belowW (hB.mono h.rd.size) hb⟩
end
set_option maxHeartbeats 4000000 in
set_option maxRecDepth 100000 in
theorem refMachine_any (w : World) (B b : Nat) (s : Pk.St) (h : RefAt w B b s) (hbs : BytesSt s) :
 Calls Tryz.prog 60 #[.pointer (some ⟨b, 0, none⟩)] w fun en w' => ∃ a, en = .returned (.tuple #[machV a (Mc.get s).1, .bool ((Mc.get s).1.wf && (Mc.get s).2.isSome)]) /\ OwnM w w' a (Mc.get s).1 /\ RefAt w' B b (Mc.get s).2 /\ Only b w w' := by
 have hbl := h.lt
 have HBL := hD hbl
 have HRR : Hid (Mc.get s = (⟨(getO s).1, (stT (getO s).2).1⟩, (stT (getO s).2).2)) := hD rfl
 obtain ⟨R, hR⟩ : ∃ R, Mc.get s = R := ⟨_, rfl⟩
 rw [hR] at HRR |-
 have C0 := hD (fun w h => refObjects_any w B b s h hbs)
 obtain ⟨⟨⟨reg, acc, lk, ps⟩, s1⟩, hO⟩ : ∃ O, getO s = O := ⟨_, rfl⟩
 rw [hO] at C0 HRR
 have h0 : RdSt w w B b s := ⟨h, only_refl b w⟩
 have HR0 := hD (h0.below ((Below.refl w.heap.size w).alloc lR (.cells #[.slice none 0 0, .slice none 0 0, .slice none 0 0, .slice none 0 0, .slice none 0 0] 36)))
 have HK2 := hD (Blk.new w 36 #[.slice none 0 0, .slice none 0 0, .slice none 0 0, .slice none 0 0, .slice none 0 0])
 clear h h0 hR hO hbs
 have hne : w.heap.size ≠ b := by omega
 obtain ⟨nq, e2⟩ : ∃ x, Pk.numV s1 8 = x := ⟨_, rfl⟩
 obtain ⟨s2, e3⟩ : ∃ x, Pk.numS s1 8 = x := ⟨_, rfl⟩
 have C1 := hD (fun w h => refrnum_any w B b s1 8 h)
 rw [e2, e3] at C1
 have HE2 := hD e2
 have HE3 := hD e3
 have hnq : nq <= 8 := by have := numV_le s1 (m := 8) (by omega); omega
 clear e2 e3
 obtain ⟨ok0, hok0⟩ : ∃ x, (decide lk.Nodup && okP ps) = x := ⟨_, rfl⟩
 have HOK0 := hD hok0
 simp only at C0
 rw [hok0] at C0
 clear hok0
 go_enter Tryz.func60, Tryz.ntmps60
 go_upto_region 1 with fail
 generalize w.alloc (.cells #[.slice none 0 0, .slice none 0 0, .slice none 0 0, .slice none 0 0, .slice none 0 0] 36) = wa at HR0 HK2 |-
 go_upto_region 2 with (first
  | (go_at_call 132; refine (C0.out _ HR0.out.r).mono ?_; rintro en w1 ⟨⟨A0, c0, A1, c1, A2, c2, A3, c3⟩, rfl, hv, hr, ho⟩
     have hbo : Below w1.heap.size w1 (w1.alloc (.cells #[.slice A0 reg.length c0, .slice A1 acc.length c1, .slice A2 lk.length c2, .slice A3 ps.length c3] 33)) := (Below.refl _ _).alloc lR _
     have HST0 : Hid (Blk (w1.alloc (.cells #[.slice A0 reg.length c0, .slice A1 acc.length c1, .slice A2 lk.length c2, .slice A3 ps.length c3] 33)) w.heap.size 36 #[.slice none 0 0, .slice none 0 0, .slice none 0 0, .slice none 0 0, .slice none 0 0] /\ OwnO w (w1.alloc (.cells #[.slice A0 reg.length c0, .slice A1 acc.length c1, .slice A2 lk.length c2, .slice A3 ps.length c3] 33)) ⟨A0, c0, A1, c1, A2, c2, A3, c3⟩ ⟨reg, acc, lk, ps⟩ /\ RdSt w (w1.alloc (.cells #[.slice A0 reg.length c0, .slice A1 acc.length c1, .slice A2 lk.length c2, .slice A3 ps.length c3] 33)) B b s1) := hD ⟨((HK2.out.grown ho (by simpa using hne)).below hbo), (hv.of HR0.out.size).below hbo, (HR0.out.call hr ho).below hbo⟩
     have hn1 : w.heap.size < w1.heap.size := (HK2.out.grown ho (by simpa using hne)).lt
     have HKO := hD (Blk.new w1 33 #[.slice A0 reg.length c0, .slice A1 acc.length c1, .slice A2 lk.length c2, .slice A3 ps.length c3])
     unfold objV objC
     simp only
     clear hv hr ho hbo C0)
  | fail)
 generalize w1.alloc (.cells #[.slice A0 reg.length c0, .slice A1 acc.length c1, .slice A2 lk.length c2, .slice A3 ps.length c3] 33) = w2 at HST0 HKO |-
 have hn2 : w1.heap.size < w2.heap.size := HKO.out.lt
 obtain ⟨x0, x1, x2, x3, f0, f1, f2, f3⟩ := four HKO.out
 go_upto_region 3 with fail
 have hbm : Below w2.heap.size w2 (w2.alloc (.cells #[.slice A0 reg.length c0, .slice A1 acc.length c1, .slice A2 lk.length c2, .slice A3 ps.length c3, .slice none 0 0] 36)) := (Below.refl _ _).alloc lR _
 have HST : Hid (McSt w (w2.alloc (.cells #[.slice A0 reg.length c0, .slice A1 acc.length c1, .slice A2 lk.length c2, .slice A3 ps.length c3, .slice none 0 0] 36)) B b w2.heap.size ⟨⟨A0, c0, A1, c1, A2, c2, A3, c3⟩, none, 0⟩ ⟨⟨reg, acc, lk, ps⟩, []⟩ s1) := hD ⟨HST0.out.1.below hbm, Blk.new _ _ _, ⟨HST0.out.2.1.below hbm, OwnL.nil _ _⟩, HST0.out.2.2.below hbm⟩
 clear hbm HST0 HKO x0 x1 x2 x3 f0 f1 f2 f3
 generalize w2.alloc (.cells #[.slice A0 reg.length c0, .slice A1 acc.length c1, .slice A2 lk.length c2, .slice A3 ps.length c3, .slice none 0 0] 36) = w3 at HST |-
 obtain ⟨g, hg⟩ : ∃ g, w2.heap.size = g := ⟨_, rfl⟩
 rw [hg] at HST hn2 |-
 have hgb : b ≠ g := by omega
 have hgw : w.heap.size < g := by omega
 go_wp2_with (first
  | (go_at_call 45; refine (C1.out _ HST.out.rd.r).mono ?_; rintro en w4 ⟨rfl, hr, ho, hz⟩; have HST := hD (HST.out.call HBL.out hgb hr ho); clear hr ho hz C1)
  | fail)
 go_loopw [5, 7] (fun s5 s7 wr => ∃ (j : Nat) (At : Option Addr) (ct : Nat) (ls : List Ls) (sj : Pk.St), j + ls.length = nq /\ s7 = .int .i64 (j : Int) /\ s5 = .bool (ok0 && okT ls) /\ Hid (McSt w wr B b g ⟨⟨A0, c0, A1, c1, A2, c2, A3, c3⟩, At, ct⟩ ⟨⟨reg, acc, lk, ps⟩, ls⟩ sj) /\ Hid (getT nq s2 = (ls ++ (getT j sj).1, (getT j sj).2))) (fun _ s7 _ => (intOf s7).toNat)
 case atStart => exact ⟨nq, none, 0, [], s2, by simp, rfl, by simp [okT, chainB], HST, hD (by simp)⟩
 case round =>
  clear HST
  obtain ⟨j, At, ct, ls, sj, hj, rfl, rfl, HST, HQ⟩ := hrel
  have hls8 : ls.length <= 8 := by omega
  cases j with
  | succ j =>
    have hjp : (0 : Int) < ((j + 1 : Nat) : Int) := by omega
    have hjw : IntKind.i64.wrap (((j + 1 : Nat) : Int) - 1) = (j : Int) := by rw [show ((j + 1 : Nat) : Int) - 1 = (j : Int) by omega]; exact IntWalk.i64_in _ (by omega)
    obtain ⟨n1, a1⟩ : ∃ y, Pk.numV sj 1073741824 = y := ⟨_, rfl⟩
    obtain ⟨t1, b1⟩ : ∃ y, Pk.numS sj 1073741824 = y := ⟨_, rfl⟩
    obtain ⟨n2, a2⟩ : ∃ y, Pk.numV t1 1073741824 = y := ⟨_, rfl⟩
    obtain ⟨t2, b2⟩ : ∃ y, Pk.numS t1 1073741824 = y := ⟨_, rfl⟩
    obtain ⟨n3, a3⟩ : ∃ y, Pk.numV t2 10 = y := ⟨_, rfl⟩
    obtain ⟨t3, b3⟩ : ∃ y, Pk.numS t2 10 = y := ⟨_, rfl⟩
    obtain ⟨n4, a4⟩ : ∃ y, Pk.numV t3 1073741825 = y := ⟨_, rfl⟩
    obtain ⟨t4, b4⟩ : ∃ y, Pk.numS t3 1073741825 = y := ⟨_, rfl⟩
    obtain ⟨v, a5⟩ : ∃ y, Pk.bytV t4 16 = y := ⟨_, rfl⟩
    obtain ⟨t5, b5⟩ : ∃ y, Pk.bytS t4 16 = y := ⟨_, rfl⟩
    have h4 : n4 <= 1073741825 := by have := numV_le t3 (m := 1073741825) (by omega); omega
    have hw4 : IntKind.i64.wrap ((n4 : Int) - 1) = (n4 : Int) - 1 := IntWalk.i64_in _ (by omega)
    obtain ⟨l, hl⟩ : ∃ l : Ls, l = ⟨n1, n2, n3, v, (n4 : Int) - 1⟩ := ⟨_, rfl⟩
    have HL := hD hl
    have HQ2 : Hid (getT nq s2 = ((ls ++ [l]) ++ (getT j t5).1, (getT j t5).2)) := hD (by rw [HQ.out]; simp only [getT, getT1, a1, b1, a2, b2, a3, b3, a4, b4, a5, b5, List.append_assoc, List.singleton_append, hl])
    have K1 := hD (fun w h => refrnum_any w B b sj 1073741824 h)
    have K2 := hD (fun w h => refrnum_any w B b t1 1073741824 h)
    have K3 := hD (fun w h => refrnum_any w B b t2 10 h)
    have K4 := hD (fun w h => refrnum_any w B b t3 1073741825 h)
    have K5 := hD (fun w h => refrbytes_any w B b t4 16 h)
    rw [a1, b1] at K1
    rw [a2, b2] at K2
    rw [a3, b3] at K3
    rw [a4, b4] at K4
    rw [a5, b5] at K5
    clear a1 b1 a2 b2 a3 b3 a4 b4 a5 b5 HQ hl h4
    go_upto_region 7 with (first
     | (go_at_call 45; refine (K1.out _ HST.out.rd.r).mono ?_; rintro en w5 ⟨rfl, hr, ho, hz⟩; have HS1 := hD (HST.out.call HBL.out hgb hr ho); clear hr ho hz K1 HST)
     | (go_at_call 45; refine (K2.out _ HS1.out.rd.r).mono ?_; rintro en w6 ⟨rfl, hr, ho, hz⟩
        have HS2 := hD (HS1.out.call HBL.out hgb hr ho)
        have bb : Below w6.heap.size w6 (w6.alloc (.cells #[.int .i64 (n1 : Int), .int .i64 (n2 : Int), .int .i64 0, .slice none 0 0, .int .i64 0] 71)) := (Below.refl _ _).alloc lR _
        have HON := hD (only_below (only_refl b w6) bb lR)
        have HRD := hD (HS2.out.rd.below bb)
        have HKL := hD (Blk.new w6 71 #[.int .i64 (n1 : Int), .int .i64 (n2 : Int), .int .i64 0, .slice none 0 0, .int .i64 0])
        clear hr ho hz K2 HS1 bb)
     | fail)
    generalize w6.alloc (.cells #[.int .i64 (n1 : Int), .int .i64 (n2 : Int), .int .i64 0, .slice none 0 0, .int .i64 0] 71) = w7 at HON HRD HKL |-
    obtain ⟨e, he⟩ : ∃ e, w6.heap.size = e := ⟨_, rfl⟩
    have hge : g < e := by have := HS2.out.blk.lt; omega
    have hwe : w.heap.size <= e := by omega
    have heb : b ≠ e := by omega
    rw [he] at HKL |-
    have HE := hD he
    clear he
    go_upto_region 10 with (first
     | (go_at_call 45; refine (K3.out _ HRD.out.r).mono ?_; rintro en w8 ⟨rfl, hr, ho, hz⟩
        have hk := HKL.out.grown ho (by intro q; injection q with q; omega)
        have HKL3 := hD (hk.set_ 2 (.int .i64 (n3 : Int)))
        have hr1 := HRD.out.call hr ho
        have HRD3 := hD (hr1.set (i := 2) (u := .int .i64 (n3 : Int)) HBL.out hwe)
        have HON3 := hD (only_below (only_trans HON.out ho) ((Below.refl e w8).setCell (p := ⟨e, 2, none⟩) lR (.int .i64 (n3 : Int))) (by have := HE.out; omega))
        have y2 := hk.cell 2
        have f2 := hk.frozen 2
        clear hr ho hz K3 hk hr1 HKL HRD HON)
     | (go_at_call 45; refine (K4.out _ HRD3.out.r).mono ?_; rintro en w9 ⟨rfl, hr, ho, hz⟩
        clear y2 f2
        have hk := HKL3.out.grown ho (by intro q; injection q with q; omega)
        have HKL4 := hD (hk.set_ 4 (.int .i64 ((n4 : Int) - 1)))
        have hr1 := HRD3.out.call hr ho
        have HRD4 := hD (hr1.set (i := 4) (u := .int .i64 ((n4 : Int) - 1)) HBL.out hwe)
        have HON4 := hD (only_below (only_trans HON3.out ho) ((Below.refl e w9).setCell (p := ⟨e, 4, none⟩) lR (.int .i64 ((n4 : Int) - 1))) (by have := HE.out; omega))
        have y4 := hk.cell 4
        have f4 := hk.frozen 4
        clear hr ho hz K4 hk hr1 HKL3 HRD3 HON3)
     | (go_at_call 46; refine (K5.out _ HRD4.out.r).mono ?_; rintro en w10 ⟨A5, m5, c5, rfl, hv, hr, ho⟩; obtain rfl := own_len hv
        clear y4 f4
        have hv := own_of HRD4.out.size hv
        have hk := HKL4.out.grown ho (by intro q; injection q with q; omega)
        have HKL5 := hD (hk.set_ 3 (.slice A5 v.length c5))
        have hr1 := HRD4.out.call hr ho
        have HRD5 := hD (hr1.set (i := 3) (u := .slice A5 v.length c5) HBL.out hwe)
        have HON5 := hD (only_below (only_trans HON4.out ho) ((Below.refl e w10).setCell (p := ⟨e, 3, none⟩) lR (.slice A5 v.length c5)) (by have := HE.out; omega))
        have HV := hD (own_set_t (i := 3) (u := .slice A5 v.length c5) hv hk (by decide))
        have y3 := hk.cell 3
        have f3 := hk.frozen 3
        clear hv hr ho K5 hk hr1 HKL4 HRD4 HON4)
     | fail)
    generalize w10.setCell ⟨e, 3, none⟩ (.slice A5 v.length c5) = w11 at HKL5 HRD5 HON5 HV |-
    have HKL : Hid (Blk w11 e 71 #[.int .i64 (n1 : Int), .int .i64 (n2 : Int), .int .i64 (n3 : Int), .slice A5 v.length c5, .int .i64 ((n4 : Int) - 1)]) := hD (by simpa using HKL5.out)
    have HS3 := hD (HS2.out.call HBL.out hgb HRD5.out.r HON5.out)
    clear y3 f3 HKL5 HRD5 HON5 HS2
    have HOKS : Hid (okT (ls ++ [l]) = (okT ls && (decide (Tb.named (n1 : Int) (n2 : Int)) && (match ls.getLast? with | none => true | some p => decide (p.s < (n1 : Int)))))) := hD (by rw [okT_snoc, HL.out])
    obtain ⟨f0, hf0⟩ : ∃ x, (ok0 && okT ls) = x := ⟨_, rfl⟩
    have HF0 := hD hf0
    rw [hf0]
    clear hf0
    obtain ⟨nm, hnm⟩ : ∃ x, decide (Tb.named (n1 : Int) (n2 : Int)) = x := ⟨_, rfl⟩
    have CN := hD (fun w => refNamed_any w (n1 : Int) (n2 : Int))
    rw [hnm] at CN HOKS
    clear hnm
    cases f0 with
    | false =>
      have hb2 := HS3.out.blk
      unfold machC at hb2
      simp only at hb2
      have hbd : Below w11.heap.size w11 w11.drew := (Below.refl _ _).drew
      have HS : Hid ((fun w' => Blk w' g 36 #[.slice A0 reg.length c0, .slice A1 acc.length c1, .slice A2 lk.length c2, .slice A3 ps.length c3, .slice At ls.length ct] /\ Blk w' e 71 #[.int .i64 (n1 : Int), .int .i64 (n2 : Int), .int .i64 (n3 : Int), .slice A5 v.length c5, .int .i64 ((n4 : Int) - 1)]) w11.drew) := hD ⟨hb2.below hbd, HKL.out.below hbd⟩
      have HS4 := hD (HS3.out.below HBL.out hbd)
      have HV4 := hD (own_below HV.out hbd)
      refine wp_region_held_drew (S := fun w' => Blk w' g 36 #[.slice A0 reg.length c0, .slice A1 acc.length c1, .slice A2 lk.length c2, .slice A3 ps.length c3, .slice At ls.length ct] /\ Blk w' e 71 #[.int .i64 (n1 : Int), .int .i64 (n2 : Int), .int .i64 (n3 : Int), .slice A5 v.length c5, .int .i64 ((n4 : Int) - 1)]) (by kernel_rfl) HS.out (fun _ => ?_)
      clear hbd hb2 HS3 HV HKL
      generalize w11.drew = w12 at HS HS4 HV4 |-
      refine tkL (i := 0) (v := .bool false) rfl (fun w _ => by go_simp) HS.out ?_
      refine rdH (rs := [1]) ?_
      refine AllReadyH.cons rfl (fun K hK => ?_) AllReadyH.nil
      go_simp
      refine hK.out _ _ HS.out (fun _ => ?_)
      clear hK K
      refine tkR (i := 2) rfl HS.out ?_
      refine tkR (i := 3) rfl HS.out ?_
      refine tkR (i := 4) rfl HS.out ?_
      refine tkR (i := 5) rfl HS.out ?_
      refine tkR (i := 6) rfl HS.out ?_
      refine rdH (rs := [7]) ?_
      refine AllReadyH.cons rfl (fun K hK => ?_) AllReadyH.nil
      go_simp
      refine hK.out _ _ HS.out (fun _ => ?_)
      clear hK K
      refine rdH (rs := [8]) ?_
      refine AllReadyH.cons rfl (fun K hK => ?_) AllReadyH.nil
      go_simp
      refine hK.out _ _ HS.out (fun _ => ?_)
      clear hK K
      refine tkR (i := 9) rfl HS.out ?_
      refine tkR (i := 10) rfl HS.out ?_
      refine tkR (i := 11) rfl HS.out ?_
      refine tkR (i := 12) rfl HS.out ?_
      refine tkR (i := 13) rfl HS.out ?_
      refine tkR (i := 14) rfl HS.out ?_
      refine tkR (i := 15) rfl HS.out ?_
      refine tkR (i := 16) rfl HS.out ?_
      refine tkR (i := 17) rfl HS.out ?_
      refine tkR (i := 18) rfl HS.out ?_
      refine tkR (i := 19) rfl HS.out ?_
      refine tkR (i := 20) rfl HS.out ?_
      refine tkR (i := 21) rfl HS.out ?_
      refine tkR (i := 22) rfl HS.out ?_
      refine tkR (i := 23) rfl HS.out ?_
      refine tkR (i := 24) rfl HS.out ?_
      refine tkR (i := 25) rfl HS.out ?_
      refine tkR (i := 26) rfl HS.out ?_
      refine rdH (rs := [27]) ?_
      refine AllReadyH.cons rfl (fun K hK => ?_) AllReadyH.nil
      go_simp
      refine hK.out _ _ HS.out (fun _ => ?_)
      clear hK K
      refine rdH (rs := [28]) ?_
      refine AllReadyH.cons rfl (fun K hK => ?_) AllReadyH.nil
      go_simp
      refine hK.out _ _ HS.out (fun _ => ?_)
      clear hK K
      refine wpAnyH_done (by kernel_rfl) ?_ _
      obtain ⟨x0, x1, x2, x3, x4⟩ := five (t := 36) HS.out.1
      obtain ⟨y0, y1, y2, y3, y4⟩ := five (t := 71) HS.out.2
      have HSRC : Hid (Rd (w12.alloc (.cells #[.int .i64 (n1 : Int), .int .i64 (n2 : Int), .int .i64 (n3 : Int), .slice A5 v.length c5, .int .i64 ((n4 : Int) - 1)] 71)) (w12.heap.size + 1) (some ⟨w12.heap.size, 0, none⟩) (1 * 5) (lastC A5 c5 ⟨n1, n2, n3, v, (n4 : Int) - 1⟩)) := hD (Rd.made w12 #[.int .i64 (n1 : Int), .int .i64 (n2 : Int), .int .i64 (n3 : Int), .slice A5 v.length c5, .int .i64 ((n4 : Int) - 1)] 71 (0, 0) 5 rfl)
      have bb : Below w12.heap.size w12 (w12.alloc (.cells #[.int .i64 (n1 : Int), .int .i64 (n2 : Int), .int .i64 (n3 : Int), .slice A5 v.length c5, .int .i64 ((n4 : Int) - 1)] 71)) := (Below.refl _ _).alloc lR _
      have hst := HS4.out.below HBL.out bb
      obtain ⟨vs, hq1, hq2⟩ := hst.own.t
      have hrow : (w12.alloc (.cells #[.int .i64 (n1 : Int), .int .i64 (n2 : Int), .int .i64 (n3 : Int), .slice A5 v.length c5, .int .i64 ((n4 : Int) - 1)] 71)).ownsRow w.heap.size 71 5 (.slice At ls.length ct) ls.length vs := hq1
      have hss := hst.rd.size
      have HSS := hD hss
      have HROW := hD hrow
      have HPOST : Hid (∀ A7 c7 w13, w13.ownsRow w.heap.size 71 5 (.slice A7 (ls.length + 1) c7) (ls.length + 1) (vs ++ lastC A5 c5 ⟨n1, n2, n3, v, (n4 : Int) - 1⟩) -> (w12.alloc (.cells #[.int .i64 (n1 : Int), .int .i64 (n2 : Int), .int .i64 (n3 : Int), .slice A5 v.length c5, .int .i64 ((n4 : Int) - 1)] 71)).grownBy w13 (Value.slice At ls.length ct).ownBlock -> Hid (Blk w13 g 36 #[.slice A0 reg.length c0, .slice A1 acc.length c1, .slice A2 lk.length c2, .slice A3 ps.length c3, .slice At ls.length ct]) /\ Hid (McSt w (w13.setCell ⟨g, 4, none⟩ (.slice A7 (ls.length + 1) c7)) B b g ⟨⟨A0, c0, A1, c1, A2, c2, A3, c3⟩, A7, c7⟩ ⟨⟨reg, acc, lk, ps⟩, ls ++ [l]⟩ t5)) := hD (by
       intro A7 c7 w13 ho7 hg7
       have hbw : Below w.heap.size (w12.alloc (.cells #[.int .i64 (n1 : Int), .int .i64 (n2 : Int), .int .i64 (n3 : Int), .slice A5 v.length c5, .int .i64 ((n4 : Int) - 1)] 71)) w13 := (Below.refl _ _).grown hg7 hss (fun k hk => (hrow.lt k hk).1)
       have hown : OwnM w w13 ⟨⟨A0, c0, A1, c1, A2, c2, A3, c3⟩, A7, c7⟩ ⟨⟨reg, acc, lk, ps⟩, ls ++ [l]⟩ := ⟨⟨own_grown_t hst.own.o.o0 hrow (by decide) hg7, hst.own.o.o1.grownL hrow hg7, own_grown_t hst.own.o.o2 hrow (by decide) hg7, hst.own.o.o3.grownL hrow hg7⟩, ⟨_, by rw [List.length_append]; exact ho7, by rw [HL.out]; exact OwnsL.grown (OwnsL.snoc hq2 (own_below HV4.out bb)) (by decide) hrow hg7⟩⟩
       have hres7 := hst.res.apart_own hrow (by decide) hg7
       have hblk7 := hst.blk.apart_own hrow (by decide) hg7
       have hrd7 := hst.rd.belowW hbw HBL.out
       exact ⟨hD hblk7, hD ⟨hres7.set_other (by omega), by have q := hblk7.set_ 4 (.slice A7 (ls.length + 1) c7); simpa [machC] using q, hown.set_t hblk7 (by decide) (by decide) (by decide) (by decide) (by decide), hrd7.set HBL.out (by omega)⟩⟩)
      clear bb hst hq1 hq2 hrow hss
      go_wp2_with (first
       | (at_builtin
          refine wpList_append_atS (w := w12.alloc (.cells #[.int .i64 (n1 : Int), .int .i64 (n2 : Int), .int .i64 (n3 : Int), .slice A5 v.length c5, .int .i64 ((n4 : Int) - 1)] 71)) (c' := 1) w.heap.size HSS.out cellL (.tmp 69) (.tmp 71) rfl (by rfl) rfl HROW.out rfl HSRC.out (lastC_one A5 c5 _) (by omega) (by omega) ?_
          intro A7 c7 w13 ho7 hg7
          obtain ⟨hb7, HFIN⟩ := HPOST.out A7 c7 w13 ho7 hg7
          clear x0 x1 x2 x3 x4 y0 y1 y2 y3 y4
          obtain ⟨x0, x1, x2, x3, x4⟩ := five (t := 36) hb7.out
          obtain ⟨f0', f1, f2, f3, f4⟩ := five_frozen hb7.out
          clear ho7 hg7 hb7 HPOST)
       | fail)
      go_roundw
      case rel => exact ⟨j, A7, c7, ls ++ [l], t5, by simp; omega, by go_num, congrArg Value.bool (by rw [HOKS.out]; have h := HF0.out; revert h; cases ok0 <;> cases okT ls <;> simp), HFIN, HQ2⟩
      case measure => simp only [intOf]; omega
    | true =>
      cases nm with
      | false =>
        have hb2 := HS3.out.blk
        unfold machC at hb2
        simp only at hb2
        have hbd : Below w11.heap.size w11 w11.drew := (Below.refl _ _).drew
        have HS : Hid ((fun w' => Blk w' g 36 #[.slice A0 reg.length c0, .slice A1 acc.length c1, .slice A2 lk.length c2, .slice A3 ps.length c3, .slice At ls.length ct] /\ Blk w' e 71 #[.int .i64 (n1 : Int), .int .i64 (n2 : Int), .int .i64 (n3 : Int), .slice A5 v.length c5, .int .i64 ((n4 : Int) - 1)]) w11.drew) := hD ⟨hb2.below hbd, HKL.out.below hbd⟩
        have HS4 := hD (HS3.out.below HBL.out hbd)
        have HV4 := hD (own_below HV.out hbd)
        refine wp_region_held_drew (S := fun w' => Blk w' g 36 #[.slice A0 reg.length c0, .slice A1 acc.length c1, .slice A2 lk.length c2, .slice A3 ps.length c3, .slice At ls.length ct] /\ Blk w' e 71 #[.int .i64 (n1 : Int), .int .i64 (n2 : Int), .int .i64 (n3 : Int), .slice A5 v.length c5, .int .i64 ((n4 : Int) - 1)]) (by kernel_rfl) HS.out (fun _ => ?_)
        clear hbd hb2 HS3 HV HKL
        generalize w11.drew = w12 at HS HS4 HV4 |-
        refine tkL (i := 0) (v := .bool true) rfl (fun w _ => by go_simp) HS.out ?_
        refine tkL (i := 1) (v := .bool true) rfl (fun w _ => by go_simp) HS.out ?_
        refine tkL (i := 2) (v := .pointer (some ⟨e, 0, none⟩)) rfl (fun w _ => by go_simp) HS.out ?_
        refine tkL (i := 3) (v := .int .i64 (n1 : Int)) rfl (fun w h => by obtain ⟨q0, q1, q2, q3, q4⟩ := five (t := 71) h.2; go_simp) HS.out ?_
        refine tkL (i := 4) (v := .pointer (some ⟨e, 1, none⟩)) rfl (fun w _ => by go_simp) HS.out ?_
        refine tkL (i := 5) (v := .int .i64 (n2 : Int)) rfl (fun w h => by obtain ⟨q0, q1, q2, q3, q4⟩ := five (t := 71) h.2; go_simp) HS.out ?_
        refine rdH (rs := [6]) ?_
        refine AllReadyH.cons rfl (fun K hK => ?_) AllReadyH.nil
        go_simp
        refine (CN.out _).mono ?_
        rintro en w13 ⟨rfl, rfl⟩
        go_simp
        refine hK.out _ _ HS.out (fun _ => ?_)
        clear hK K
        refine rdH (rs := [7]) ?_
        refine AllReadyH.cons rfl (fun K hK => ?_) AllReadyH.nil
        go_simp
        refine hK.out _ _ HS.out (fun _ => ?_)
        clear hK K
        refine rdH (rs := [8]) ?_
        refine AllReadyH.cons rfl (fun K hK => ?_) AllReadyH.nil
        go_simp
        refine hK.out _ _ HS.out (fun _ => ?_)
        clear hK K
        refine tkR (i := 9) rfl HS.out ?_
        refine tkR (i := 10) rfl HS.out ?_
        refine tkR (i := 11) rfl HS.out ?_
        refine tkR (i := 12) rfl HS.out ?_
        refine tkR (i := 13) rfl HS.out ?_
        refine tkR (i := 14) rfl HS.out ?_
        refine tkR (i := 15) rfl HS.out ?_
        refine tkR (i := 16) rfl HS.out ?_
        refine tkR (i := 17) rfl HS.out ?_
        refine tkR (i := 18) rfl HS.out ?_
        refine tkR (i := 19) rfl HS.out ?_
        refine tkR (i := 20) rfl HS.out ?_
        refine tkR (i := 21) rfl HS.out ?_
        refine tkR (i := 22) rfl HS.out ?_
        refine tkR (i := 23) rfl HS.out ?_
        refine tkR (i := 24) rfl HS.out ?_
        refine tkR (i := 25) rfl HS.out ?_
        refine tkR (i := 26) rfl HS.out ?_
        refine rdH (rs := [27]) ?_
        refine AllReadyH.cons rfl (fun K hK => ?_) AllReadyH.nil
        go_simp
        refine hK.out _ _ HS.out (fun _ => ?_)
        clear hK K
        refine rdH (rs := [28]) ?_
        refine AllReadyH.cons rfl (fun K hK => ?_) AllReadyH.nil
        go_simp
        refine hK.out _ _ HS.out (fun _ => ?_)
        clear hK K
        refine wpAnyH_done (by kernel_rfl) ?_ _
        obtain ⟨x0, x1, x2, x3, x4⟩ := five (t := 36) HS.out.1
        obtain ⟨y0, y1, y2, y3, y4⟩ := five (t := 71) HS.out.2
        have HSRC : Hid (Rd (w12.alloc (.cells #[.int .i64 (n1 : Int), .int .i64 (n2 : Int), .int .i64 (n3 : Int), .slice A5 v.length c5, .int .i64 ((n4 : Int) - 1)] 71)) (w12.heap.size + 1) (some ⟨w12.heap.size, 0, none⟩) (1 * 5) (lastC A5 c5 ⟨n1, n2, n3, v, (n4 : Int) - 1⟩)) := hD (Rd.made w12 #[.int .i64 (n1 : Int), .int .i64 (n2 : Int), .int .i64 (n3 : Int), .slice A5 v.length c5, .int .i64 ((n4 : Int) - 1)] 71 (0, 0) 5 rfl)
        have bb : Below w12.heap.size w12 (w12.alloc (.cells #[.int .i64 (n1 : Int), .int .i64 (n2 : Int), .int .i64 (n3 : Int), .slice A5 v.length c5, .int .i64 ((n4 : Int) - 1)] 71)) := (Below.refl _ _).alloc lR _
        have hst := HS4.out.below HBL.out bb
        obtain ⟨vs, hq1, hq2⟩ := hst.own.t
        have hrow : (w12.alloc (.cells #[.int .i64 (n1 : Int), .int .i64 (n2 : Int), .int .i64 (n3 : Int), .slice A5 v.length c5, .int .i64 ((n4 : Int) - 1)] 71)).ownsRow w.heap.size 71 5 (.slice At ls.length ct) ls.length vs := hq1
        have hss := hst.rd.size
        have HSS := hD hss
        have HROW := hD hrow
        have HPOST : Hid (∀ A7 c7 w13, w13.ownsRow w.heap.size 71 5 (.slice A7 (ls.length + 1) c7) (ls.length + 1) (vs ++ lastC A5 c5 ⟨n1, n2, n3, v, (n4 : Int) - 1⟩) -> (w12.alloc (.cells #[.int .i64 (n1 : Int), .int .i64 (n2 : Int), .int .i64 (n3 : Int), .slice A5 v.length c5, .int .i64 ((n4 : Int) - 1)] 71)).grownBy w13 (Value.slice At ls.length ct).ownBlock -> Hid (Blk w13 g 36 #[.slice A0 reg.length c0, .slice A1 acc.length c1, .slice A2 lk.length c2, .slice A3 ps.length c3, .slice At ls.length ct]) /\ Hid (McSt w (w13.setCell ⟨g, 4, none⟩ (.slice A7 (ls.length + 1) c7)) B b g ⟨⟨A0, c0, A1, c1, A2, c2, A3, c3⟩, A7, c7⟩ ⟨⟨reg, acc, lk, ps⟩, ls ++ [l]⟩ t5)) := hD (by
         intro A7 c7 w13 ho7 hg7
         have hbw : Below w.heap.size (w12.alloc (.cells #[.int .i64 (n1 : Int), .int .i64 (n2 : Int), .int .i64 (n3 : Int), .slice A5 v.length c5, .int .i64 ((n4 : Int) - 1)] 71)) w13 := (Below.refl _ _).grown hg7 hss (fun k hk => (hrow.lt k hk).1)
         have hown : OwnM w w13 ⟨⟨A0, c0, A1, c1, A2, c2, A3, c3⟩, A7, c7⟩ ⟨⟨reg, acc, lk, ps⟩, ls ++ [l]⟩ := ⟨⟨own_grown_t hst.own.o.o0 hrow (by decide) hg7, hst.own.o.o1.grownL hrow hg7, own_grown_t hst.own.o.o2 hrow (by decide) hg7, hst.own.o.o3.grownL hrow hg7⟩, ⟨_, by rw [List.length_append]; exact ho7, by rw [HL.out]; exact OwnsL.grown (OwnsL.snoc hq2 (own_below HV4.out bb)) (by decide) hrow hg7⟩⟩
         have hres7 := hst.res.apart_own hrow (by decide) hg7
         have hblk7 := hst.blk.apart_own hrow (by decide) hg7
         have hrd7 := hst.rd.belowW hbw HBL.out
         exact ⟨hD hblk7, hD ⟨hres7.set_other (by omega), by have q := hblk7.set_ 4 (.slice A7 (ls.length + 1) c7); simpa [machC] using q, hown.set_t hblk7 (by decide) (by decide) (by decide) (by decide) (by decide), hrd7.set HBL.out (by omega)⟩⟩)
        clear bb hst hq1 hq2 hrow hss
        go_wp2_with (first
         | (at_builtin
            refine wpList_append_atS (w := w12.alloc (.cells #[.int .i64 (n1 : Int), .int .i64 (n2 : Int), .int .i64 (n3 : Int), .slice A5 v.length c5, .int .i64 ((n4 : Int) - 1)] 71)) (c' := 1) w.heap.size HSS.out cellL (.tmp 69) (.tmp 71) rfl (by rfl) rfl HROW.out rfl HSRC.out (lastC_one A5 c5 _) (by omega) (by omega) ?_
            intro A7 c7 w13 ho7 hg7
            obtain ⟨hb7, HFIN⟩ := HPOST.out A7 c7 w13 ho7 hg7
            clear x0 x1 x2 x3 x4 y0 y1 y2 y3 y4
            obtain ⟨x0, x1, x2, x3, x4⟩ := five (t := 36) hb7.out
            obtain ⟨f0', f1, f2, f3, f4⟩ := five_frozen hb7.out
            clear ho7 hg7 hb7 HPOST)
         | fail)
        go_roundw
        case rel => exact ⟨j, A7, c7, ls ++ [l], t5, by simp; omega, by go_num, congrArg Value.bool (by rw [HOKS.out]; have h := HF0.out; revert h; cases ok0 <;> cases okT ls <;> simp), HFIN, HQ2⟩
        case measure => simp only [intOf]; omega
      | true =>
        by_cases hps : ls.length = 0
        · have hpi : ((ls.length : Int) == 0) = true := by simpa using hps
          have HGL : Hid (ls.getLast? = none) := hD (by rw [List.length_eq_zero_iff.1 hps]; rfl)
          clear hps
          have hb2 := HS3.out.blk
          unfold machC at hb2
          simp only at hb2
          have hbd : Below w11.heap.size w11 w11.drew := (Below.refl _ _).drew
          have HS : Hid ((fun w' => Blk w' g 36 #[.slice A0 reg.length c0, .slice A1 acc.length c1, .slice A2 lk.length c2, .slice A3 ps.length c3, .slice At ls.length ct] /\ Blk w' e 71 #[.int .i64 (n1 : Int), .int .i64 (n2 : Int), .int .i64 (n3 : Int), .slice A5 v.length c5, .int .i64 ((n4 : Int) - 1)]) w11.drew) := hD ⟨hb2.below hbd, HKL.out.below hbd⟩
          have HS4 := hD (HS3.out.below HBL.out hbd)
          have HV4 := hD (own_below HV.out hbd)
          refine wp_region_held_drew (S := fun w' => Blk w' g 36 #[.slice A0 reg.length c0, .slice A1 acc.length c1, .slice A2 lk.length c2, .slice A3 ps.length c3, .slice At ls.length ct] /\ Blk w' e 71 #[.int .i64 (n1 : Int), .int .i64 (n2 : Int), .int .i64 (n3 : Int), .slice A5 v.length c5, .int .i64 ((n4 : Int) - 1)]) (by kernel_rfl) HS.out (fun _ => ?_)
          clear hbd hb2 HS3 HV HKL
          generalize w11.drew = w12 at HS HS4 HV4 |-
          refine tkL (i := 0) (v := .bool true) rfl (fun w _ => by go_simp) HS.out ?_
          refine tkL (i := 1) (v := .bool true) rfl (fun w _ => by go_simp) HS.out ?_
          refine tkL (i := 2) (v := .pointer (some ⟨e, 0, none⟩)) rfl (fun w _ => by go_simp) HS.out ?_
          refine tkL (i := 3) (v := .int .i64 (n1 : Int)) rfl (fun w h => by obtain ⟨q0, q1, q2, q3, q4⟩ := five (t := 71) h.2; go_simp) HS.out ?_
          refine tkL (i := 4) (v := .pointer (some ⟨e, 1, none⟩)) rfl (fun w _ => by go_simp) HS.out ?_
          refine tkL (i := 5) (v := .int .i64 (n2 : Int)) rfl (fun w h => by obtain ⟨q0, q1, q2, q3, q4⟩ := five (t := 71) h.2; go_simp) HS.out ?_
          refine rdH (rs := [6]) ?_
          refine AllReadyH.cons rfl (fun K hK => ?_) AllReadyH.nil
          go_simp
          refine (CN.out _).mono ?_
          rintro en w13 ⟨rfl, rfl⟩
          go_simp
          refine hK.out _ _ HS.out (fun _ => ?_)
          clear hK K
          refine tkL (i := 7) (v := .bool true) rfl (fun w _ => by go_simp) HS.out ?_
          refine tkL (i := 8) (v := .bool true) rfl (fun w _ => by go_simp) HS.out ?_
          refine tkL (i := 9) (v := .pointer (some ⟨g, 4, none⟩)) rfl (fun w _ => by go_simp) HS.out ?_
          refine tkL (i := 10) (v := .slice At ls.length ct) rfl (fun w h => by obtain ⟨q0, q1, q2, q3, q4⟩ := five (t := 36) h.1; go_simp) HS.out ?_
          refine tkL (i := 11) (v := .int .i64 (ls.length : Int)) rfl (fun w _ => by go_simp) HS.out ?_
          refine tkL (i := 12) (v := .bool true) rfl (fun w _ => by go_simp) HS.out ?_
          refine rdH (rs := [13]) ?_
          refine AllReadyH.cons rfl (fun K hK => ?_) AllReadyH.nil
          go_simp
          refine hK.out _ _ HS.out (fun _ => ?_)
          clear hK K
          refine tkR (i := 14) rfl HS.out ?_
          refine tkR (i := 15) rfl HS.out ?_
          refine tkR (i := 16) rfl HS.out ?_
          refine tkR (i := 17) rfl HS.out ?_
          refine tkR (i := 18) rfl HS.out ?_
          refine tkR (i := 19) rfl HS.out ?_
          refine tkR (i := 20) rfl HS.out ?_
          refine tkR (i := 21) rfl HS.out ?_
          refine tkR (i := 22) rfl HS.out ?_
          refine tkR (i := 23) rfl HS.out ?_
          refine tkR (i := 24) rfl HS.out ?_
          refine tkR (i := 25) rfl HS.out ?_
          refine rdH (rs := [26]) ?_
          refine AllReadyH.cons rfl (fun K hK => ?_) AllReadyH.nil
          go_simp
          refine hK.out _ _ HS.out (fun _ => ?_)
          clear hK K
          refine rdH (rs := [27]) ?_
          refine AllReadyH.cons rfl (fun K hK => ?_) AllReadyH.nil
          go_simp
          refine hK.out _ _ HS.out (fun _ => ?_)
          clear hK K
          refine rdH (rs := [28]) ?_
          refine AllReadyH.cons rfl (fun K hK => ?_) AllReadyH.nil
          go_simp
          refine hK.out _ _ HS.out (fun _ => ?_)
          clear hK K
          refine wpAnyH_done (by kernel_rfl) ?_ _
          obtain ⟨x0, x1, x2, x3, x4⟩ := five (t := 36) HS.out.1
          obtain ⟨y0, y1, y2, y3, y4⟩ := five (t := 71) HS.out.2
          have HSRC : Hid (Rd (w12.alloc (.cells #[.int .i64 (n1 : Int), .int .i64 (n2 : Int), .int .i64 (n3 : Int), .slice A5 v.length c5, .int .i64 ((n4 : Int) - 1)] 71)) (w12.heap.size + 1) (some ⟨w12.heap.size, 0, none⟩) (1 * 5) (lastC A5 c5 ⟨n1, n2, n3, v, (n4 : Int) - 1⟩)) := hD (Rd.made w12 #[.int .i64 (n1 : Int), .int .i64 (n2 : Int), .int .i64 (n3 : Int), .slice A5 v.length c5, .int .i64 ((n4 : Int) - 1)] 71 (0, 0) 5 rfl)
          have bb : Below w12.heap.size w12 (w12.alloc (.cells #[.int .i64 (n1 : Int), .int .i64 (n2 : Int), .int .i64 (n3 : Int), .slice A5 v.length c5, .int .i64 ((n4 : Int) - 1)] 71)) := (Below.refl _ _).alloc lR _
          have hst := HS4.out.below HBL.out bb
          obtain ⟨vs, hq1, hq2⟩ := hst.own.t
          have hrow : (w12.alloc (.cells #[.int .i64 (n1 : Int), .int .i64 (n2 : Int), .int .i64 (n3 : Int), .slice A5 v.length c5, .int .i64 ((n4 : Int) - 1)] 71)).ownsRow w.heap.size 71 5 (.slice At ls.length ct) ls.length vs := hq1
          have hss := hst.rd.size
          have HSS := hD hss
          have HROW := hD hrow
          have HPOST : Hid (∀ A7 c7 w13, w13.ownsRow w.heap.size 71 5 (.slice A7 (ls.length + 1) c7) (ls.length + 1) (vs ++ lastC A5 c5 ⟨n1, n2, n3, v, (n4 : Int) - 1⟩) -> (w12.alloc (.cells #[.int .i64 (n1 : Int), .int .i64 (n2 : Int), .int .i64 (n3 : Int), .slice A5 v.length c5, .int .i64 ((n4 : Int) - 1)] 71)).grownBy w13 (Value.slice At ls.length ct).ownBlock -> Hid (Blk w13 g 36 #[.slice A0 reg.length c0, .slice A1 acc.length c1, .slice A2 lk.length c2, .slice A3 ps.length c3, .slice At ls.length ct]) /\ Hid (McSt w (w13.setCell ⟨g, 4, none⟩ (.slice A7 (ls.length + 1) c7)) B b g ⟨⟨A0, c0, A1, c1, A2, c2, A3, c3⟩, A7, c7⟩ ⟨⟨reg, acc, lk, ps⟩, ls ++ [l]⟩ t5)) := hD (by
           intro A7 c7 w13 ho7 hg7
           have hbw : Below w.heap.size (w12.alloc (.cells #[.int .i64 (n1 : Int), .int .i64 (n2 : Int), .int .i64 (n3 : Int), .slice A5 v.length c5, .int .i64 ((n4 : Int) - 1)] 71)) w13 := (Below.refl _ _).grown hg7 hss (fun k hk => (hrow.lt k hk).1)
           have hown : OwnM w w13 ⟨⟨A0, c0, A1, c1, A2, c2, A3, c3⟩, A7, c7⟩ ⟨⟨reg, acc, lk, ps⟩, ls ++ [l]⟩ := ⟨⟨own_grown_t hst.own.o.o0 hrow (by decide) hg7, hst.own.o.o1.grownL hrow hg7, own_grown_t hst.own.o.o2 hrow (by decide) hg7, hst.own.o.o3.grownL hrow hg7⟩, ⟨_, by rw [List.length_append]; exact ho7, by rw [HL.out]; exact OwnsL.grown (OwnsL.snoc hq2 (own_below HV4.out bb)) (by decide) hrow hg7⟩⟩
           have hres7 := hst.res.apart_own hrow (by decide) hg7
           have hblk7 := hst.blk.apart_own hrow (by decide) hg7
           have hrd7 := hst.rd.belowW hbw HBL.out
           exact ⟨hD hblk7, hD ⟨hres7.set_other (by omega), by have q := hblk7.set_ 4 (.slice A7 (ls.length + 1) c7); simpa [machC] using q, hown.set_t hblk7 (by decide) (by decide) (by decide) (by decide) (by decide), hrd7.set HBL.out (by omega)⟩⟩)
          clear bb hst hq1 hq2 hrow hss
          go_wp2_with (first
           | (at_builtin
              refine wpList_append_atS (w := w12.alloc (.cells #[.int .i64 (n1 : Int), .int .i64 (n2 : Int), .int .i64 (n3 : Int), .slice A5 v.length c5, .int .i64 ((n4 : Int) - 1)] 71)) (c' := 1) w.heap.size HSS.out cellL (.tmp 69) (.tmp 71) rfl (by rfl) rfl HROW.out rfl HSRC.out (lastC_one A5 c5 _) (by omega) (by omega) ?_
              intro A7 c7 w13 ho7 hg7
              obtain ⟨hb7, HFIN⟩ := HPOST.out A7 c7 w13 ho7 hg7
              clear x0 x1 x2 x3 x4 y0 y1 y2 y3 y4
              obtain ⟨x0, x1, x2, x3, x4⟩ := five (t := 36) hb7.out
              obtain ⟨f0', f1, f2, f3, f4⟩ := five_frozen hb7.out
              clear ho7 hg7 hb7 HPOST)
           | fail)
          go_roundw
          case rel => exact ⟨j, A7, c7, ls ++ [l], t5, by simp; omega, by go_num, congrArg Value.bool (by rw [HOKS.out, HGL.out]; have h := HF0.out; revert h; cases ok0 <;> cases okT ls <;> simp), HFIN, HQ2⟩
          case measure => simp only [intOf]; omega
        · obtain ⟨m, hm⟩ : ∃ m, ls.length = m + 1 := ⟨ls.length - 1, by omega⟩
          obtain ⟨b3, pl, A8, c8, hA, hpl, _, _, hcl1, _⟩ := HS3.out.own.t.at (k := m) (show m < ls.length by omega)
          have hA : At = some ⟨b3, 0, none⟩ := hA
          subst hA
          have hpl : ls[m]? = some pl := hpl
          have HGL : Hid (ls.getLast? = some pl) := hD (by rw [List.getLast?_eq_getElem?, hm]; exact hpl)
          have hpi : ((ls.length : Int) == 0) = false := by rw [hm]; simp; omega
          have hsub : IntKind.i64.wrap ((ls.length : Int) - 1) = (m : Int) := by rw [hm, show ((m + 1 : Nat) : Int) - 1 = (m : Int) by omega]; exact IntWalk.i64_in _ (by omega)
          have hml : (m : Int) < (ls.length : Int) := by omega
          have hm0 : (0 : Int) <= (m : Int) := by omega
          by_cases hlt : pl.s < (n1 : Int)
          · have HLT : Hid (decide (pl.s < (n1 : Int)) = true) := hD (decide_eq_true hlt)
            have hb2 := HS3.out.blk
            unfold machC at hb2
            simp only at hb2
            have hbd : Below w11.heap.size w11 w11.drew := (Below.refl _ _).drew
            have HS : Hid ((fun w' => Blk w' g 36 #[.slice A0 reg.length c0, .slice A1 acc.length c1, .slice A2 lk.length c2, .slice A3 ps.length c3, .slice (some ⟨b3, 0, none⟩) ls.length ct] /\ Blk w' e 71 #[.int .i64 (n1 : Int), .int .i64 (n2 : Int), .int .i64 (n3 : Int), .slice A5 v.length c5, .int .i64 ((n4 : Int) - 1)] /\ w'.cell? ⟨b3, m * 5, none⟩ = some (.int .i64 pl.s)) w11.drew) := hD ⟨hb2.below hbd, HKL.out.below hbd, (hbd.cell (p := ⟨b3, m * 5, none⟩) (World.block_lt_of_cell? _ _ hcl1)).trans hcl1⟩
            have HS4 := hD (HS3.out.below HBL.out hbd)
            have HV4 := hD (own_below HV.out hbd)
            refine wp_region_held_drew (S := fun w' => Blk w' g 36 #[.slice A0 reg.length c0, .slice A1 acc.length c1, .slice A2 lk.length c2, .slice A3 ps.length c3, .slice (some ⟨b3, 0, none⟩) ls.length ct] /\ Blk w' e 71 #[.int .i64 (n1 : Int), .int .i64 (n2 : Int), .int .i64 (n3 : Int), .slice A5 v.length c5, .int .i64 ((n4 : Int) - 1)] /\ w'.cell? ⟨b3, m * 5, none⟩ = some (.int .i64 pl.s)) (by kernel_rfl) HS.out (fun _ => ?_)
            clear hbd hb2 HS3 HV HKL hps hpl hcl1 hm
            generalize w11.drew = w12 at HS HS4 HV4 |-
            refine tkL (i := 0) (v := .bool true) rfl (fun w _ => by go_simp) HS.out ?_
            refine tkL (i := 1) (v := .bool true) rfl (fun w _ => by go_simp) HS.out ?_
            refine tkL (i := 2) (v := .pointer (some ⟨e, 0, none⟩)) rfl (fun w _ => by go_simp) HS.out ?_
            refine tkL (i := 3) (v := .int .i64 (n1 : Int)) rfl (fun w h => by obtain ⟨q0, q1, q2, q3, q4⟩ := five (t := 71) h.2.1; go_simp) HS.out ?_
            refine tkL (i := 4) (v := .pointer (some ⟨e, 1, none⟩)) rfl (fun w _ => by go_simp) HS.out ?_
            refine tkL (i := 5) (v := .int .i64 (n2 : Int)) rfl (fun w h => by obtain ⟨q0, q1, q2, q3, q4⟩ := five (t := 71) h.2.1; go_simp) HS.out ?_
            refine rdH (rs := [6]) ?_
            refine AllReadyH.cons rfl (fun K hK => ?_) AllReadyH.nil
            go_simp
            refine (CN.out _).mono ?_
            rintro en w13 ⟨rfl, rfl⟩
            go_simp
            refine hK.out _ _ HS.out (fun _ => ?_)
            clear hK K
            refine tkL (i := 7) (v := .bool true) rfl (fun w _ => by go_simp) HS.out ?_
            refine tkL (i := 8) (v := .bool true) rfl (fun w _ => by go_simp) HS.out ?_
            refine tkL (i := 9) (v := .pointer (some ⟨g, 4, none⟩)) rfl (fun w _ => by go_simp) HS.out ?_
            refine tkL (i := 10) (v := .slice (some ⟨b3, 0, none⟩) ls.length ct) rfl (fun w h => by obtain ⟨q0, q1, q2, q3, q4⟩ := five (t := 36) h.1; go_simp) HS.out ?_
            refine tkL (i := 11) (v := .int .i64 (ls.length : Int)) rfl (fun w _ => by go_simp) HS.out ?_
            refine tkL (i := 12) (v := .bool false) rfl (fun w _ => by go_simp) HS.out ?_
            refine rdH (rs := [13]) ?_
            refine AllReadyH.cons rfl (fun K hK => ?_) AllReadyH.nil
            go_simp
            refine hK.out _ _ HS.out (fun _ => ?_)
            clear hK K
            refine tkL (i := 14) (v := .pointer (some ⟨g, 4, none⟩)) rfl (fun w _ => by go_simp) HS.out ?_
            refine tkL (i := 16) (v := .pointer (some ⟨g, 4, none⟩)) rfl (fun w _ => by go_simp) HS.out ?_
            refine tkL (i := 15) (v := .slice (some ⟨b3, 0, none⟩) ls.length ct) rfl (fun w h => by obtain ⟨q0, q1, q2, q3, q4⟩ := five (t := 36) h.1; go_simp) HS.out ?_
            refine tkL (i := 17) (v := .slice (some ⟨b3, 0, none⟩) ls.length ct) rfl (fun w h => by obtain ⟨q0, q1, q2, q3, q4⟩ := five (t := 36) h.1; go_simp) HS.out ?_
            refine tkL (i := 18) (v := .int .i64 (ls.length : Int)) rfl (fun w _ => by go_simp) HS.out ?_
            refine tkL (i := 19) (v := .int .i64 (m : Int)) rfl (fun w _ => by go_simp) HS.out ?_
            refine tkL (i := 20) (v := .pointer (some ⟨b3, m * 5, none⟩)) rfl (fun w _ => by go_simp) HS.out ?_
            refine tkL (i := 21) (v := .pointer (some ⟨b3, m * 5, none⟩)) rfl (fun w _ => by go_simp) HS.out ?_
            refine tkL (i := 22) (v := .int .i64 pl.s) rfl (fun w h => by have q := h.2.2; go_simp) HS.out ?_
            refine tkL (i := 23) (v := .pointer (some ⟨e, 0, none⟩)) rfl (fun w _ => by go_simp) HS.out ?_
            refine tkL (i := 24) (v := .int .i64 (n1 : Int)) rfl (fun w h => by obtain ⟨q0, q1, q2, q3, q4⟩ := five (t := 71) h.2.1; go_simp) HS.out ?_
            refine tkL (i := 25) (v := .bool true) rfl (fun w _ => by go_simp) HS.out ?_
            refine rdH (rs := [26]) ?_
            refine AllReadyH.cons rfl (fun K hK => ?_) AllReadyH.nil
            go_simp
            refine hK.out _ _ HS.out (fun _ => ?_)
            clear hK K
            refine rdH (rs := [27]) ?_
            refine AllReadyH.cons rfl (fun K hK => ?_) AllReadyH.nil
            go_simp
            refine hK.out _ _ HS.out (fun _ => ?_)
            clear hK K
            refine rdH (rs := [28]) ?_
            refine AllReadyH.cons rfl (fun K hK => ?_) AllReadyH.nil
            go_simp
            refine hK.out _ _ HS.out (fun _ => ?_)
            clear hK K
            refine wpAnyH_done (by kernel_rfl) ?_ _
            obtain ⟨x0, x1, x2, x3, x4⟩ := five (t := 36) HS.out.1
            obtain ⟨y0, y1, y2, y3, y4⟩ := five (t := 71) HS.out.2.1
            have HSRC : Hid (Rd (w12.alloc (.cells #[.int .i64 (n1 : Int), .int .i64 (n2 : Int), .int .i64 (n3 : Int), .slice A5 v.length c5, .int .i64 ((n4 : Int) - 1)] 71)) (w12.heap.size + 1) (some ⟨w12.heap.size, 0, none⟩) (1 * 5) (lastC A5 c5 ⟨n1, n2, n3, v, (n4 : Int) - 1⟩)) := hD (Rd.made w12 #[.int .i64 (n1 : Int), .int .i64 (n2 : Int), .int .i64 (n3 : Int), .slice A5 v.length c5, .int .i64 ((n4 : Int) - 1)] 71 (0, 0) 5 rfl)
            have bb : Below w12.heap.size w12 (w12.alloc (.cells #[.int .i64 (n1 : Int), .int .i64 (n2 : Int), .int .i64 (n3 : Int), .slice A5 v.length c5, .int .i64 ((n4 : Int) - 1)] 71)) := (Below.refl _ _).alloc lR _
            have hst := HS4.out.below HBL.out bb
            obtain ⟨vs, hq1, hq2⟩ := hst.own.t
            have hrow : (w12.alloc (.cells #[.int .i64 (n1 : Int), .int .i64 (n2 : Int), .int .i64 (n3 : Int), .slice A5 v.length c5, .int .i64 ((n4 : Int) - 1)] 71)).ownsRow w.heap.size 71 5 (.slice (some ⟨b3, 0, none⟩) ls.length ct) ls.length vs := hq1
            have hss := hst.rd.size
            have HSS := hD hss
            have HROW := hD hrow
            have HPOST : Hid (∀ A7 c7 w13, w13.ownsRow w.heap.size 71 5 (.slice A7 (ls.length + 1) c7) (ls.length + 1) (vs ++ lastC A5 c5 ⟨n1, n2, n3, v, (n4 : Int) - 1⟩) -> (w12.alloc (.cells #[.int .i64 (n1 : Int), .int .i64 (n2 : Int), .int .i64 (n3 : Int), .slice A5 v.length c5, .int .i64 ((n4 : Int) - 1)] 71)).grownBy w13 (Value.slice (some ⟨b3, 0, none⟩) ls.length ct).ownBlock -> Hid (Blk w13 g 36 #[.slice A0 reg.length c0, .slice A1 acc.length c1, .slice A2 lk.length c2, .slice A3 ps.length c3, .slice (some ⟨b3, 0, none⟩) ls.length ct]) /\ Hid (McSt w (w13.setCell ⟨g, 4, none⟩ (.slice A7 (ls.length + 1) c7)) B b g ⟨⟨A0, c0, A1, c1, A2, c2, A3, c3⟩, A7, c7⟩ ⟨⟨reg, acc, lk, ps⟩, ls ++ [l]⟩ t5)) := hD (by
             intro A7 c7 w13 ho7 hg7
             have hbw : Below w.heap.size (w12.alloc (.cells #[.int .i64 (n1 : Int), .int .i64 (n2 : Int), .int .i64 (n3 : Int), .slice A5 v.length c5, .int .i64 ((n4 : Int) - 1)] 71)) w13 := (Below.refl _ _).grown hg7 hss (fun k hk => (hrow.lt k hk).1)
             have hown : OwnM w w13 ⟨⟨A0, c0, A1, c1, A2, c2, A3, c3⟩, A7, c7⟩ ⟨⟨reg, acc, lk, ps⟩, ls ++ [l]⟩ := ⟨⟨own_grown_t hst.own.o.o0 hrow (by decide) hg7, hst.own.o.o1.grownL hrow hg7, own_grown_t hst.own.o.o2 hrow (by decide) hg7, hst.own.o.o3.grownL hrow hg7⟩, ⟨_, by rw [List.length_append]; exact ho7, by rw [HL.out]; exact OwnsL.grown (OwnsL.snoc hq2 (own_below HV4.out bb)) (by decide) hrow hg7⟩⟩
             have hres7 := hst.res.apart_own hrow (by decide) hg7
             have hblk7 := hst.blk.apart_own hrow (by decide) hg7
             have hrd7 := hst.rd.belowW hbw HBL.out
             exact ⟨hD hblk7, hD ⟨hres7.set_other (by omega), by have q := hblk7.set_ 4 (.slice A7 (ls.length + 1) c7); simpa [machC] using q, hown.set_t hblk7 (by decide) (by decide) (by decide) (by decide) (by decide), hrd7.set HBL.out (by omega)⟩⟩)
            clear bb hst hq1 hq2 hrow hss
            go_wp2_with (first
             | (at_builtin
                refine wpList_append_atS (w := w12.alloc (.cells #[.int .i64 (n1 : Int), .int .i64 (n2 : Int), .int .i64 (n3 : Int), .slice A5 v.length c5, .int .i64 ((n4 : Int) - 1)] 71)) (c' := 1) w.heap.size HSS.out cellL (.tmp 69) (.tmp 71) rfl (by rfl) rfl HROW.out rfl HSRC.out (lastC_one A5 c5 _) (by omega) (by omega) ?_
                intro A7 c7 w13 ho7 hg7
                obtain ⟨hb7, HFIN⟩ := HPOST.out A7 c7 w13 ho7 hg7
                clear x0 x1 x2 x3 x4 y0 y1 y2 y3 y4
                obtain ⟨x0, x1, x2, x3, x4⟩ := five (t := 36) hb7.out
                obtain ⟨f0', f1, f2, f3, f4⟩ := five_frozen hb7.out
                clear ho7 hg7 hb7 HPOST)
             | fail)
            go_roundw
            case rel => exact ⟨j, A7, c7, ls ++ [l], t5, by simp; omega, by go_num, congrArg Value.bool (by rw [HOKS.out, HGL.out]; have h := HF0.out; simp only [HLT.out]; revert h; cases ok0 <;> cases okT ls <;> simp), HFIN, HQ2⟩
            case measure => simp only [intOf]; omega
          · have HLT : Hid (decide (pl.s < (n1 : Int)) = false) := hD (decide_eq_false hlt)
            have hb2 := HS3.out.blk
            unfold machC at hb2
            simp only at hb2
            have hbd : Below w11.heap.size w11 w11.drew := (Below.refl _ _).drew
            have HS : Hid ((fun w' => Blk w' g 36 #[.slice A0 reg.length c0, .slice A1 acc.length c1, .slice A2 lk.length c2, .slice A3 ps.length c3, .slice (some ⟨b3, 0, none⟩) ls.length ct] /\ Blk w' e 71 #[.int .i64 (n1 : Int), .int .i64 (n2 : Int), .int .i64 (n3 : Int), .slice A5 v.length c5, .int .i64 ((n4 : Int) - 1)] /\ w'.cell? ⟨b3, m * 5, none⟩ = some (.int .i64 pl.s)) w11.drew) := hD ⟨hb2.below hbd, HKL.out.below hbd, (hbd.cell (p := ⟨b3, m * 5, none⟩) (World.block_lt_of_cell? _ _ hcl1)).trans hcl1⟩
            have HS4 := hD (HS3.out.below HBL.out hbd)
            have HV4 := hD (own_below HV.out hbd)
            refine wp_region_held_drew (S := fun w' => Blk w' g 36 #[.slice A0 reg.length c0, .slice A1 acc.length c1, .slice A2 lk.length c2, .slice A3 ps.length c3, .slice (some ⟨b3, 0, none⟩) ls.length ct] /\ Blk w' e 71 #[.int .i64 (n1 : Int), .int .i64 (n2 : Int), .int .i64 (n3 : Int), .slice A5 v.length c5, .int .i64 ((n4 : Int) - 1)] /\ w'.cell? ⟨b3, m * 5, none⟩ = some (.int .i64 pl.s)) (by kernel_rfl) HS.out (fun _ => ?_)
            clear hbd hb2 HS3 HV HKL hps hpl hcl1 hm
            generalize w11.drew = w12 at HS HS4 HV4 |-
            refine tkL (i := 0) (v := .bool true) rfl (fun w _ => by go_simp) HS.out ?_
            refine tkL (i := 1) (v := .bool true) rfl (fun w _ => by go_simp) HS.out ?_
            refine tkL (i := 2) (v := .pointer (some ⟨e, 0, none⟩)) rfl (fun w _ => by go_simp) HS.out ?_
            refine tkL (i := 3) (v := .int .i64 (n1 : Int)) rfl (fun w h => by obtain ⟨q0, q1, q2, q3, q4⟩ := five (t := 71) h.2.1; go_simp) HS.out ?_
            refine tkL (i := 4) (v := .pointer (some ⟨e, 1, none⟩)) rfl (fun w _ => by go_simp) HS.out ?_
            refine tkL (i := 5) (v := .int .i64 (n2 : Int)) rfl (fun w h => by obtain ⟨q0, q1, q2, q3, q4⟩ := five (t := 71) h.2.1; go_simp) HS.out ?_
            refine rdH (rs := [6]) ?_
            refine AllReadyH.cons rfl (fun K hK => ?_) AllReadyH.nil
            go_simp
            refine (CN.out _).mono ?_
            rintro en w13 ⟨rfl, rfl⟩
            go_simp
            refine hK.out _ _ HS.out (fun _ => ?_)
            clear hK K
            refine tkL (i := 7) (v := .bool true) rfl (fun w _ => by go_simp) HS.out ?_
            refine tkL (i := 8) (v := .bool true) rfl (fun w _ => by go_simp) HS.out ?_
            refine tkL (i := 9) (v := .pointer (some ⟨g, 4, none⟩)) rfl (fun w _ => by go_simp) HS.out ?_
            refine tkL (i := 10) (v := .slice (some ⟨b3, 0, none⟩) ls.length ct) rfl (fun w h => by obtain ⟨q0, q1, q2, q3, q4⟩ := five (t := 36) h.1; go_simp) HS.out ?_
            refine tkL (i := 11) (v := .int .i64 (ls.length : Int)) rfl (fun w _ => by go_simp) HS.out ?_
            refine tkL (i := 12) (v := .bool false) rfl (fun w _ => by go_simp) HS.out ?_
            refine rdH (rs := [13]) ?_
            refine AllReadyH.cons rfl (fun K hK => ?_) AllReadyH.nil
            go_simp
            refine hK.out _ _ HS.out (fun _ => ?_)
            clear hK K
            refine tkL (i := 14) (v := .pointer (some ⟨g, 4, none⟩)) rfl (fun w _ => by go_simp) HS.out ?_
            refine tkL (i := 16) (v := .pointer (some ⟨g, 4, none⟩)) rfl (fun w _ => by go_simp) HS.out ?_
            refine tkL (i := 15) (v := .slice (some ⟨b3, 0, none⟩) ls.length ct) rfl (fun w h => by obtain ⟨q0, q1, q2, q3, q4⟩ := five (t := 36) h.1; go_simp) HS.out ?_
            refine tkL (i := 17) (v := .slice (some ⟨b3, 0, none⟩) ls.length ct) rfl (fun w h => by obtain ⟨q0, q1, q2, q3, q4⟩ := five (t := 36) h.1; go_simp) HS.out ?_
            refine tkL (i := 18) (v := .int .i64 (ls.length : Int)) rfl (fun w _ => by go_simp) HS.out ?_
            refine tkL (i := 19) (v := .int .i64 (m : Int)) rfl (fun w _ => by go_simp) HS.out ?_
            refine tkL (i := 20) (v := .pointer (some ⟨b3, m * 5, none⟩)) rfl (fun w _ => by go_simp) HS.out ?_
            refine tkL (i := 21) (v := .pointer (some ⟨b3, m * 5, none⟩)) rfl (fun w _ => by go_simp) HS.out ?_
            refine tkL (i := 22) (v := .int .i64 pl.s) rfl (fun w h => by have q := h.2.2; go_simp) HS.out ?_
            refine tkL (i := 23) (v := .pointer (some ⟨e, 0, none⟩)) rfl (fun w _ => by go_simp) HS.out ?_
            refine tkL (i := 24) (v := .int .i64 (n1 : Int)) rfl (fun w h => by obtain ⟨q0, q1, q2, q3, q4⟩ := five (t := 71) h.2.1; go_simp) HS.out ?_
            refine tkL (i := 25) (v := .bool false) rfl (fun w _ => by go_simp) HS.out ?_
            refine rdH (rs := [26]) ?_
            refine AllReadyH.cons rfl (fun K hK => ?_) AllReadyH.nil
            go_simp
            refine hK.out _ _ HS.out (fun _ => ?_)
            clear hK K
            refine rdH (rs := [27]) ?_
            refine AllReadyH.cons rfl (fun K hK => ?_) AllReadyH.nil
            go_simp
            refine hK.out _ _ HS.out (fun _ => ?_)
            clear hK K
            refine rdH (rs := [28]) ?_
            refine AllReadyH.cons rfl (fun K hK => ?_) AllReadyH.nil
            go_simp
            refine hK.out _ _ HS.out (fun _ => ?_)
            clear hK K
            refine wpAnyH_done (by kernel_rfl) ?_ _
            obtain ⟨x0, x1, x2, x3, x4⟩ := five (t := 36) HS.out.1
            obtain ⟨y0, y1, y2, y3, y4⟩ := five (t := 71) HS.out.2.1
            have HSRC : Hid (Rd (w12.alloc (.cells #[.int .i64 (n1 : Int), .int .i64 (n2 : Int), .int .i64 (n3 : Int), .slice A5 v.length c5, .int .i64 ((n4 : Int) - 1)] 71)) (w12.heap.size + 1) (some ⟨w12.heap.size, 0, none⟩) (1 * 5) (lastC A5 c5 ⟨n1, n2, n3, v, (n4 : Int) - 1⟩)) := hD (Rd.made w12 #[.int .i64 (n1 : Int), .int .i64 (n2 : Int), .int .i64 (n3 : Int), .slice A5 v.length c5, .int .i64 ((n4 : Int) - 1)] 71 (0, 0) 5 rfl)
            have bb : Below w12.heap.size w12 (w12.alloc (.cells #[.int .i64 (n1 : Int), .int .i64 (n2 : Int), .int .i64 (n3 : Int), .slice A5 v.length c5, .int .i64 ((n4 : Int) - 1)] 71)) := (Below.refl _ _).alloc lR _
            have hst := HS4.out.below HBL.out bb
            obtain ⟨vs, hq1, hq2⟩ := hst.own.t
            have hrow : (w12.alloc (.cells #[.int .i64 (n1 : Int), .int .i64 (n2 : Int), .int .i64 (n3 : Int), .slice A5 v.length c5, .int .i64 ((n4 : Int) - 1)] 71)).ownsRow w.heap.size 71 5 (.slice (some ⟨b3, 0, none⟩) ls.length ct) ls.length vs := hq1
            have hss := hst.rd.size
            have HSS := hD hss
            have HROW := hD hrow
            have HPOST : Hid (∀ A7 c7 w13, w13.ownsRow w.heap.size 71 5 (.slice A7 (ls.length + 1) c7) (ls.length + 1) (vs ++ lastC A5 c5 ⟨n1, n2, n3, v, (n4 : Int) - 1⟩) -> (w12.alloc (.cells #[.int .i64 (n1 : Int), .int .i64 (n2 : Int), .int .i64 (n3 : Int), .slice A5 v.length c5, .int .i64 ((n4 : Int) - 1)] 71)).grownBy w13 (Value.slice (some ⟨b3, 0, none⟩) ls.length ct).ownBlock -> Hid (Blk w13 g 36 #[.slice A0 reg.length c0, .slice A1 acc.length c1, .slice A2 lk.length c2, .slice A3 ps.length c3, .slice (some ⟨b3, 0, none⟩) ls.length ct]) /\ Hid (McSt w (w13.setCell ⟨g, 4, none⟩ (.slice A7 (ls.length + 1) c7)) B b g ⟨⟨A0, c0, A1, c1, A2, c2, A3, c3⟩, A7, c7⟩ ⟨⟨reg, acc, lk, ps⟩, ls ++ [l]⟩ t5)) := hD (by
             intro A7 c7 w13 ho7 hg7
             have hbw : Below w.heap.size (w12.alloc (.cells #[.int .i64 (n1 : Int), .int .i64 (n2 : Int), .int .i64 (n3 : Int), .slice A5 v.length c5, .int .i64 ((n4 : Int) - 1)] 71)) w13 := (Below.refl _ _).grown hg7 hss (fun k hk => (hrow.lt k hk).1)
             have hown : OwnM w w13 ⟨⟨A0, c0, A1, c1, A2, c2, A3, c3⟩, A7, c7⟩ ⟨⟨reg, acc, lk, ps⟩, ls ++ [l]⟩ := ⟨⟨own_grown_t hst.own.o.o0 hrow (by decide) hg7, hst.own.o.o1.grownL hrow hg7, own_grown_t hst.own.o.o2 hrow (by decide) hg7, hst.own.o.o3.grownL hrow hg7⟩, ⟨_, by rw [List.length_append]; exact ho7, by rw [HL.out]; exact OwnsL.grown (OwnsL.snoc hq2 (own_below HV4.out bb)) (by decide) hrow hg7⟩⟩
             have hres7 := hst.res.apart_own hrow (by decide) hg7
             have hblk7 := hst.blk.apart_own hrow (by decide) hg7
             have hrd7 := hst.rd.belowW hbw HBL.out
             exact ⟨hD hblk7, hD ⟨hres7.set_other (by omega), by have q := hblk7.set_ 4 (.slice A7 (ls.length + 1) c7); simpa [machC] using q, hown.set_t hblk7 (by decide) (by decide) (by decide) (by decide) (by decide), hrd7.set HBL.out (by omega)⟩⟩)
            clear bb hst hq1 hq2 hrow hss
            go_wp2_with (first
             | (at_builtin
                refine wpList_append_atS (w := w12.alloc (.cells #[.int .i64 (n1 : Int), .int .i64 (n2 : Int), .int .i64 (n3 : Int), .slice A5 v.length c5, .int .i64 ((n4 : Int) - 1)] 71)) (c' := 1) w.heap.size HSS.out cellL (.tmp 69) (.tmp 71) rfl (by rfl) rfl HROW.out rfl HSRC.out (lastC_one A5 c5 _) (by omega) (by omega) ?_
                intro A7 c7 w13 ho7 hg7
                obtain ⟨hb7, HFIN⟩ := HPOST.out A7 c7 w13 ho7 hg7
                clear x0 x1 x2 x3 x4 y0 y1 y2 y3 y4
                obtain ⟨x0, x1, x2, x3, x4⟩ := five (t := 36) hb7.out
                obtain ⟨f0', f1, f2, f3, f4⟩ := five_frozen hb7.out
                clear ho7 hg7 hb7 HPOST)
             | fail)
            go_roundw
            case rel => exact ⟨j, A7, c7, ls ++ [l], t5, by simp; omega, by go_num, congrArg Value.bool (by rw [HOKS.out, HGL.out]; have h := HF0.out; simp only [HLT.out]; revert h; cases ok0 <;> cases okT ls <;> simp), HFIN, HQ2⟩
            case measure => simp only [intOf]; omega
  | zero =>
    have HPF : Hid (R = (⟨⟨reg, acc, lk, ps⟩, ls⟩, sj)) := hD (by
     rw [HRR.out]
     unfold stT
     try simp only
     rw [HE2.out, HE3.out, HQ.out]
     simp [getT])
    obtain ⟨okf, hokf⟩ : ∃ x, (ok0 && okT ls) = x := ⟨_, rfl⟩
    have HOKF := hD hokf
    rw [hokf]
    clear hokf HQ
    obtain ⟨Ar, nr, cr, hbr, _⟩ := HST.out.rd.r
    obtain ⟨bad, hbad⟩ : ∃ x, sj.isNone = x := ⟨_, rfl⟩
    rw [hbad] at hbr
    have HBAD := hD hbad
    have HBR := hD hbr
    clear hbad hbr
    go_upto_region 12 with fail
    have hb2 := HST.out.blk
    unfold machC at hb2
    simp only at hb2
    have hbd : Below wr.heap.size wr wr.drew := (Below.refl _ _).drew
    have HS : Hid ((fun w' => Blk w' g 36 #[.slice A0 reg.length c0, .slice A1 acc.length c1, .slice A2 lk.length c2, .slice A3 ps.length c3, .slice At ls.length ct] /\ Blk w' b 49 #[.slice Ar nr cr, .bool bad]) wr.drew) := hD ⟨hb2.below hbd, HBR.out.below hbd⟩
    have HS3 := hD (HST.out.below HBL.out hbd)
    refine wp_region_held_drew (S := fun w' => Blk w' g 36 #[.slice A0 reg.length c0, .slice A1 acc.length c1, .slice A2 lk.length c2, .slice A3 ps.length c3, .slice At ls.length ct] /\ Blk w' b 49 #[.slice Ar nr cr, .bool bad]) (by kernel_rfl) HS.out (fun _ => ?_)
    clear hbd hb2 HST HBR
    generalize wr.drew = w6 at HS HS3 |-
    have r0 := HS3.out.res
    obtain ⟨k1, k2, k3, k4, k5⟩ := put5 r0 (.slice A0 reg.length c0) (.slice A1 acc.length c1) (.slice A2 lk.length c2) (.slice A3 ps.length c3) (.slice At ls.length ct)
    have HS5 := hD (And.intro (k5 g _ _ (by omega) HS.out.1) (k5 b _ _ (by omega) HS.out.2))
    have ho5 := k3 w _ _ HS3.out.own (by decide) (by decide) (by decide) (by decide) (by decide)
    have hr5 := ((((HS3.out.rd.set (i := 0) (u := .slice A0 reg.length c0) HBL.out lR).set (i := 1) (u := .slice A1 acc.length c1) HBL.out lR).set (i := 2) (u := .slice A2 lk.length c2) HBL.out lR).set (i := 3) (u := .slice A3 ps.length c3) HBL.out lR).set (i := 4) (u := .slice At ls.length ct) HBL.out lR
    have HEND := hD (And.intro k1 (And.intro ho5 hr5))
    obtain ⟨x0, x1, x2, x3, x4⟩ := five (t := 36) r0
    obtain ⟨f0, f1, f2, f3, f4⟩ := five_frozen r0
    clear r0 k1 k2 k3 k4 k5 ho5 hr5
    cases okf with
    | false =>
      refine tkL (i := 0) (v := .agg #[.slice A0 reg.length c0, .slice A1 acc.length c1, .slice A2 lk.length c2, .slice A3 ps.length c3, .slice At ls.length ct]) rfl (fun w h => by obtain ⟨q0, q1, q2, q3, q4⟩ := five (t := 36) h.1; go_simp) HS.out ?_
      refine tkL (i := 1) (v := .bool false) rfl (fun w _ => by go_simp) HS.out ?_
      refine rdH (rs := [2]) ?_
      refine AllReadyH.cons rfl (fun K hK => ?_) AllReadyH.nil
      go_simp
      refine hK.out _ _ HS.out (fun _ => ?_)
      clear hK K
      refine tkR (i := 3) rfl HS.out ?_
      refine tkR (i := 4) rfl HS.out ?_
      refine tkR (i := 5) rfl HS.out ?_
      refine tkR (i := 6) rfl HS.out ?_
      refine tkR (i := 7) rfl HS.out ?_
      refine tkL (i := 8) (v := .bool false) rfl (fun w _ => by go_simp) HS.out ?_
      refine rdH (rs := [9]) ?_
      refine AllReadyH.cons rfl (fun K hK => ?_) AllReadyH.nil
      go_simp
      refine hK.out _ _ HS5.out (fun _ => ?_)
      clear hK K
      refine rdH (rs := [10]) ?_
      refine AllReadyH.cons rfl (fun K hK => ?_) AllReadyH.nil
      go_simp
      refine hK.out _ _ HS5.out (fun _ => ?_)
      clear hK K
      refine wpAnyH_done (by kernel_rfl) ?_ _
      go_wp2_with fail
      refine bodyPost_ret (results_cell_tmp rfl _ _ _ _ _ _ rfl HEND.out.1 Tryz.underlying36 rfl (by kernel_rfl)) rfl ?_
      have hR := HPF.out
      subst hR
      refine ⟨⟨⟨A0, c0, A1, c1, A2, c2, A3, c3⟩, At, ct⟩, ?_, HEND.out.2.1, HEND.out.2.2.r, HEND.out.2.2.only⟩
      have hwf : Mc.wf ⟨⟨reg, acc, lk, ps⟩, ls⟩ = false := by unfold Mc.wf; rw [<- HOKF.out, <- HOK0.out]
      have hso : sj.isSome = !bad := by rw [<- HBAD.out]; cases sj <;> rfl
      simp only [hwf, hso]
      cases bad <;> rfl
    | true =>
      refine tkL (i := 0) (v := .agg #[.slice A0 reg.length c0, .slice A1 acc.length c1, .slice A2 lk.length c2, .slice A3 ps.length c3, .slice At ls.length ct]) rfl (fun w h => by obtain ⟨q0, q1, q2, q3, q4⟩ := five (t := 36) h.1; go_simp) HS.out ?_
      refine tkL (i := 1) (v := .bool true) rfl (fun w _ => by go_simp) HS.out ?_
      refine rdH (rs := [2]) ?_
      refine AllReadyH.cons rfl (fun K hK => ?_) AllReadyH.nil
      go_simp
      refine hK.out _ _ HS.out (fun _ => ?_)
      clear hK K
      refine tkL (i := 3) (v := .pointer (some ⟨b, 0, none⟩)) rfl (fun w _ => by go_simp) HS.out ?_
      refine tkL (i := 4) (v := .pointer (some ⟨b, 0, none⟩)) rfl (fun w _ => by go_simp) HS.out ?_
      refine tkL (i := 5) (v := .pointer (some ⟨b, 1, none⟩)) rfl (fun w _ => by go_simp) HS.out ?_
      refine tkL (i := 6) (v := .bool bad) rfl (fun w h => by have q := h.2.cell 1; have q1 : w.cell? ⟨b, 1, none⟩ = some (.bool bad) := q; go_simp) HS.out ?_
      refine tkL (i := 7) (v := .bool (!bad)) rfl (fun w _ => by go_simp) HS.out ?_
      refine tkL (i := 8) (v := .bool (!bad)) rfl (fun w _ => by go_simp) HS.out ?_
      refine rdH (rs := [9]) ?_
      refine AllReadyH.cons rfl (fun K hK => ?_) AllReadyH.nil
      go_simp
      refine hK.out _ _ HS5.out (fun _ => ?_)
      clear hK K
      refine rdH (rs := [10]) ?_
      refine AllReadyH.cons rfl (fun K hK => ?_) AllReadyH.nil
      go_simp
      refine hK.out _ _ HS5.out (fun _ => ?_)
      clear hK K
      refine wpAnyH_done (by kernel_rfl) ?_ _
      go_wp2_with fail
      refine bodyPost_ret (results_cell_tmp rfl _ _ _ _ _ _ rfl HEND.out.1 Tryz.underlying36 rfl (by kernel_rfl)) rfl ?_
      have hR := HPF.out
      subst hR
      refine ⟨⟨⟨A0, c0, A1, c1, A2, c2, A3, c3⟩, At, ct⟩, ?_, HEND.out.2.1, HEND.out.2.2.r, HEND.out.2.2.only⟩
      have hwf : Mc.wf ⟨⟨reg, acc, lk, ps⟩, ls⟩ = true := by unfold Mc.wf; rw [<- HOKF.out, <- HOK0.out]
      have hso : sj.isSome = !bad := by rw [<- HBAD.out]; cases sj <;> rfl
      simp only [hwf, hso]
      cases bad <;> rfl
end Go.Proofs.YtlgpglhbbkikpaaGreat
