/- MachDec SamePairs SameRows SameInts ObjSame -/
import Derived.Test.YtlgpglhbbkikpaaGreatT0H
import Derived.Test.YtlgpglhbbkikpaaGreatT00
import Derived.Test.YtlgpglhbbkikpaaGreatT01
import Derived.Test.YtlgpglhbbkikpaaGreatT03
import Derived.Test.YtlgpglhbbkikpaaGreatT10
import Derived.Test.YtlgpglhbbkikpaaGreatT16
import Derived.BigQuiet
import Derived.Deep.DeepCutAuto
import Derived.Deep.DrawnRows
import Derived.Deep.QuietTactic
import Derived.Deep.RegionHeld3
import Derived.Deep.RegionWith
import Derived.WalkSmall
import Derived.IntWalk
import Derived.OwnWalk
import Derived.ProofKit
import Derived.Test.YtlgpglhbbkikpaaGreatRows
import Derived.WalkKit
import Derived.WalkLawsBesides
import Derived.WalkSpells
namespace Go.Proofs.YtlgpglhbbkikpaaGreat
open Go.RowKit
set_option linter.unusedVariables false
theorem Mc.dec_is (l : List Nat) : Mc.dec l = if ((Mc.get (some l)).1.wf && (Mc.get (some l)).2.isSome) = true /\ Pk.endOf (Mc.get (some l)).2 = true then some (Mc.get (some l)).1 else none := by
 unfold Mc.dec
 generalize Mc.get (some l) = R
 obtain ⟨m, s⟩ := R
 cases m.wf <;> rcases s with _ | _ | ⟨x, s⟩ <;> simp [Pk.endOf]
set_option maxHeartbeats 4000000 in
set_option maxRecDepth 100000 in
theorem refDecode_any {w : World} {A : Option Addr} {n c B : Nat} {l : List Nat} (hl : l.length <= 100000) (hby : ∀ x ∈ l, x < 256) (hn : n <= c) (hc : c <= maxLen) (h : Rd w B A n (bv l)) :
 Calls Tryz.prog 20 #[.slice A n c] w (GotMB w w (Mc.dec l)) := by
 have hln : l.length = n := by have := h.1; simpa [bv] using this
 have b1 : Below w.heap.size w (w.alloc (.cells #[.slice none 0 0, .slice none 0 0, .slice none 0 0, .slice none 0 0, .slice none 0 0] 36)) := (Below.refl _ _).alloc lR _
 have b2 := b1.alloc b1.size (.cells #[.slice A n c, .bool false] 49)
 have hra : RefAt ((w.alloc (.cells #[.slice none 0 0, .slice none 0 0, .slice none 0 0, .slice none 0 0, .slice none 0 0] 36)).alloc (.cells #[.slice A n c, .bool false] 49)) w.heap.size (w.heap.size + 1) (some l) := by
  refine ⟨A, n, c, ?_, hn, hc, by unfold Lim; omega, by omega, fun l' hl' => ?_⟩
  · have := Blk.new (w.alloc (.cells #[.slice none 0 0, .slice none 0 0, .slice none 0 0, .slice none 0 0, .slice none 0 0] 36)) 49 #[.slice A n c, .bool false]
    rwa [World.size_alloc] at this
  · obtain rfl : l = l' := by injection hl'
    exact ⟨h.fit.below b2, hby⟩
 have HRA := zH hra
 have HZ := zH ((Blk.new w 36 #[.slice none 0 0, .slice none 0 0, .slice none 0 0, .slice none 0 0, .slice none 0 0]).alloc (.cells #[.slice A n c, .bool false] 49))
 have HB2 := zH b2
 have HDEC := zH (Mc.dec_is l)
 have hbs : BytesSt (some l) := (fun l2 h2 => by obtain rfl : l = l2 := (by injection h2); exact hby)
 have C0 := zH (fun w B b h => refMachine_any w B b (some l) h hbs)
 clear h b1 b2 hra
 obtain ⟨⟨m, s2⟩, hR⟩ : ∃ R, Mc.get (some l) = R := ⟨_, rfl⟩
 rw [hR] at C0 HDEC
 simp only at C0 HDEC
 obtain ⟨ok, hok⟩ : ∃ x, (m.wf && s2.isSome) = x := ⟨_, rfl⟩
 rw [hok] at C0 HDEC
 obtain ⟨D, hD⟩ : ∃ D, Mc.dec l = D := ⟨_, rfl⟩
 rw [hD] at HDEC |-
 clear hR hok hD hbs
 go_enter Tryz.func20, Tryz.ntmps20
 go_upto_region 2 with fail
 generalize (w.alloc (.cells #[.slice none 0 0, .slice none 0 0, .slice none 0 0, .slice none 0 0, .slice none 0 0] 36)).alloc (.cells #[.slice A n c, .bool false] 49) = w1 at HRA HZ HB2 |-
 go_upto_region 3 with (first
  | (go_at_call 60; refine (C0.out _ _ _ HRA.out).mono ?_; rintro en w2 ⟨⟨⟨A0, c0, A1, c1, A2, c2, A3, c3⟩, At, ct⟩, rfl, hv, hr, ho⟩
     have hB : Below w.heap.size w1 w2 := (Below.refl _ _).grown ho HB2.out.size (fun k hk => by injection hk with hk; omega)
     have bb : Below w2.heap.size w2 (w2.alloc (.cells #[.slice A0 m.o.reg.length c0, .slice A1 m.o.q.length c1, .slice A2 m.o.lk.length c2, .slice A3 m.o.mp.length c3, .slice At m.t.length ct] 36)) := (Below.refl _ _).alloc lR _
     have hz := HZ.out.grown ho (by intro q; injection q with q; omega)
     have HST : Hid (Blk (w2.alloc (.cells #[.slice A0 m.o.reg.length c0, .slice A1 m.o.q.length c1, .slice A2 m.o.lk.length c2, .slice A3 m.o.mp.length c3, .slice At m.t.length ct] 36)) w.heap.size 36 #[.slice none 0 0, .slice none 0 0, .slice none 0 0, .slice none 0 0, .slice none 0 0] /\ Blk (w2.alloc (.cells #[.slice A0 m.o.reg.length c0, .slice A1 m.o.q.length c1, .slice A2 m.o.lk.length c2, .slice A3 m.o.mp.length c3, .slice At m.t.length ct] 36)) w2.heap.size 36 #[.slice A0 m.o.reg.length c0, .slice A1 m.o.q.length c1, .slice A2 m.o.lk.length c2, .slice A3 m.o.mp.length c3, .slice At m.t.length ct] /\ OwnM w (w2.alloc (.cells #[.slice A0 m.o.reg.length c0, .slice A1 m.o.q.length c1, .slice A2 m.o.lk.length c2, .slice A3 m.o.mp.length c3, .slice At m.t.length ct] 36)) ⟨⟨A0, c0, A1, c1, A2, c2, A3, c3⟩, At, ct⟩ m /\ RefAt (w2.alloc (.cells #[.slice A0 m.o.reg.length c0, .slice A1 m.o.q.length c1, .slice A2 m.o.lk.length c2, .slice A3 m.o.mp.length c3, .slice At m.t.length ct] 36)) w.heap.size (w.heap.size + 1) s2 /\ Below w.heap.size w (w2.alloc (.cells #[.slice A0 m.o.reg.length c0, .slice A1 m.o.q.length c1, .slice A2 m.o.lk.length c2, .slice A3 m.o.mp.length c3, .slice At m.t.length ct] 36))) := zH ⟨hz.below bb, Blk.new _ _ _, (hv.of HB2.out.size).below bb, hr.below bb, (HB2.out.trans hB).trans (bb.mono (HB2.out.trans hB).size)⟩
     have hgw : w.heap.size < w2.heap.size := hz.lt
     unfold machV machC
     simp only
     clear hv hr ho hB bb hz C0)
  | fail)
 generalize w2.alloc (.cells #[.slice A0 m.o.reg.length c0, .slice A1 m.o.q.length c1, .slice A2 m.o.lk.length c2, .slice A3 m.o.mp.length c3, .slice At m.t.length ct] 36) = w3 at HST |-
 obtain ⟨g, hg⟩ : ∃ g, w2.heap.size = g := ⟨_, rfl⟩
 rw [hg] at HST hgw |-
 have HS3 := HST
 clear HST
 cases ok with
 | false =>
   have r0 := HS3.out.1
   obtain ⟨k1, k2, k3, k4, k5⟩ := put5 r0 (.slice none 0 0) (.slice none 0 0) (.slice none 0 0) (.slice none 0 0) (.slice none 0 0)
   have hown := k3 w _ _ (OwnM.zero w w3) (by decide) (by decide) (by decide) (by decide) (by decide)
   have hbel := k2 w lR HS3.out.2.2.2.2
   have HEND := zH (And.intro k1 (And.intro hown hbel))
   obtain ⟨x0, x1, x2, x3, x4⟩ := five (t := 36) HS3.out.2.1
   obtain ⟨f0, f1, f2, f3, f4⟩ := five_frozen r0
   obtain ⟨z0, z1, z2, z3, z4⟩ := five (t := 36) r0
   clear r0 k1 k2 k3 k4 k5 hown hbel
   go_wp2_with fail
   refine bodyPost_ret (results_cell_tmp rfl _ _ _ _ _ _ rfl HEND.out.1 Tryz.underlying36 rfl (by kernel_rfl)) rfl ?_
   have hD := HDEC.out
   simp at hD
   subst hD
   exact ⟨⟨⟨none, 0, none, 0, none, 0, none, 0⟩, none, 0⟩, rfl, HEND.out.2.1, HEND.out.2.2, HEND.out.2.2⟩
 | true =>
   obtain ⟨en, hen⟩ : ∃ x, Pk.endOf s2 = x := ⟨_, rfl⟩
   have CE := zH (refend_any w3 w.heap.size (w.heap.size + 1) s2 HS3.out.2.2.2.1)
   rw [hen] at CE HDEC
   clear hen
   cases en with
   | false =>
     have r0 := HS3.out.1
     obtain ⟨k1, k2, k3, k4, k5⟩ := put5 r0 (.slice none 0 0) (.slice none 0 0) (.slice none 0 0) (.slice none 0 0) (.slice none 0 0)
     have hown := k3 w _ _ (OwnM.zero w w3) (by decide) (by decide) (by decide) (by decide) (by decide)
     have hbel := k2 w lR HS3.out.2.2.2.2
     have HEND := zH (And.intro k1 (And.intro hown hbel))
     obtain ⟨x0, x1, x2, x3, x4⟩ := five (t := 36) HS3.out.2.1
     obtain ⟨f0, f1, f2, f3, f4⟩ := five_frozen r0
     obtain ⟨z0, z1, z2, z3, z4⟩ := five (t := 36) r0
     clear r0 k1 k2 k3 k4 k5 hown hbel
     go_wp2_with (first | (go_at_call 61; refine CE.out.mono ?_; rintro en w5 ⟨rfl, rfl⟩) | fail)
     refine bodyPost_ret (results_cell_tmp rfl _ _ _ _ _ _ rfl HEND.out.1 Tryz.underlying36 rfl (by kernel_rfl)) rfl ?_
     have hD := HDEC.out
     simp at hD
     subst hD
     exact ⟨⟨⟨none, 0, none, 0, none, 0, none, 0⟩, none, 0⟩, rfl, HEND.out.2.1, HEND.out.2.2, HEND.out.2.2⟩
   | true =>
     have r0 := HS3.out.1
     obtain ⟨k1, k2, k3, k4, k5⟩ := put5 r0 (.slice A0 m.o.reg.length c0) (.slice A1 m.o.q.length c1) (.slice A2 m.o.lk.length c2) (.slice A3 m.o.mp.length c3) (.slice At m.t.length ct)
     have hown := k3 w _ _ HS3.out.2.2.1 (by decide) (by decide) (by decide) (by decide) (by decide)
     have hbel := k2 w lR HS3.out.2.2.2.2
     have HEND := zH (And.intro k1 (And.intro hown hbel))
     obtain ⟨x0, x1, x2, x3, x4⟩ := five (t := 36) HS3.out.2.1
     obtain ⟨f0, f1, f2, f3, f4⟩ := five_frozen r0
     obtain ⟨z0, z1, z2, z3, z4⟩ := five (t := 36) r0
     clear r0 k1 k2 k3 k4 k5 hown hbel
     go_wp2_with (first | (go_at_call 61; refine CE.out.mono ?_; rintro en w5 ⟨rfl, rfl⟩) | fail)
     refine bodyPost_ret (results_cell_tmp rfl _ _ _ _ _ _ rfl HEND.out.1 Tryz.underlying36 rfl (by kernel_rfl)) rfl ?_
     have hD := HDEC.out
     simp at hD
     subst hD
     exact ⟨⟨⟨A0, c0, A1, c1, A2, c2, A3, c3⟩, At, ct⟩, rfl, HEND.out.2.1, HEND.out.2.2, HEND.out.2.2⟩
set_option maxRecDepth 100000 in
set_option maxHeartbeats 2000000 in
theorem samePs_any (w : World) {A A' : Option Addr} {n c n' c' B B' : Nat} {ps ps' : List Pr} (hn : n <= 100000) (hn' : n' <= 100000) (hb : BytesP ps) (hb' : BytesP ps') (h : RdP w B A n ps) (h' : RdP w B' A' n' ps') :
 Calls Tryz.prog 114 #[.slice A n c, .slice A' n' c'] w fun e w' => e = .returned (.bool (decide (ps = ps'))) /\ ∃ m, w' = w.drewN m := by
 have hl : ps.length = n := h.length
 have hl' : ps'.length = n' := h'.length
 by_cases hne : n = n'
 · subst hne
   have HL := zH hl
   have HL' := zH hl'
   have H := zH h.fit
   have H' := zH h'.fit
   have HB := zH hb
   have HB' := zH hb'
   clear h h' hl hl' hb hb'
   go_enter Tryz.func114, Tryz.ntmps114
   go_wp2
   go_loopw [5] (fun i wr => ∃ j : Nat, j <= n /\ i = .int .i64 j /\ Hid (∀ i, i < j -> ps[i]? = ps'[i]?) /\ ∃ m, wr = w.drewN m) (fun i _ => n - (intOf i).toNat)
   case atStart => exact ⟨0, Nat.zero_le _, rfl, zH (fun i hi => absurd hi (by omega)), 0, rfl⟩
   case round =>
    obtain ⟨j, hj, rfl, HS, m, hm⟩ := hrel
    have HM := zH hm
    by_cases hlt : j < n
    · obtain ⟨b, o, p, A1, c1, A2, c2, rfl, hp, hcell1, hcell2, hrd1, hrd2⟩ := H.out.at hlt
      obtain ⟨b', o', p', A3, c3, A4, c4, rfl, hp', hcell3, hcell4, hrd3, hrd4⟩ := H'.out.at hlt
      have q1 : wr.cell? ⟨b, o + j * 2, none⟩ = some (.slice A1 p.1.length c1) := by rw [hm]; exact hcell1
      have q2 : wr.cell? ⟨b, o + j * 2 + 1, none⟩ = some (.slice A2 p.2.length c2) := by rw [hm]; exact hcell2
      have q3 : wr.cell? ⟨b', o' + j * 2, none⟩ = some (.slice A3 p'.1.length c3) := by rw [hm]; exact hcell3
      have q4 : wr.cell? ⟨b', o' + j * 2 + 1, none⟩ = some (.slice A4 p'.2.length c4) := by rw [hm]; exact hcell4
      have hv : IntKind.i64.wrap ((j : Int) + 1) = (j : Int) + 1 := IntWalk.i64_in _ (by omega)
      have s1 : ∀ q, (convert 24 9 (.slice A1 p.1.length c1)).run Tryz.prog (wr.drewN q) = .ok (.string (strB p.1)) (wr.drewN q) := fun q => by rw [hm]; exact str_of (c := c1) ((hrd1.drewN m).drewN q)
      have s2 : ∀ q, (convert 24 9 (.slice A2 p.2.length c2)).run Tryz.prog (wr.drewN q) = .ok (.string (strB p.2)) (wr.drewN q) := fun q => by rw [hm]; exact str_of (c := c2) ((hrd2.drewN m).drewN q)
      have s3 : ∀ q, (convert 24 9 (.slice A3 p'.1.length c3)).run Tryz.prog (wr.drewN q) = .ok (.string (strB p'.1)) (wr.drewN q) := fun q => by rw [hm]; exact str_of (c := c3) ((hrd3.drewN m).drewN q)
      have s4 : ∀ q, (convert 24 9 (.slice A4 p'.2.length c4)).run Tryz.prog (wr.drewN q) = .ok (.string (strB p'.2)) (wr.drewN q) := fun q => by rw [hm]; exact str_of (c := c4) ((hrd4.drewN m).drewN q)
      have t1 := strL_eq (HB.out p (List.mem_of_getElem? hp)).1 (HB'.out p' (List.mem_of_getElem? hp')).1
      have t2 := strL_eq (HB.out p (List.mem_of_getElem? hp)).2 (HB'.out p' (List.mem_of_getElem? hp')).2
      have HP := zH hp
      have HP' := zH hp'
      clear hp hp' hcell1 hcell2 hcell3 hcell4 hrd1 hrd2 hrd3 hrd4 hm
      have HNE : Hid (p ≠ p' -> decide (ps = ps') = false) := zH (fun hne => by
       rw [decide_eq_false_iff_not]
       rintro rfl
       have h1 := HP.out
       rw [HP'.out] at h1
       injection h1 with h1
       exact hne h1.symm)
      by_cases he1 : p.1 = p'.1
      · rw [decide_eq_true he1] at t1
        by_cases he2 : p.2 = p'.2
        · rw [decide_eq_true he2] at t2
          have HE := zH (show p = p' from Prod.ext he1 he2)
          clear he1 he2
          go_wp2
          go_quiet (fail)
          go_wp2
          go_roundw
          case rel =>
           refine ⟨j + 1, by omega, by go_num, zH (fun i hi => ?_), m + nq, by rw [HM.out, World.drewN_drewN]⟩
           rcases Nat.lt_or_ge i j with h1 | h1
           · exact HS.out i h1
           · obtain rfl : i = j := by omega
             rw [HP.out, HP'.out, HE.out]
          case measure => simp [intOf]; omega
        · rw [decide_eq_false he2] at t2
          have HE := zH (HNE.out (fun e => he2 (by rw [e])))
          clear he1 he2
          go_wp2
          go_quiet (fail)
          go_wp2
          go_ret
          exact ⟨ret_bool HE.out.symm, m + nq, by rw [HM.out, World.drewN_drewN]⟩
      · rw [decide_eq_false he1] at t1
        have HE := zH (HNE.out (fun e => he1 (by rw [e])))
        clear he1
        go_wp2
        go_quiet (fail)
        go_wp2
        go_ret
        exact ⟨ret_bool HE.out.symm, m + nq, by rw [HM.out, World.drewN_drewN]⟩
    · have HE := zH (show decide (ps = ps') = true by
       rw [decide_eq_true_iff]
       apply List.ext_getElem?
       intro i
       rcases Nat.lt_or_ge i n with h1 | h1
       · exact HS.out i (by omega)
       · rw [List.getElem?_eq_none (by have := HL.out; omega), List.getElem?_eq_none (by have := HL'.out; omega)])
      clear hm
      go_wp2
      go_ret
      exact ⟨ret_bool HE.out.symm, m, HM.out⟩
 · have HE := zH (show decide (ps = ps') = false by rw [decide_eq_false_iff_not]; rintro rfl; omega)
   have hd : ((n : Int) == (n' : Int)) = false := by simp; omega
   have hd2 : ((n : Int) != (n' : Int)) = true := by simp; omega
   clear h h' hl hl' hne
   go_enter Tryz.func114, Tryz.ntmps114
   go_wp2
   go_ret
   exact ⟨ret_bool HE.out.symm, 0, rfl⟩
theorem samePs_below (w : World) {A A' : Option Addr} {n c n' c' B B' : Nat} {ps ps' : List Pr} (hn : n <= 100000) (hn' : n' <= 100000) (hb : BytesP ps) (hb' : BytesP ps') (h : RdP w B A n ps) (h' : RdP w B' A' n' ps') :
 Calls Tryz.prog 114 #[.slice A n c, .slice A' n' c'] w fun e w' => e = .returned (.bool (decide (ps = ps'))) /\ Below w.heap.size w w' :=
 (samePs_any w hn hn' hb hb' h h').mono fun e w' ⟨h1, m, h2⟩ => ⟨h1, by rw [h2]; exact belowN_d m⟩
set_option maxRecDepth 100000 in
set_option maxHeartbeats 1000000 in
theorem sameRows_any (w : World) {A A' : Option Addr} {n c n' c' B B' : Nat} {qs qs' : List (List Nat)} (hb : BytesL qs) (hb' : BytesL qs') (h : RdQ w B A n qs) (h' : RdQ w B' A' n' qs') (hn : n <= maxLen) (hn' : n' <= maxLen) :
 Calls Tryz.prog 112 #[.slice A n c, .slice A' n' c'] w fun e w' => e = .returned (.bool (decide (qs = qs'))) /\ ∃ k, w' = w.drewN k := by
 have hl : qs.length = n := h.length
 have hl' : qs'.length = n' := h'.length
 unfold maxLen at hn hn'
 by_cases hne : n = n'
 · subst hne
   have HN : Hid (n <= 9223372036854775807) := zH (by omega)
   have HL := zH hl
   have HL' := zH hl'
   have H := zH h
   have H' := zH h'
   have HBY := zH hb
   have HBY' := zH hb'
   clear h h' hl hl' hn hn' hb hb'
   go_enter Tryz.func112, Tryz.ntmps112
   go_wp2
   go_loopw [5] (fun i wr => ∃ k : Nat, k <= n /\ i = .int .i64 k /\ (∀ j, j < k -> qs[j]? = qs'[j]?) /\ ∃ m, wr = w.drewN m) (fun i _ => n - (intOf i).toNat)
   case atStart => exact ⟨0, Nat.zero_le _, rfl, fun j hj => absurd hj (by omega), 0, rfl⟩
   case round =>
    obtain ⟨k, hk, rfl, hs, m, hm⟩ := hrel
    have hkm : (k : Int) <= 9223372036854775806 \/ k = n := by have := HN.out; omega
    by_cases hlt : k < n
    · have hW : Below w.heap.size w wr := by rw [hm]; exact (Below.refl w.heap.size w).trans ⟨rfl, rfl, rfl, Nat.le_refl _, fun _ _ => rfl⟩
      obtain ⟨b, o, l, A1, c1, rfl, hz, hc, hr1⟩ := (H.out.fit.below hW).at hlt
      obtain ⟨b', o', l', A2, c2, rfl, hz', hc', hr2⟩ := (H'.out.fit.below hW).at hlt
      have q1 := fun i => str_of (c := c1) (hr1.drewN i)
      have q2 := fun i => str_of (c := c2) (hr2.drewN i)
      have q3 := strL_eq (HBY.out l (List.mem_of_getElem? hz)) (HBY'.out l' (List.mem_of_getElem? hz'))
      have hv : IntKind.i64.wrap ((k : Int) + 1) = (k : Int) + 1 := IntWalk.i64_in _ (by have := HN.out; omega)
      have HS := zH hs
      have HZ := zH hz
      have HZ' := zH hz'
      have HM := zH hm
      clear hs hz hz' hm hkm hr1 hr2 hW
      by_cases he : l = l'
      · subst he
        rw [decide_eq_true rfl] at q3
        go_wp2
        go_quiet (fail)
        go_wp2
        go_roundw
        case rel =>
         refine ⟨k + 1, by omega, by go_num, fun j hj => ?_, m + nq, by rw [HM.out, World.drewN_drewN]⟩
         rcases Nat.lt_or_ge j k with h1 | h1
         · exact HS.out j h1
         · obtain rfl : j = k := by omega
           rw [HZ.out, HZ'.out]
        case measure => simp [intOf]; omega
      · rw [decide_eq_false he] at q3
        have HE := zH (show decide (qs = qs') = false by
         rw [decide_eq_false_iff_not]
         rintro rfl
         have h1 := HZ.out
         rw [HZ'.out] at h1
         injection h1 with h1
         exact he h1.symm)
        clear he
        go_wp2
        go_quiet (fail)
        go_wp2
        go_ret
        exact ⟨ret_bool HE.out.symm, m + nq, by rw [HM.out, World.drewN_drewN]⟩
    · have hkn : k = n := by omega
      have HE := zH (show decide (qs = qs') = true by
       rw [decide_eq_true_iff]
       apply List.ext_getElem?
       intro j
       rcases Nat.lt_or_ge j n with h1 | h1
       · exact hs j (by omega)
       · rw [List.getElem?_eq_none (by have := HL.out; omega), List.getElem?_eq_none (by have := HL'.out; omega)])
      have HM := zH hm
      clear hs hkn hm hkm
      go_wp2
      go_ret
      exact ⟨ret_bool HE.out.symm, m, HM.out⟩
 · have HE := zH (show decide (qs = qs') = false by
    rw [decide_eq_false_iff_not]; rintro rfl; omega)
   have hd : ((n : Int) == (n' : Int)) = false := by simp; omega
   have hd2 : ((n : Int) != (n' : Int)) = true := by simp; omega
   clear h h' hl hl' hn hn' hne
   go_enter Tryz.func112, Tryz.ntmps112
   go_wp2
   go_ret
   exact ⟨ret_bool HE.out.symm, 0, rfl⟩
theorem sameRows_below (w : World) {A A' : Option Addr} {n c n' c' B B' : Nat} {qs qs' : List (List Nat)} (hb : BytesL qs) (hb' : BytesL qs') (h : RdQ w B A n qs) (h' : RdQ w B' A' n' qs') (hn : n <= maxLen) (hn' : n' <= maxLen) :
 Calls Tryz.prog 112 #[.slice A n c, .slice A' n' c'] w fun e w' => e = .returned (.bool (decide (qs = qs'))) /\ Below w.heap.size w w' :=
 (sameRows_any w hb hb' h h' hn hn').mono fun e w' h => ⟨h.1, by obtain ⟨k, hk⟩ := h.2; rw [hk]; exact ⟨rfl, rfl, rfl, Nat.le_refl _, fun _ _ => rfl⟩⟩
set_option maxHeartbeats 1000000 in
theorem same_any (w : World) (A A' : Option Addr) (n c n' c' B B' : Nat) (zs zs' : List Int) (h : Rd w B A n (iv zs)) (h' : Rd w B' A' n' (iv zs')) (hn : n <= maxLen) (hn' : n' <= maxLen) :
 Calls Tryz.prog 113 #[.slice A n c, .slice A' n' c'] w fun e w' => e = .returned (.bool (decide (zs = zs'))) /\ ∃ k, w' = w.drewN k := by
 have hl : zs.length = n := by have := h.1; rwa [iv_length] at this
 have hl' : zs'.length = n' := by have := h'.1; rwa [iv_length] at this
 unfold maxLen at hn hn'
 by_cases hne : n = n'
 · subst hne
   have HN : Hid (n <= 9223372036854775807) := zH (by omega)
   have HL := zH hl
   have HL' := zH hl'
   have H := zH h
   have H' := zH h'
   clear h h' hl hl' hn hn'
   go_enter Tryz.func113, Tryz.ntmps113
   go_wp2
   go_loopw [5] (fun i wr => ∃ k : Nat, k <= n /\ i = .int .i64 k /\ (∀ j, j < k -> zs[j]? = zs'[j]?) /\ ∃ m, wr = w.drewN m) (fun i _ => n - (intOf i).toNat)
   case atStart => exact ⟨0, Nat.zero_le _, rfl, fun j hj => absurd hj (by omega), 0, rfl⟩
   case round =>
    obtain ⟨k, hk, rfl, hs, m, hm⟩ := hrel
    have hkm : (k : Int) <= 9223372036854775806 \/ k = n := by have := HN.out; omega
    by_cases hlt : k < n
    · obtain ⟨z, hz⟩ : ∃ z, zs[k]? = some z := ⟨_, List.getElem?_eq_getElem (by have := HL.out; omega)⟩
      obtain ⟨z', hz'⟩ : ∃ z, zs'[k]? = some z := ⟨_, List.getElem?_eq_getElem (by have := HL'.out; omega)⟩
      obtain ⟨b, o, rfl, _⟩ := H.out.int_at hlt
      obtain ⟨b', o', rfl, _⟩ := H'.out.int_at hlt
      have hc : wr.cell? ⟨b, o + k, none⟩ = some (.int .i64 z) := by rw [hm]; exact H.out.int_cell hlt hz
      have hc' : wr.cell? ⟨b', o' + k, none⟩ = some (.int .i64 z') := by rw [hm]; exact H'.out.int_cell hlt hz'
      have hv : IntKind.i64.wrap ((k : Int) + 1) = (k : Int) + 1 := IntWalk.i64_in _ (by have := HN.out; omega)
      have HS := zH hs
      have HZ := zH hz
      have HZ' := zH hz'
      have HM := zH hm
      clear hs hz hz' hm hkm
      by_cases he : z = z'
      · subst he
        go_wp2
        go_quiet (fail)
        go_wp2
        go_roundw
        case rel =>
         refine ⟨k + 1, by omega, by go_num, fun j hj => ?_, m + nq, by rw [HM.out, World.drewN_drewN]⟩
         rcases Nat.lt_or_ge j k with h1 | h1
         · exact HS.out j h1
         · obtain rfl : j = k := by omega
           rw [HZ.out, HZ'.out]
        case measure => simp [intOf]; omega
      · have he' : (z == z') = false := by simpa using he
        have he2 : (z != z') = true := by simpa using he
        have HE := zH (show decide (zs = zs') = false by
         rw [decide_eq_false_iff_not]
         rintro rfl
         have h1 := HZ.out
         rw [HZ'.out] at h1
         injection h1 with h1
         exact he h1.symm)
        clear he
        go_wp2
        go_quiet (fail)
        go_wp2
        go_ret
        exact ⟨ret_bool HE.out.symm, m + nq, by rw [HM.out, World.drewN_drewN]⟩
    · have hkn : k = n := by omega
      have HE := zH (show decide (zs = zs') = true by
       rw [decide_eq_true_iff]
       apply List.ext_getElem?
       intro j
       rcases Nat.lt_or_ge j n with h1 | h1
       · exact hs j (by omega)
       · rw [List.getElem?_eq_none (by have := HL.out; omega), List.getElem?_eq_none (by have := HL'.out; omega)])
      have HM := zH hm
      clear hs hkn hm hkm
      go_wp2
      go_ret
      exact ⟨ret_bool HE.out.symm, m, HM.out⟩
 · have HE := zH (show decide (zs = zs') = false by
    rw [decide_eq_false_iff_not]; rintro rfl; omega)
   have hd : ((n : Int) == (n' : Int)) = false := by simp; omega
   have hd2 : ((n : Int) != (n' : Int)) = true := by simp; omega
   clear h h' hl hl' hn hn' hne
   go_enter Tryz.func113, Tryz.ntmps113
   go_wp2
   go_ret
   exact ⟨ret_bool HE.out.symm, 0, rfl⟩
def Ob.same (s t : Ob) : Bool := decide (s.reg = t.reg) && (decide (s.q = t.q) && (decide (s.lk = t.lk) && decide (s.mp = t.mp)))
theorem sameI_below (w : World) (A A' : Option Addr) (n c n' c' B B' : Nat) (zs zs' : List Int) (h : Rd w B A n (iv zs)) (h' : Rd w B' A' n' (iv zs')) (hn : n <= maxLen) (hn' : n' <= maxLen) :
 Calls Tryz.prog 113 #[.slice A n c, .slice A' n' c'] w fun e w' => e = .returned (.bool (decide (zs = zs'))) /\ Below w.heap.size w w' :=
 (same_any w A A' n c n' c' B B' zs zs' h h' hn hn').mono fun e w' ⟨h1, k, h2⟩ => ⟨h1, by first | (rw [h2]; exact belowN_d k) | (subst h2; exact belowN_d k)⟩
set_option maxRecDepth 100000 in
set_option maxHeartbeats 2000000 in
theorem sameO_any (w : World) {a a' : OA} {s s' : Ob} {B B' : Nat} (hI : s.Inv) (hI' : s'.Inv) (h : RdO w B a s) (h' : RdO w B' a' s') :
 Calls Tryz.prog 32 #[objV a s, objV a' s'] w fun e w' => e = .returned (.bool (s.same s')) /\ Below w.heap.size w w' := by
 obtain ⟨A0, c0, A1, c1, A2, c2, A3, c3⟩ := a
 obtain ⟨D0, d0, D1, d1, D2, d2, D3, d3⟩ := a'
 obtain ⟨wz, hwz⟩ : ∃ wz, (w.alloc (.cells (objC ⟨A0, c0, A1, c1, A2, c2, A3, c3⟩ s) 33)).alloc (.cells (objC ⟨D0, d0, D1, d1, D2, d2, D3, d3⟩ s') 33) = wz := ⟨_, rfl⟩
 have hbz : Below w.heap.size w wz := by rw [<- hwz]; exact ((Below.refl _ _).alloc lR _).alloc (by simp) _
 have H := zH (h.fit.below hbz)
 have H' := zH (h'.fit.below hbz)
 have HI := zH hI
 have HI' := zH hI'
 have HW := zH hwz
 have HBZ := zH hbz
 have k1 := str_of (c := c0) H.out.r0
 have k2 := str_of (c := d0) H'.out.r0
 have k3 := strL_eq hI.regb hI'.regb
 have m1 : s.q.length <= maxLen := by have := hI.ql; unfold maxLen; omega
 have m2 : s'.q.length <= maxLen := by have := hI'.ql; unfold maxLen; omega
 have m3 : s.lk.length <= maxLen := by have := hI.lkl; unfold maxLen; omega
 have m4 : s'.lk.length <= maxLen := by have := hI'.lkl; unfold maxLen; omega
 have m5 : s.mp.length <= 100000 := by have := hI.mp.few; omega
 have m6 : s'.mp.length <= 100000 := by have := hI'.mp.few; omega
 have C1 : Hid (∀ wx, Below wz.heap.size wz wx -> Calls Tryz.prog 112 #[.slice A1 s.q.length c1, .slice D1 s'.q.length d1] wx fun e w' => e = .returned (.bool (decide (s.q = s'.q))) /\ Below wx.heap.size wx w') := zH (fun wx hb => sameRows_below wx hI.qb hI'.qb (H.out.r1.fit.below hb) (H'.out.r1.fit.below hb) m1 m2)
 have C2 : Hid (∀ wx, Below wz.heap.size wz wx -> Calls Tryz.prog 113 #[.slice A2 s.lk.length c2, .slice D2 s'.lk.length d2] wx fun e w' => e = .returned (.bool (decide (s.lk = s'.lk))) /\ Below wx.heap.size wx w') := zH (fun wx hb => sameI_below wx _ _ _ _ _ _ _ _ _ _ (H.out.r2.fit.below hb) (H'.out.r2.fit.below hb) m3 m4)
 have C3 : Hid (∀ wx, Below wz.heap.size wz wx -> Calls Tryz.prog 114 #[.slice A3 s.mp.length c3, .slice D3 s'.mp.length d3] wx fun e w' => e = .returned (.bool (decide (s.mp = s'.mp))) /\ Below wx.heap.size wx w') := zH (fun wx hb => samePs_below wx m5 m6 hI.mp.byt hI'.mp.byt (H.out.r3.fit.below hb) (H'.out.r3.fit.below hb))
 have HV : Hid (Blk wz w.heap.size 33 (objC ⟨A0, c0, A1, c1, A2, c2, A3, c3⟩ s) /\ Blk wz (w.heap.size + 1) 33 (objC ⟨D0, d0, D1, d1, D2, d2, D3, d3⟩ s')) := zH (by
  rw [<- hwz]
  refine ⟨(Blk.new _ _ _).alloc _, ?_⟩
  have := Blk.new (w.alloc (.cells (objC ⟨A0, c0, A1, c1, A2, c2, A3, c3⟩ s) 33)) 33 (objC ⟨D0, d0, D1, d1, D2, d2, D3, d3⟩ s')
  rwa [World.size_alloc] at this)
 clear h h' hI hI' hwz hbz m1 m2 m3 m4 m5 m6
 obtain ⟨p1, hp1⟩ : ∃ p, decide (s.reg = s'.reg) = p := ⟨_, rfl⟩
 obtain ⟨p2, hp2⟩ : ∃ p, decide (s.q = s'.q) = p := ⟨_, rfl⟩
 obtain ⟨p3, hp3⟩ : ∃ p, decide (s.lk = s'.lk) = p := ⟨_, rfl⟩
 obtain ⟨p4, hp4⟩ : ∃ p, decide (s.mp = s'.mp) = p := ⟨_, rfl⟩
 have HS := zH (show s.same s' = (p1 && (p2 && (p3 && p4))) by unfold Ob.same; rw [hp1, hp2, hp3, hp4])
 rw [hp1] at k3
 rw [hp2] at C1
 rw [hp3] at C2
 rw [hp4] at C3
 rw [HS.out]
 clear hp1 hp2 hp3 hp4 HS
 unfold objV
 simp only [objC] at HW HV |-
 go_enter Tryz.func32, Tryz.ntmps32
 go_upto_region 1 with fail
 rw [HW.out]
 obtain ⟨x0, x1, x2, x3, _, _, _, _⟩ := four HV.out.1
 obtain ⟨y0, y1, y2, y3, _, _, _, _⟩ := four HV.out.2
 cases p1
 case false =>
  go_wp2_with (first
   | (go_at_call 112; refine (C1.out _ (Below.refl _ _)).mono ?_; rintro e w2 ⟨rfl, hb2⟩
      have hv2 := And.intro (HV.out.1.below hb2) (HV.out.2.below hb2)
      obtain ⟨x0, x1, x2, x3, _, _, _, _⟩ := four hv2.1
      obtain ⟨y0, y1, y2, y3, _, _, _, _⟩ := four hv2.2
      clear hv2)
   | (go_at_call 113; refine (C2.out _ hb2).mono ?_; rintro e w3 ⟨rfl, hb3⟩
      have hb3' := hb2.trans (hb3.mono hb2.size)
      have hv3 := And.intro (HV.out.1.below hb3') (HV.out.2.below hb3')
      obtain ⟨x0, x1, x2, x3, _, _, _, _⟩ := four hv3.1
      obtain ⟨y0, y1, y2, y3, _, _, _, _⟩ := four hv3.2
      clear hv3)
   | (go_at_call 114; refine (C3.out _ hb3').mono ?_; rintro e w4 ⟨rfl, hb4⟩)
   | fail)
  go_ret
  exact ⟨rfl, HBZ.out⟩
 case true =>
  cases p2
  case false =>
   go_wp2_with (first
    | (go_at_call 112; refine (C1.out _ (Below.refl _ _)).mono ?_; rintro e w2 ⟨rfl, hb2⟩
       have hv2 := And.intro (HV.out.1.below hb2) (HV.out.2.below hb2)
       obtain ⟨x0, x1, x2, x3, _, _, _, _⟩ := four hv2.1
       obtain ⟨y0, y1, y2, y3, _, _, _, _⟩ := four hv2.2
       clear hv2)
    | (go_at_call 113; refine (C2.out _ hb2).mono ?_; rintro e w3 ⟨rfl, hb3⟩
       have hb3' := hb2.trans (hb3.mono hb2.size)
       have hv3 := And.intro (HV.out.1.below hb3') (HV.out.2.below hb3')
       obtain ⟨x0, x1, x2, x3, _, _, _, _⟩ := four hv3.1
       obtain ⟨y0, y1, y2, y3, _, _, _, _⟩ := four hv3.2
       clear hv3)
    | (go_at_call 114; refine (C3.out _ hb3').mono ?_; rintro e w4 ⟨rfl, hb4⟩)
    | fail)
   go_ret
   exact ⟨rfl, HBZ.out.trans (hb2.mono HBZ.out.size)⟩
  case true =>
   cases p3
   case false =>
    go_wp2_with (first
     | (go_at_call 112; refine (C1.out _ (Below.refl _ _)).mono ?_; rintro e w2 ⟨rfl, hb2⟩
        have hv2 := And.intro (HV.out.1.below hb2) (HV.out.2.below hb2)
        obtain ⟨x0, x1, x2, x3, _, _, _, _⟩ := four hv2.1
        obtain ⟨y0, y1, y2, y3, _, _, _, _⟩ := four hv2.2
        clear hv2)
     | (go_at_call 113; refine (C2.out _ hb2).mono ?_; rintro e w3 ⟨rfl, hb3⟩
        have hb3' := hb2.trans (hb3.mono hb2.size)
        have hv3 := And.intro (HV.out.1.below hb3') (HV.out.2.below hb3')
        obtain ⟨x0, x1, x2, x3, _, _, _, _⟩ := four hv3.1
        obtain ⟨y0, y1, y2, y3, _, _, _, _⟩ := four hv3.2
        clear hv3)
     | (go_at_call 114; refine (C3.out _ hb3').mono ?_; rintro e w4 ⟨rfl, hb4⟩)
     | fail)
    go_ret
    exact ⟨rfl, HBZ.out.trans (hb3'.mono HBZ.out.size)⟩
   case true =>
    cases p4
    case false =>
     go_wp2_with (first
      | (go_at_call 112; refine (C1.out _ (Below.refl _ _)).mono ?_; rintro e w2 ⟨rfl, hb2⟩
         have hv2 := And.intro (HV.out.1.below hb2) (HV.out.2.below hb2)
         obtain ⟨x0, x1, x2, x3, _, _, _, _⟩ := four hv2.1
         obtain ⟨y0, y1, y2, y3, _, _, _, _⟩ := four hv2.2
         clear hv2)
      | (go_at_call 113; refine (C2.out _ hb2).mono ?_; rintro e w3 ⟨rfl, hb3⟩
         have hb3' := hb2.trans (hb3.mono hb2.size)
         have hv3 := And.intro (HV.out.1.below hb3') (HV.out.2.below hb3')
         obtain ⟨x0, x1, x2, x3, _, _, _, _⟩ := four hv3.1
         obtain ⟨y0, y1, y2, y3, _, _, _, _⟩ := four hv3.2
         clear hv3)
      | (go_at_call 114; refine (C3.out _ hb3').mono ?_; rintro e w4 ⟨rfl, hb4⟩)
      | fail)
     go_ret
     exact ⟨rfl, (HBZ.out.trans (hb3'.mono HBZ.out.size)).trans (hb4.mono (by have h1 := HBZ.out.size; have h2 := hb3'.size; omega))⟩
    case true =>
     go_wp2_with (first
      | (go_at_call 112; refine (C1.out _ (Below.refl _ _)).mono ?_; rintro e w2 ⟨rfl, hb2⟩
         have hv2 := And.intro (HV.out.1.below hb2) (HV.out.2.below hb2)
         obtain ⟨x0, x1, x2, x3, _, _, _, _⟩ := four hv2.1
         obtain ⟨y0, y1, y2, y3, _, _, _, _⟩ := four hv2.2
         clear hv2)
      | (go_at_call 113; refine (C2.out _ hb2).mono ?_; rintro e w3 ⟨rfl, hb3⟩
         have hb3' := hb2.trans (hb3.mono hb2.size)
         have hv3 := And.intro (HV.out.1.below hb3') (HV.out.2.below hb3')
         obtain ⟨x0, x1, x2, x3, _, _, _, _⟩ := four hv3.1
         obtain ⟨y0, y1, y2, y3, _, _, _, _⟩ := four hv3.2
         clear hv3)
      | (go_at_call 114; refine (C3.out _ hb3').mono ?_; rintro e w4 ⟨rfl, hb4⟩)
      | fail)
     go_ret
     exact ⟨rfl, (HBZ.out.trans (hb3'.mono HBZ.out.size)).trans (hb4.mono (by have h1 := HBZ.out.size; have h2 := hb3'.size; omega))⟩
end Go.Proofs.YtlgpglhbbkikpaaGreat
