/- BlobRefDec StepBN BlobAwake BlobTellsWalk -/
import Derived.Test.YtmekamgohonffaaGreatBT0H
import Derived.Test.YtmekamgohonffaaGreatBT00
import Derived.Test.YtmekamgohonffaaGreatBT07
import Derived.Test.YtmekamgohonffaaGreatBT08
import Derived.Test.YtmekamgohonffaaGreatBT12
import Derived.Test.YtmekamgohonffaaGreatBT16
import Derived.Test.YtmekamgohonffaaGreatBT37
import Derived.Test.YtmekamgohonffaaGreatBT42
import Derived.Test.YtmekamgohonffaaGreatBT51
import Derived.Test.YtmekamgohonffaaGreatBT52
import Derived.Test.YtmekamgohonffaaGreatBT13
import Derived.Test.YtmekamgohonffaaGreatBT44
import Derived.Test.YtmekamgohonffaaGreatBT46
import Derived.Test.YtmekamgohonffaaGreatBT48
import Derived.Test.YtmekamgohonffaaGreatBT49
import Derived.Test.YtmekamgohonffaaGreatBT50
import Derived.Deep.CutBlock
import Derived.Deep.DeepCutAuto
import Derived.Deep.RegionWith
import Derived.OwnWalk
import Derived.WalkLawsBesides
import Derived.WalkSpells
namespace Go.Proofs.YtmekamgohonffaaGreat
open Go.RowKit
set_option linter.unusedVariables false
structure SD0 (w wx : World) (B b g2 g : Nat) (cs : Array Value) (s : Pk.St) : Prop where
 res : Blk wx g2 34 #[.int .i64 0, .slice none 0 0, .slice none 0 0, .slice none 0 0, .slice none 0 0, .slice none 0 0, .slice none 0 0]
 blk : Blk wx g 34 cs
 rd : RefAt wx B b s
 bel : Below w.heap.size w wx
 n : w.heap.size <= g2 /\ g2 < b /\ B <= b /\ b < g
theorem SD0.call {w wx wy : World} {B b g2 g : Nat} {cs : Array Value} {s s' : Pk.St} (h : SD0 w wx B b g2 g cs s) (hr : RefAt wy B b s') (ho : Only b wx wy) : SD0 w wy B b g2 g cs s' := by
 have n := h.n
 exact ⟨h.res.grown ho (by intro e; injection e with e; omega), h.blk.grown ho (by intro e; injection e with e; omega), hr, h.bel.grown ho h.bel.size (fun k hk => by injection hk with hk; omega), n⟩
theorem SD0.below {w wx wy : World} {B b g2 g : Nat} {cs : Array Value} {s : Pk.St} (h : SD0 w wx B b g2 g cs s) (hb : Below wx.heap.size wx wy) : SD0 w wy B b g2 g cs s :=
 ⟨h.res.below hb, h.blk.below hb, h.rd.below hb, h.bel.trans (hb.mono h.bel.size), h.n⟩
theorem SD0.put {w wx : World} {B b g2 g : Nat} {cs : Array Value} {s : Pk.St} (h : SD0 w wx B b g2 g cs s) (i : Nat) (u : Value) : SD0 w (wx.setCell ⟨g, i, none⟩ u) B b g2 g (cs.setIfInBounds i u) s := by
 have n := h.n
 exact ⟨h.res.set_other (by omega), h.blk.set_ i u, h.rd.only (only_set (only_refl g wx) i u) (by omega) (by omega), h.bel.setCell (p := ⟨g, i, none⟩) (by show w.heap.size <= g; omega) _, n⟩
theorem OwnM.setG {W w : World} {g i : Nat} {u : Value} {aM : MA} {m : Mc} (h : OwnM W w aM m) (hg : g < W.heap.size) : OwnM W (w.setCell ⟨g, i, none⟩ u) aM m := h.old (only_set (only_refl g w) i u) (Old.some hg)
theorem SD0.put5 {w w4 wx : World} {B b g2 g : Nat} {p : Int} {aM : MA} {m : Mc} {s : Pk.St} (h : SD0 w wx B b g2 g #[.int .i64 p, .slice none 0 0, .slice none 0 0, .slice none 0 0, .slice none 0 0, .slice none 0 0, .slice none 0 0] s) (hm : OwnM w4 wx aM m) (hg : g < w4.heap.size) :
 SD0 w (((((wx.setCell ⟨g, 1, none⟩ (.slice aM.o.A0 m.o.reg.length aM.o.c0)).setCell ⟨g, 2, none⟩ (.slice aM.o.A1 m.o.q.length aM.o.c1)).setCell ⟨g, 3, none⟩ (.slice aM.o.A2 m.o.lk.length aM.o.c2)).setCell ⟨g, 4, none⟩ (.slice aM.o.A3 m.o.mp.length aM.o.c3)).setCell ⟨g, 5, none⟩ (.slice aM.At m.t.length aM.ct)) B b g2 g #[.int .i64 p, .slice aM.o.A0 m.o.reg.length aM.o.c0, .slice aM.o.A1 m.o.q.length aM.o.c1, .slice aM.o.A2 m.o.lk.length aM.o.c2, .slice aM.o.A3 m.o.mp.length aM.o.c3, .slice aM.At m.t.length aM.ct, .slice none 0 0] s /\ OwnM w4 (((((wx.setCell ⟨g, 1, none⟩ (.slice aM.o.A0 m.o.reg.length aM.o.c0)).setCell ⟨g, 2, none⟩ (.slice aM.o.A1 m.o.q.length aM.o.c1)).setCell ⟨g, 3, none⟩ (.slice aM.o.A2 m.o.lk.length aM.o.c2)).setCell ⟨g, 4, none⟩ (.slice aM.o.A3 m.o.mp.length aM.o.c3)).setCell ⟨g, 5, none⟩ (.slice aM.At m.t.length aM.ct)) aM m /\ (((((wx.setCell ⟨g, 1, none⟩ (.slice aM.o.A0 m.o.reg.length aM.o.c0)).setCell ⟨g, 2, none⟩ (.slice aM.o.A1 m.o.q.length aM.o.c1)).setCell ⟨g, 3, none⟩ (.slice aM.o.A2 m.o.lk.length aM.o.c2)).setCell ⟨g, 4, none⟩ (.slice aM.o.A3 m.o.mp.length aM.o.c3)).setCell ⟨g, 5, none⟩ (.slice aM.At m.t.length aM.ct)).heap.size = wx.heap.size := by
 refine ⟨?_, ((((hm.setG hg).setG hg).setG hg).setG hg).setG hg, by simp⟩
 exact ((((h.put 1 _).put 2 _).put 3 _).put 4 _).put 5 _
structure SD (w w4 w5 wx : World) (B b g2 g : Nat) (p : Int) (aM : MA) (m : Mc) (A : Option Addr) (k c : Nat) (es : List En) (s : Pk.St) : Prop where
 res : Blk wx g2 34 #[.int .i64 0, .slice none 0 0, .slice none 0 0, .slice none 0 0, .slice none 0 0, .slice none 0 0, .slice none 0 0]
 blk : Blk wx g 34 #[.int .i64 p, .slice aM.o.A0 m.o.reg.length aM.o.c0, .slice aM.o.A1 m.o.q.length aM.o.c1, .slice aM.o.A2 m.o.lk.length aM.o.c2, .slice aM.o.A3 m.o.mp.length aM.o.c3, .slice aM.At m.t.length aM.ct, .slice A k c]
 own : OwnM w4 wx aM m
 row : OwnEs w5 wx A k c es
 rd : RefAt wx B b s
 bel : Below w.heap.size w wx
 s5 : w5.heap.size <= wx.heap.size
structure SDn (w w4 w5 : World) (B b g2 g : Nat) : Prop where
 h0 : w.heap.size <= g2
 h1 : g2 < b
 h2 : B <= b
 h3 : b < g
 h4 : g < w4.heap.size
 h5 : w4.heap.size <= w5.heap.size
section
variable {w w4 w5 wx wy : World} {B b g2 g : Nat} {p : Int} {aM : MA} {m : Mc} {A : Option Addr} {k c : Nat} {es : List En} {s s' : Pk.St}
theorem SD.call (h : SD w w4 w5 wx B b g2 g p aM m A k c es s) (hn : SDn w w4 w5 B b g2 g) (hr : RefAt wy B b s') (ho : Only b wx wy) : SD w w4 w5 wy B b g2 g p aM m A k c es s' := by
 have n0 := hn.h0; have n1 := hn.h1; have n2 := hn.h2; have n3 := hn.h3; have n4 := hn.h4; have n5 := hn.h5
 exact ⟨h.res.grown ho (by intro e; injection e with e; omega), h.blk.grown ho (by intro e; injection e with e; omega), h.own.old ho (Old.some (by omega)), h.row.old ho (Old.some (by omega)), hr, h.bel.grown ho h.bel.size (fun k hk => by injection hk with hk; omega), Nat.le_trans h.s5 ho.size⟩
theorem SD.below (h : SD w w4 w5 wx B b g2 g p aM m A k c es s) (hb : Below wx.heap.size wx wy) : SD w w4 w5 wy B b g2 g p aM m A k c es s :=
 ⟨h.res.below hb, h.blk.below hb, h.own.below hb, h.row.below hb, h.rd.below hb, h.bel.trans (hb.mono h.bel.size), Nat.le_trans h.s5 hb.size⟩
theorem SD.more (h : SD w w4 w5 wx B b g2 g p aM m A k c es s) (hn : SDn w w4 w5 B b g2 g) (hg : wx.grownBy wy (Value.slice A k c).ownBlock) (hb : Below w5.heap.size wx wy) {A3 : Option Addr} {c3 : Nat} {es3 : List En} (ho : OwnEs w5 wy A3 (k + 1) c3 es3) : SD w w4 w5 (wy.setCell ⟨g, 6, none⟩ (.slice A3 (k + 1) c3)) B b g2 g p aM m A3 (k + 1) c3 es3 s := by
 have n0 := hn.h0; have n1 := hn.h1; have n2 := hn.h2; have n3 := hn.h3; have n4 := hn.h4; have n5 := hn.h5
 have k1 : Blk wy g 34 #[.int .i64 p, .slice aM.o.A0 m.o.reg.length aM.o.c0, .slice aM.o.A1 m.o.q.length aM.o.c1, .slice aM.o.A2 m.o.lk.length aM.o.c2, .slice aM.o.A3 m.o.mp.length aM.o.c3, .slice aM.At m.t.length aM.ct, .slice A k c] := (hb.block g (by omega)).trans h.blk
 have k2 : Blk wy g2 34 #[.int .i64 0, .slice none 0 0, .slice none 0 0, .slice none 0 0, .slice none 0 0, .slice none 0 0, .slice none 0 0] := (hb.block g2 (by omega)).trans h.res
 have hx := h.s5
 have hs2 := hb.size
 have hrd : RefAt wy B b s := by
  obtain ⟨A, n, c, h1, h2, h3, h4, h5, h6⟩ := h.rd
  exact ⟨A, n, c, (hb.block b (by omega)).trans h1, h2, h3, h4, h5, fun l hl => ⟨(h6 l hl).1.keep (fun p hp => hb.cell (by omega)) lR, (h6 l hl).2⟩⟩
 have hset : Only g wy (wy.setCell ⟨g, 6, none⟩ (.slice A3 (k + 1) c3)) := only_set (only_refl g wy) 6 _
 have hown : OwnM w4 wy aM m := by
  obtain ⟨vs, q1, _⟩ := h.row
  exact h.own.grownE q1 hg
 refine ⟨k2.set_other (by omega), k1.set_ 6 _, hown.old hset (Old.some (by omega)), ho.old hset (Old.some (by omega)), hrd.only hset (by omega) (by omega), ?_, by simpa using by omega⟩
 have hbw : Below w.heap.size w wy := h.bel.trans (hb.mono (by omega))
 exact hbw.setCell (p := ⟨g, 6, none⟩) (by show w.heap.size <= g; omega) _
end
set_option maxHeartbeats 40000000 in
set_option maxRecDepth 100000 in
theorem refDecode15_raw {w : World} {A : Option Addr} {n c B : Nat} {l : List Nat} (hl : l.length <= 100000) (hby : ∀ x ∈ l, x < 256) (hc : n <= c /\ c <= maxLen) (h : Rd w B A n (bv l)) : Calls Tryz.prog 12 #[.slice A n c] w (GotS w w (Sb.dec l)) := by
 have hmbl := Sb.mb_len l
 have hfacts := Sb.read_facts hby
 have hn64 := Sb.n0_le l
 have hpos : (Sb.pos0 l : Int) <= 1099511627776 := numV_le _ (by decide)
 have CU := zH (fun (W w' : World) (hr : Rd w' w'.heap.size A n (bv l)) (hB : Below W.heap.size W w') => refUnfour (W := W) hby (by omega) hc hr hB)
 have CN := zH (fun w B b h => refrnum_any w B b (Sb.st0 l) 1099511627776 h)
 have CB := zH (fun w B b h => refrbytes_any w B b (Sb.st1 l) 1073741824 h)
 have CM := zH (fun (w : World) (A : Option Addr) (n c : Nat) (hc : n <= c /\ c <= maxLen) (h : Rd w w.heap.size A n (bv (Sb.mb l))) => refDecode_any (by omega) hfacts.2.1 hc.1 hc.2 h)
 have CK := zH (fun w B b h => refrnum_any w B b (Sb.st2 l) 64 h)
 have HDEC : Hid (Sb.dec l = if (Fr.unf l).isSome = true /\ (Mc.dec (Sb.mb l)).isSome = true /\ Pk.endOf (Sb.es0 l).2 = true /\ (Sb.pos0 l : Int) <= 549755813888 - (Sb.n0 l : Int) then some ⟨Sb.pos0 l, (Mc.dec (Sb.mb l)).getD Mc.zero, (Sb.es0 l).1⟩ else none) := zH (by
  unfold Sb.dec Sb.good
  rw [Pk.endOf_is]
  simp only [Bool.and_eq_true, decide_eq_true_eq])
 have e0 : Pk.numV (Sb.st0 l) 1099511627776 = Sb.pos0 l := rfl
 have e1 : Pk.numS (Sb.st0 l) 1099511627776 = Sb.st1 l := rfl
 have e2 : Pk.bytV (Sb.st1 l) 1073741824 = Sb.mb l := rfl
 have e3 : Pk.bytS (Sb.st1 l) 1073741824 = Sb.st2 l := rfl
 have e4 : Pk.numV (Sb.st2 l) 64 = Sb.n0 l := rfl
 have e5 : Pk.numS (Sb.st2 l) 64 = Sb.st3 l := rfl
 rw [e0, e1] at CN
 rw [e2, e3] at CB
 rw [e4, e5] at CK
 clear e0 e1 e2 e3 e4 e5 hmbl
 have HES : Hid (Sb.es0 l = getE (Sb.n0 l) (Sb.st3 l)) := zH rfl
 have HST0 : Hid (Sb.st0 l = some ((Fr.unf l).getD [])) := zH rfl
 obtain ⟨U, hU⟩ : ∃ U, Fr.unf l = U := ⟨_, rfl⟩
 obtain ⟨D, hD⟩ : ∃ D, Mc.dec (Sb.mb l) = D := ⟨_, rfl⟩
 have hub : ∀ x ∈ U.getD [], x < 256 := by
  rw [<- hU]
  intro x hx
  cases hu : Fr.unf l with
  | none => rw [hu] at hx; cases hx
  | some z =>
    rw [hu] at hx
    obtain ⟨rfl, _⟩ := Fr.unf_is hu
    exact hby x (List.mem_of_mem_drop hx)
 have hul : (U.getD []).length <= 100000 := by
  rw [<- hU]
  cases hu : Fr.unf l with
  | none => simp
  | some z => obtain ⟨rfl, _⟩ := Fr.unf_is hu; simp; omega
 rw [hU] at CU HDEC HST0
 rw [hD] at CM HDEC
 clear hU hD
 obtain ⟨RR, hRR⟩ : ∃ R, Sb.dec l = R := ⟨_, rfl⟩
 rw [hRR] at HDEC |-
 clear hRR
 generalize Sb.es0 l = E at HDEC HES
 generalize Sb.st0 l = s0 at CN HST0
 generalize Sb.st1 l = s1 at CN CB
 generalize Sb.mb l = mb at CB CM
 generalize Sb.st2 l = s2 at CB CK
 generalize Sb.n0 l = N at CK HDEC HES hn64
 generalize Sb.st3 l = s3 at CK HES
 generalize hp0 : Sb.pos0 l = p0 at CN HDEC hpos
 obtain ⟨p, hp⟩ : ∃ p : Int, (p0 : Int) = p := ⟨_, rfl⟩
 rw [hp] at HDEC hpos
 have hpn : 0 <= p := by omega
 obtain ⟨m, hm0⟩ : ∃ m, D.getD Mc.zero = m := ⟨_, rfl⟩
 have CM2 : Hid (∀ (w : World) (A : Option Addr) (n c : Nat), n <= c /\ c <= maxLen -> Rd w w.heap.size A n (bv mb) -> Calls Tryz.prog 38 #[.slice A n c] w fun en w' => ∃ aM, en = .returned (.tuple #[.agg #[.slice aM.o.A0 m.o.reg.length aM.o.c0, .slice aM.o.A1 m.o.q.length aM.o.c1, .slice aM.o.A2 m.o.lk.length aM.o.c2, .slice aM.o.A3 m.o.mp.length aM.o.c3, .slice aM.At m.t.length aM.ct], .bool D.isSome]) /\ OwnM w w' aM m /\ Below w.heap.size w w') := zH (fun w A n c h1 h2 => (CM.out w A n c h1 h2).mono fun en w' ⟨aM, q1, q2, q3, _⟩ => ⟨aM, by rw [q1, hm0]; rfl, by rw [<- hm0]; exact q2, q3⟩)
 rw [hm0] at HDEC
 clear hm0 CM
 have HUB := zH hub
 have HUL := zH hul
 have HN64 := zH hn64
 have HRD := zH h.fit
 have HC := zH hc
 clear h hfacts hub hul hp0 hl hby hc
 have b1 : Below w.heap.size w (w.alloc (.cells #[.int .i64 0, .slice none 0 0, .slice none 0 0, .slice none 0 0, .slice none 0 0, .slice none 0 0, .slice none 0 0] 34)) := (Below.refl _ _).alloc lR _
 have HB1 := zH b1
 have HK1 := zH (Blk.new w 34 #[.int .i64 0, .slice none 0 0, .slice none 0 0, .slice none 0 0, .slice none 0 0, .slice none 0 0, .slice none 0 0])
 clear b1
 go_enter Tryz.func12, Tryz.ntmps12
 go_upto_region 1 with fail
 obtain ⟨g2, hg2⟩ : ∃ g2, w.heap.size = g2 := ⟨_, rfl⟩
 generalize (w.alloc (.cells #[.int .i64 0, .slice none 0 0, .slice none 0 0, .slice none 0 0, .slice none 0 0, .slice none 0 0, .slice none 0 0] 34)) = w1 at HB1 HK1 |-
 rw [hg2] at HK1 HB1 |-
 have HG2 := zH hg2
 clear hg2
 go_upto_region 3 with (first
  | (go_at_call 36; refine (CU.out w1 w1 (HRD.out.below (HG2.out ▸ HB1.out)).fit (Below.refl _ _)).mono ?_; rintro en w2 ⟨Au, cu, rfl, hou, hbu, _⟩)
  | fail)
 have hcap := own_cap hou
 have hbn : g2 < w2.heap.size := (HK1.out.below hbu).lt
 have bbr : Below w2.heap.size w2 (w2.alloc (.cells #[.slice Au (U.getD []).length cu, .bool false] 68)) := (Below.refl _ _).alloc lR _
 have hra : RefAt (w2.alloc (.cells #[.slice Au (U.getD []).length cu, .bool false] 68)) w2.heap.size w2.heap.size s0 := by
  rw [HST0.out]
  refine ⟨Au, (U.getD []).length, cu, Blk.new _ _ _, hcap.1, hcap.2, by have := HUL.out; unfold Lim; omega, Nat.le_refl _, fun l' hl' => ?_⟩
  injection hl' with hl'
  subst hl'
  exact ⟨(Rd.own_ hou).below bbr, HUB.out⟩
 have HRA := zH hra
 have hbw := (HG2.out ▸ HB1.out).trans (hbu.mono (HG2.out ▸ HB1.out).size)
 have HBW := zH (hbw.trans (bbr.mono hbw.size))
 have HKR := zH (((HK1.out.below hbu)).below bbr)
 have HLR : Hid (w2.heap.size < (w2.alloc (.cells #[.slice Au (U.getD []).length cu, .bool false] 68)).heap.size) := zH (by rw [World.size_alloc]; omega)
 clear hra hbw bbr hcap hou hbu HK1 HB1 HST0 HUB HUL CU
 generalize w2.alloc (.cells #[.slice Au (U.getD []).length cu, .bool false] 68) = wR at HRA HBW HKR HLR |-
 obtain ⟨b, hb⟩ : ∃ b, w2.heap.size = b := ⟨_, rfl⟩
 rw [hb] at HRA HLR hbn |-
 clear hb
 have CN1 := zH (CN.out wR b b HRA.out)
 unfold RefNumP at CN1
 rw [hp] at CN1
 clear CN hp
 go_upto_region 4 with (first
  | (go_at_call 37; refine CN1.out.mono ?_; rintro en w3 ⟨rfl, hr, ho, hz⟩; clear hz)
  | (refine wpList_store_row rfl 34 (.tmp 7) (.tmp 21) rfl w3.heap.size #[.int .i64 p, .slice none 0 0, .slice none 0 0, .slice none 0 0, .slice none 0 0, .slice none 0 0, .slice none 0 0] rfl rfl 34 #[.int .i64 0, .slice none 0 0, .slice none 0 0, .slice none 0 0, .slice none 0 0, .slice none 0 0, .slice none 0 0] (Blk.new w3 34 #[.int .i64 0, .slice none 0 0, .slice none 0 0, .slice none 0 0, .slice none 0 0, .slice none 0 0, .slice none 0 0]) (by kernel_rfl) rfl (by kernel_rfl) ?_)
  | fail)
 obtain ⟨g, hg⟩ : ∃ g, w3.heap.size = g := ⟨_, rfl⟩
 have hs0 : SD0 w ((w3.alloc (.cells #[.int .i64 0, .slice none 0 0, .slice none 0 0, .slice none 0 0, .slice none 0 0, .slice none 0 0, .slice none 0 0] 34)).setRow w3.heap.size #[.int .i64 p, .slice none 0 0, .slice none 0 0, .slice none 0 0, .slice none 0 0, .slice none 0 0, .slice none 0 0]) b b g2 g #[.int .i64 p, .slice none 0 0, .slice none 0 0, .slice none 0 0, .slice none 0 0, .slice none 0 0, .slice none 0 0] s1 := by
  have k1 := HKR.out.grown ho (by intro e; injection e with e; omega)
  have k2 : Below w.heap.size w w3 := HBW.out.grown ho HBW.out.size (fun k hk => by injection hk with hk; have := HG2.out; omega)
  have k3 : Below w3.heap.size w3 ((w3.alloc (.cells #[.int .i64 0, .slice none 0 0, .slice none 0 0, .slice none 0 0, .slice none 0 0, .slice none 0 0, .slice none 0 0] 34)).setRow w3.heap.size #[.int .i64 p, .slice none 0 0, .slice none 0 0, .slice none 0 0, .slice none 0 0, .slice none 0 0, .slice none 0 0]) := below_setRow ((Below.refl _ _).alloc lR _) lR _
  have hlr := HLR.out
  have hg2 := HG2.out
  have hos := ho.size
  have hn : w.heap.size <= g2 /\ g2 < b /\ b <= b /\ b < w3.heap.size := by omega
  subst hg
  exact ⟨k1.below k3, Blk.putS (Blk.new w3 34 #[.int .i64 0, .slice none 0 0, .slice none 0 0, .slice none 0 0, .slice none 0 0, .slice none 0 0, .slice none 0 0]) _, hr.below k3, k2.trans (k3.mono k2.size), hn⟩
 have HS := zH hs0
 clear hs0 hr ho HRA HBW HKR HLR CN1 HG2 hbn
 generalize ((w3.alloc (.cells #[.int .i64 0, .slice none 0 0, .slice none 0 0, .slice none 0 0, .slice none 0 0, .slice none 0 0, .slice none 0 0] 34)).setRow w3.heap.size #[.int .i64 p, .slice none 0 0, .slice none 0 0, .slice none 0 0, .slice none 0 0, .slice none 0 0, .slice none 0 0]) = w4 at HS |-
 rw [hg]
 clear hg
 go_upto_region 5 with (first
  | (go_at_call 39; refine (CB.out _ _ _ HS.out.rd).mono ?_; rintro en w5 ⟨Am, nm, cm, rfl, hv, hr, ho⟩
     obtain rfl := own_len hv
     have HS1 := zH (HS.out.call hr ho)
     have hmcap := own_cap hv
     have hmr := Rd.own_ hv
     clear hv hr ho)
  | (go_at_call 38; refine (CM2.out _ _ _ _ hmcap hmr).mono ?_; rintro en w6 ⟨aM, rfl, hm, hb6⟩
     have HS2 := zH (HS1.out.below hb6)
     have HM := zH hm
     have HB6 := zH hb6
     clear hm hb6)
  | (refine wpList_store_row rfl 31 (.tmp 8) (.tmp 26) rfl w6.heap.size #[.slice aM.o.A0 m.o.reg.length aM.o.c0, .slice aM.o.A1 m.o.q.length aM.o.c1, .slice aM.o.A2 m.o.lk.length aM.o.c2, .slice aM.o.A3 m.o.mp.length aM.o.c3, .slice aM.At m.t.length aM.ct] rfl rfl 31 #[.slice none 0 0, .slice none 0 0, .slice none 0 0, .slice none 0 0, .slice none 0 0] (Blk.new w6 31 #[.slice none 0 0, .slice none 0 0, .slice none 0 0, .slice none 0 0, .slice none 0 0]) (by kernel_rfl) rfl (by kernel_rfl) ?_)
  | fail)
 have b7 : Below w6.heap.size w6 ((w6.alloc (.cells #[.slice none 0 0, .slice none 0 0, .slice none 0 0, .slice none 0 0, .slice none 0 0] 31)).setRow w6.heap.size #[.slice aM.o.A0 m.o.reg.length aM.o.c0, .slice aM.o.A1 m.o.q.length aM.o.c1, .slice aM.o.A2 m.o.lk.length aM.o.c2, .slice aM.o.A3 m.o.mp.length aM.o.c3, .slice aM.At m.t.length aM.ct]) := below_setRow ((Below.refl _ _).alloc lR _) lR _
 have HKM : Hid (Blk ((w6.alloc (.cells #[.slice none 0 0, .slice none 0 0, .slice none 0 0, .slice none 0 0, .slice none 0 0] 31)).setRow w6.heap.size #[.slice aM.o.A0 m.o.reg.length aM.o.c0, .slice aM.o.A1 m.o.q.length aM.o.c1, .slice aM.o.A2 m.o.lk.length aM.o.c2, .slice aM.o.A3 m.o.mp.length aM.o.c3, .slice aM.At m.t.length aM.ct]) w6.heap.size 31 #[.slice aM.o.A0 m.o.reg.length aM.o.c0, .slice aM.o.A1 m.o.q.length aM.o.c1, .slice aM.o.A2 m.o.lk.length aM.o.c2, .slice aM.o.A3 m.o.mp.length aM.o.c3, .slice aM.At m.t.length aM.ct]) := zH (setRow_heap _ _ _ _ _ (0, 0) (Blk.new w6 31 #[.slice none 0 0, .slice none 0 0, .slice none 0 0, .slice none 0 0, .slice none 0 0]))
 have HS3 := zH (HS2.out.below b7)
 have HM3 := zH (HM.out.below b7)
 have HG5 := zH HS1.out.blk.lt
 have HW57 := zH (Nat.le_trans HB6.out.size b7.size)
 clear b7 HS HS1 HS2 HM HB6 hmcap hmr
 obtain ⟨gm, hgm⟩ : ∃ gm, w6.heap.size = gm := ⟨_, rfl⟩
 rw [hgm] at HKM HS3 HM3 HW57 |-
 clear hgm
 generalize ((w6.alloc (.cells #[.slice none 0 0, .slice none 0 0, .slice none 0 0, .slice none 0 0, .slice none 0 0] 31)).setRow gm #[.slice aM.o.A0 m.o.reg.length aM.o.c0, .slice aM.o.A1 m.o.q.length aM.o.c1, .slice aM.o.A2 m.o.lk.length aM.o.c2, .slice aM.o.A3 m.o.mp.length aM.o.c3, .slice aM.At m.t.length aM.ct]) = w7 at HKM HS3 HM3 HW57 |-
 obtain ⟨x0, x1, x2, x3, x4, x5, x6⟩ := seven HS3.out.blk
 have f1 := HS3.out.blk.frozen 1
 have f2 := HS3.out.blk.frozen 2
 have f3 := HS3.out.blk.frozen 3
 have f4 := HS3.out.blk.frozen 4
 have f5 := HS3.out.blk.frozen 5
 go_upto_region 6 with (first
  | (refine wpList_load_row rfl 31 (.tmp 8) rfl gm rfl 31 #[.slice aM.o.A0 m.o.reg.length aM.o.c0, .slice aM.o.A1 m.o.q.length aM.o.c1, .slice aM.o.A2 m.o.lk.length aM.o.c2, .slice aM.o.A3 m.o.mp.length aM.o.c3, .slice aM.At m.t.length aM.ct] (0, 0) _ HKM.out Tryz.underlying31 rfl (by kernel_rfl) ?_)
  | fail)
 clear x0 x1 x2 x3 x4 x5 x6 f1 f2 f3 f4 f5
 obtain ⟨q1, q2, q3⟩ := HS3.out.put5 (aM := aM) (m := m) HM3.out HG5.out
 have hsd0 : SD w w5 (((((w7.setCell ⟨g, 1, none⟩ (.slice aM.o.A0 m.o.reg.length aM.o.c0)).setCell ⟨g, 2, none⟩ (.slice aM.o.A1 m.o.q.length aM.o.c1)).setCell ⟨g, 3, none⟩ (.slice aM.o.A2 m.o.lk.length aM.o.c2)).setCell ⟨g, 4, none⟩ (.slice aM.o.A3 m.o.mp.length aM.o.c3)).setCell ⟨g, 5, none⟩ (.slice aM.At m.t.length aM.ct)) (((((w7.setCell ⟨g, 1, none⟩ (.slice aM.o.A0 m.o.reg.length aM.o.c0)).setCell ⟨g, 2, none⟩ (.slice aM.o.A1 m.o.q.length aM.o.c1)).setCell ⟨g, 3, none⟩ (.slice aM.o.A2 m.o.lk.length aM.o.c2)).setCell ⟨g, 4, none⟩ (.slice aM.o.A3 m.o.mp.length aM.o.c3)).setCell ⟨g, 5, none⟩ (.slice aM.At m.t.length aM.ct)) b b g2 g p aM m none 0 0 [] s2 := ⟨q1.res, q1.blk, q2, OwnEs.nil _ _, q1.rd, q1.bel, Nat.le_refl _⟩
 have hsdn : SDn w w5 (((((w7.setCell ⟨g, 1, none⟩ (.slice aM.o.A0 m.o.reg.length aM.o.c0)).setCell ⟨g, 2, none⟩ (.slice aM.o.A1 m.o.q.length aM.o.c1)).setCell ⟨g, 3, none⟩ (.slice aM.o.A2 m.o.lk.length aM.o.c2)).setCell ⟨g, 4, none⟩ (.slice aM.o.A3 m.o.mp.length aM.o.c3)).setCell ⟨g, 5, none⟩ (.slice aM.At m.t.length aM.ct)) b b g2 g := by
  have n := HS3.out.n
  have h57 := HW57.out
  exact ⟨n.1, n.2.1, n.2.2.1, n.2.2.2, HG5.out, by rw [q3]; exact h57⟩
 have HSD := zH hsd0
 have HN := zH hsdn
 clear q1 q2 q3 hsd0 hsdn HS3 HM3 HKM HG5 HW57
 generalize (((((w7.setCell ⟨g, 1, none⟩ (.slice aM.o.A0 m.o.reg.length aM.o.c0)).setCell ⟨g, 2, none⟩ (.slice aM.o.A1 m.o.q.length aM.o.c1)).setCell ⟨g, 3, none⟩ (.slice aM.o.A2 m.o.lk.length aM.o.c2)).setCell ⟨g, 4, none⟩ (.slice aM.o.A3 m.o.mp.length aM.o.c3)).setCell ⟨g, 5, none⟩ (.slice aM.At m.t.length aM.ct)) = w8 at HSD HN |-
 go_upto_region 7 with (first
  | (go_at_call 37; refine (CK.out _ _ _ HSD.out.rd).mono ?_; rintro en w9 ⟨rfl, hr, ho, hz⟩; clear hz
     have HSD9 := zH (HSD.out.call HN.out hr ho)
     clear hr ho CK)
  | fail)
 clear HSD
 go_loopw [10] (fun s10 wr => ∃ (j k : Nat) (A : Option Addr) (c : Nat) (es : List En) (sj : Pk.St), j + k = N /\ es.length = k /\ s10 = .int .i64 (j : Int) /\ Hid (getE N s3 = (es ++ (getE j sj).1, (getE j sj).2)) /\ Hid (SD w w5 w8 wr b b g2 g p aM m A k c es sj)) (fun s _ => (intOf s).toNat)
 case atStart => exact ⟨N, 0, none, 0, [], s3, rfl, rfl, rfl, zH (by simp), HSD9⟩
 case round =>
  clear HSD9
  obtain ⟨j, k, A1, c1, es, sj, hjk, hes, rfl, HQ, HSD⟩ := hrel
  cases j with
  | succ j =>
    have hjp : (0 : Int) < ((j + 1 : Nat) : Int) := by omega
    have hjw : IntKind.i64.wrap (((j + 1 : Nat) : Int) - 1) = (j : Int) := by rw [show ((j + 1 : Nat) : Int) - 1 = (j : Int) by omega]; exact IntWalk.i64_in _ (by omega)
    obtain ⟨e, he⟩ : ∃ e, En.read sj = e := ⟨_, rfl⟩
    obtain ⟨sk, hk0⟩ : ∃ s, (En.get sj).2 = s := ⟨_, rfl⟩
    have HQ2 : Hid (getE N s3 = ((es ++ [e]) ++ (getE j sk).1, (getE j sk).2)) := zH (by rw [HQ.out]; simp only [getE, he, hk0, List.append_assoc, List.singleton_append])
    have CG : Hid (∀ w B b, RefAt w B b sj -> Calls Tryz.prog 40 #[.pointer (some ⟨b, 0, none⟩)] w fun en w' => ∃ ca, en = .returned (.agg #[.int .i64 e.s, .int .i64 e.q, .int .i64 e.c.kind, .int .i64 e.c.who, .slice ca.Ak e.c.key.length ca.ck, .slice ca.Av e.c.val.length ca.cv, .slice ca.Ao e.c.old.length ca.co]) /\ OwnC w w' ca e.c /\ RefAt w' B b sk /\ Only b w w') := zH (fun w B b h => (refGetEntry_any w B b sj h).mono fun en w' ⟨ca, q1, q2, q3, q4⟩ => ⟨ca, by rw [q1, he]; rfl, by rw [<- he]; exact q2, by rw [<- hk0]; exact q3, q4⟩)
    clear he hk0 HQ
    go_upto_region 9 with fail
    have hb0 := HSD.out.blk
    have hbd : Below wr.heap.size wr wr.drew := (Below.refl _ _).drew
    have HS0 := zH (HSD.out.below hbd)
    refine region_T (n := 7) (S := fun w' => w'.cell? ⟨g, 6, none⟩ = some (.slice A1 k c1)) (by kernel_rfl) ?_
    have hS : Hid (wr.drew.cell? ⟨g, 6, none⟩ = some (.slice A1 k c1)) := zH ((hb0.below hbd).cell 6)
    clear hbd hb0 HSD
    generalize wr.drew = wd at HS0 hS |-
    refine AnyT.take (i := 0) (v := .pointer (some ⟨g, 6, none⟩)) rfl (by kernel_rfl) (by kernel_rfl) (by kernel_rfl) (by kernel_rfl) (fun _ _ _ h => h) (Or.inl ⟨by kernel_rfl, fun w _ => by go_simp⟩) hS.out ?_
    refine AnyT.take (i := 2) (v := .pointer (some ⟨b, 0, none⟩)) rfl (by kernel_rfl) (by kernel_rfl) (by kernel_rfl) (by kernel_rfl) (fun _ _ _ h => h) (Or.inl ⟨by kernel_rfl, fun w _ => by go_simp⟩) hS.out ?_
    refine AnyT.take (i := 1) (v := .slice A1 k c1) rfl (by kernel_rfl) (by kernel_rfl) (by kernel_rfl) (by kernel_rfl) (fun _ _ _ h => h) (Or.inl ⟨by kernel_rfl, fun w h => by have q := h; go_simp⟩) hS.out ?_
    refine AnyT.ready (rs := [3]) (by kernel_rfl) (by simp) ?_
    refine AllT.cons rfl (fun K hK => ?_) AllT.nil
    go_simp
    refine (CG.out _ _ _ HS0.out.rd).mono ?_
    rintro en wa ⟨ca, rfl, hca, hr, ho⟩
    have HCA := zH (show OwnC w8 wa ca e.c from ⟨own_of HS0.out.s5 hca.k, own_of HS0.out.s5 hca.v, own_of HS0.out.s5 hca.o⟩)
    have HS1 := zH (HS0.out.call HN.out hr ho)
    have hS : Hid (wa.cell? ⟨g, 6, none⟩ = some (.slice A1 k c1)) := zH (HS1.out.blk.cell 6)
    clear hca hr ho HS0 CG
    go_simp
    refine hK.out _ _ (Or.inr (hS.out)) (fun _ => ?_)
    clear hK K
    refine AnyT.ready (rs := [4]) (by kernel_rfl) (by simp) ?_
    refine AllT.cons rfl (fun K hK => ?_) AllT.nil
    go_simp
    have bb : Below wa.heap.size wa (wa.alloc (.cells #[.int .i64 e.s, .int .i64 e.q, .int .i64 e.c.kind, .int .i64 e.c.who, .slice ca.Ak e.c.key.length ca.ck, .slice ca.Av e.c.val.length ca.cv, .slice ca.Ao e.c.old.length ca.co] 43)) := (Below.refl _ _).alloc lR _
    have HS2 := zH (HS1.out.below bb)
    have HCA2 := zH (HCA.out.belowB bb)
    have HSRC := zH (Rd.entAt wa ca e 43 rfl)
    have hS : Hid ((wa.alloc (.cells #[.int .i64 e.s, .int .i64 e.q, .int .i64 e.c.kind, .int .i64 e.c.who, .slice ca.Ak e.c.key.length ca.ck, .slice ca.Av e.c.val.length ca.cv, .slice ca.Ao e.c.old.length ca.co] 43)).cell? ⟨g, 6, none⟩ = some (.slice A1 k c1)) := zH (HS2.out.blk.cell 6)
    obtain ⟨vs, hq1, hq2⟩ := HS2.out.row
    clear bb HS1 HCA
    refine hK.out _ _ (Or.inr (hS.out)) (fun _ => ?_)
    clear hK K
    generalize wa.alloc (.cells #[.int .i64 e.s, .int .i64 e.q, .int .i64 e.c.kind, .int .i64 e.c.who, .slice ca.Ak e.c.key.length ca.ck, .slice ca.Av e.c.val.length ca.cv, .slice ca.Ao e.c.old.length ca.co] 43) = wb at HS2 HCA2 HSRC hS hq1 hq2 |-
    have HQ1 := zH hq1
    have HQ2b := zH hq2
    clear hq1 hq2
    refine AnyT.ready (rs := [5]) (by kernel_rfl) (by simp) ?_
    refine AllT.cons rfl (fun K hK => ?_) AllT.nil
    refine step_append_atE (c' := 1) w8.heap.size HS2.out.s5 cellE (.tmp 37) (.tmp 40) rfl rfl (by kernel_rfl) HQ1.out (by kernel_rfl) HSRC.out (entL_one _ _) (by have := HN64.out; omega) (by omega) ?_
    intro A6 c6 wc ho6 hg6
    have hbw : Below w8.heap.size wb wc := (Below.refl _ _).grown hg6 HS2.out.s5 (fun k hk => (HQ1.out.lt k hk).1)
    have hrow : OwnEs w8 wc A6 (k + 1) c6 (es ++ [e]) := OwnEs.snoc HQ1.out HQ2b.out HCA2.out hg6 ho6
    have HFIN := zH (HS2.out.more HN.out hg6 hbw hrow)
    have hblk6 := HS2.out.blk.apart_own HQ1.out (by decide) hg6
    have z6 : wc.cell? ⟨g, 6, none⟩ = some (.slice A1 k c1) := hblk6.cell 6
    have f6 := hblk6.frozen 6
    have hS : Hid (wc.cell? ⟨g, 6, none⟩ = some (.slice A1 k c1)) := zH z6
    clear hbw hrow hblk6 ho6 hg6 HS2 HCA2 HSRC HQ1 HQ2b
    refine hK.out _ _ (Or.inr (hS.out)) (fun _ => ?_)
    clear hK K
    refine AnyT.take (i := 6) (v := .pointer (some ⟨g, 6, none⟩)) rfl (by kernel_rfl) (by kernel_rfl) (by kernel_rfl) (by kernel_rfl) (fun _ _ _ h => h) (Or.inl ⟨by kernel_rfl, fun w _ => by go_simp⟩) hS.out ?_
    refine AnyT.ready (rs := [7]) (by kernel_rfl) (by simp) ?_
    refine AllT.cons rfl (fun K hK => ?_) AllT.nil
    go_simp
    refine hK.out _ _ (Or.inl rfl) (fun _ => ?_)
    clear hK K
    refine AnyT.done (by kernel_rfl) ?_ _
    go_wp2_with fail
    go_roundw
    case rel => exact ⟨j, k + 1, A6, c6, es ++ [e], sk, by omega, by simp [hes], by go_num, HQ2, HFIN⟩
    case measure => simp only [intOf]; omega
  | zero =>
    have hkN : k = N := by omega
    clear hjk
    subst hkN
    have HEF : Hid (E = (es, sj)) := zH (by rw [HES.out, HQ.out]; simp [getE])
    rw [HEF.out] at HDEC
    obtain ⟨en, hen⟩ : ∃ x, Pk.endOf sj = x := ⟨_, rfl⟩
    have CE := zH (refend_any wr b b sj HSD.out.rd)
    rw [hen] at CE HDEC
    simp only at HDEC
    clear hen
    obtain ⟨uS, huS⟩ : ∃ x, U.isSome = x := ⟨_, rfl⟩
    obtain ⟨dS, hdS⟩ : ∃ x, D.isSome = x := ⟨_, rfl⟩
    rw [huS, hdS] at HDEC
    rw [huS, hdS]
    clear huS hdS
    have y0 : wr.cell? ⟨g, 0, none⟩ = some (.int .i64 p) := HSD.out.blk.cell 0
    have y6 : wr.cell? ⟨g, 6, none⟩ = some (.slice A1 k c1) := HSD.out.blk.cell 6
    have hw9 : IntKind.i64.wrap (549755813888 - (k : Int)) = 549755813888 - (k : Int) := IntWalk.i64_in _ (by omega)
    cases uS with
    | false =>
      go_wp2_with (first
       | (go_at_call 41; refine CE.out.mono ?_; rintro en2 w5 ⟨rfl, rfl⟩)
       | (refine wpList_load_row rfl 34 (.tmp 7) rfl g rfl 34 #[.int .i64 p, .slice aM.o.A0 m.o.reg.length aM.o.c0, .slice aM.o.A1 m.o.q.length aM.o.c1, .slice aM.o.A2 m.o.lk.length aM.o.c2, .slice aM.o.A3 m.o.mp.length aM.o.c3, .slice aM.At m.t.length aM.ct, .slice A1 k c1] (0, 0) _ HSD.out.blk Tryz.underlying34 rfl (by kernel_rfl) ?_)
       | (refine wpList_store_row rfl 34 (.tmp 2) (.tmp 63) rfl g2 #[.int .i64 0, .slice none 0 0, .slice none 0 0, .slice none 0 0, .slice none 0 0, .slice none 0 0, .slice none 0 0] rfl rfl 34 #[.int .i64 0, .slice none 0 0, .slice none 0 0, .slice none 0 0, .slice none 0 0, .slice none 0 0, .slice none 0 0] HSD.out.res (by kernel_rfl) rfl (by kernel_rfl) ?_)
       | fail)
      refine bodyPost_ret (results_cell_tmp rfl _ _ _ _ _ _ rfl (Blk.putS HSD.out.res #[.int .i64 0, .slice none 0 0, .slice none 0 0, .slice none 0 0, .slice none 0 0, .slice none 0 0, .slice none 0 0]) Tryz.underlying34 rfl (by kernel_rfl)) rfl ?_
      have n := HN.out
      have n0 := n.h0; have n1 := n.h1; have n3 := n.h3; have n4 := n.h4; have n5 := n.h5
      have hbelE : Below w.heap.size w (wr.setRow g2 #[.int .i64 0, .slice none 0 0, .slice none 0 0, .slice none 0 0, .slice none 0 0, .slice none 0 0, .slice none 0 0]) := below_setRow HSD.out.bel n0 _
      have hD := HDEC.out
      rw [if_neg (by rintro ⟨h1, _⟩; cases h1)] at hD
      subst hD
      exact ⟨SA.zero, rfl, OwnS.zero _ _, hbelE, hbelE⟩
    | true =>
      cases dS with
      | false =>
        go_wp2_with (first
         | (go_at_call 41; refine CE.out.mono ?_; rintro en2 w5 ⟨rfl, rfl⟩)
         | (refine wpList_load_row rfl 34 (.tmp 7) rfl g rfl 34 #[.int .i64 p, .slice aM.o.A0 m.o.reg.length aM.o.c0, .slice aM.o.A1 m.o.q.length aM.o.c1, .slice aM.o.A2 m.o.lk.length aM.o.c2, .slice aM.o.A3 m.o.mp.length aM.o.c3, .slice aM.At m.t.length aM.ct, .slice A1 k c1] (0, 0) _ HSD.out.blk Tryz.underlying34 rfl (by kernel_rfl) ?_)
         | (refine wpList_store_row rfl 34 (.tmp 2) (.tmp 63) rfl g2 #[.int .i64 0, .slice none 0 0, .slice none 0 0, .slice none 0 0, .slice none 0 0, .slice none 0 0, .slice none 0 0] rfl rfl 34 #[.int .i64 0, .slice none 0 0, .slice none 0 0, .slice none 0 0, .slice none 0 0, .slice none 0 0, .slice none 0 0] HSD.out.res (by kernel_rfl) rfl (by kernel_rfl) ?_)
         | fail)
        refine bodyPost_ret (results_cell_tmp rfl _ _ _ _ _ _ rfl (Blk.putS HSD.out.res #[.int .i64 0, .slice none 0 0, .slice none 0 0, .slice none 0 0, .slice none 0 0, .slice none 0 0, .slice none 0 0]) Tryz.underlying34 rfl (by kernel_rfl)) rfl ?_
        have n := HN.out
        have n0 := n.h0; have n1 := n.h1; have n3 := n.h3; have n4 := n.h4; have n5 := n.h5
        have hbelE : Below w.heap.size w (wr.setRow g2 #[.int .i64 0, .slice none 0 0, .slice none 0 0, .slice none 0 0, .slice none 0 0, .slice none 0 0, .slice none 0 0]) := below_setRow HSD.out.bel n0 _
        have hD := HDEC.out
        rw [if_neg (by rintro ⟨_, h1, _⟩; cases h1)] at hD
        subst hD
        exact ⟨SA.zero, rfl, OwnS.zero _ _, hbelE, hbelE⟩
      | true =>
        cases en with
        | false =>
          go_wp2_with (first
           | (go_at_call 41; refine CE.out.mono ?_; rintro en2 w5 ⟨rfl, rfl⟩)
           | (refine wpList_load_row rfl 34 (.tmp 7) rfl g rfl 34 #[.int .i64 p, .slice aM.o.A0 m.o.reg.length aM.o.c0, .slice aM.o.A1 m.o.q.length aM.o.c1, .slice aM.o.A2 m.o.lk.length aM.o.c2, .slice aM.o.A3 m.o.mp.length aM.o.c3, .slice aM.At m.t.length aM.ct, .slice A1 k c1] (0, 0) _ HSD.out.blk Tryz.underlying34 rfl (by kernel_rfl) ?_)
           | (refine wpList_store_row rfl 34 (.tmp 2) (.tmp 63) rfl g2 #[.int .i64 0, .slice none 0 0, .slice none 0 0, .slice none 0 0, .slice none 0 0, .slice none 0 0, .slice none 0 0] rfl rfl 34 #[.int .i64 0, .slice none 0 0, .slice none 0 0, .slice none 0 0, .slice none 0 0, .slice none 0 0, .slice none 0 0] HSD.out.res (by kernel_rfl) rfl (by kernel_rfl) ?_)
           | fail)
          refine bodyPost_ret (results_cell_tmp rfl _ _ _ _ _ _ rfl (Blk.putS HSD.out.res #[.int .i64 0, .slice none 0 0, .slice none 0 0, .slice none 0 0, .slice none 0 0, .slice none 0 0, .slice none 0 0]) Tryz.underlying34 rfl (by kernel_rfl)) rfl ?_
          have n := HN.out
          have n0 := n.h0; have n1 := n.h1; have n3 := n.h3; have n4 := n.h4; have n5 := n.h5
          have hbelE : Below w.heap.size w (wr.setRow g2 #[.int .i64 0, .slice none 0 0, .slice none 0 0, .slice none 0 0, .slice none 0 0, .slice none 0 0, .slice none 0 0]) := below_setRow HSD.out.bel n0 _
          have hD := HDEC.out
          rw [if_neg (by rintro ⟨_, _, h1, _⟩; cases h1)] at hD
          subst hD
          exact ⟨SA.zero, rfl, OwnS.zero _ _, hbelE, hbelE⟩
        | true =>
          by_cases hgt : 549755813888 - (k : Int) < p
          · have hgd : decide (549755813888 - (k : Int) < p) = true := by simpa using hgt
            go_wp2_with (first
             | (go_at_call 41; refine CE.out.mono ?_; rintro en2 w5 ⟨rfl, rfl⟩)
             | (refine wpList_load_row rfl 34 (.tmp 7) rfl g rfl 34 #[.int .i64 p, .slice aM.o.A0 m.o.reg.length aM.o.c0, .slice aM.o.A1 m.o.q.length aM.o.c1, .slice aM.o.A2 m.o.lk.length aM.o.c2, .slice aM.o.A3 m.o.mp.length aM.o.c3, .slice aM.At m.t.length aM.ct, .slice A1 k c1] (0, 0) _ HSD.out.blk Tryz.underlying34 rfl (by kernel_rfl) ?_)
             | (refine wpList_store_row rfl 34 (.tmp 2) (.tmp 63) rfl g2 #[.int .i64 0, .slice none 0 0, .slice none 0 0, .slice none 0 0, .slice none 0 0, .slice none 0 0, .slice none 0 0] rfl rfl 34 #[.int .i64 0, .slice none 0 0, .slice none 0 0, .slice none 0 0, .slice none 0 0, .slice none 0 0, .slice none 0 0] HSD.out.res (by kernel_rfl) rfl (by kernel_rfl) ?_)
             | fail)
            refine bodyPost_ret (results_cell_tmp rfl _ _ _ _ _ _ rfl (Blk.putS HSD.out.res #[.int .i64 0, .slice none 0 0, .slice none 0 0, .slice none 0 0, .slice none 0 0, .slice none 0 0, .slice none 0 0]) Tryz.underlying34 rfl (by kernel_rfl)) rfl ?_
            have n := HN.out
            have n0 := n.h0; have n1 := n.h1; have n3 := n.h3; have n4 := n.h4; have n5 := n.h5
            have hbelE : Below w.heap.size w (wr.setRow g2 #[.int .i64 0, .slice none 0 0, .slice none 0 0, .slice none 0 0, .slice none 0 0, .slice none 0 0, .slice none 0 0]) := below_setRow HSD.out.bel n0 _
            have hD := HDEC.out
            rw [if_neg (by rintro ⟨_, _, _, h1⟩; omega)] at hD
            subst hD
            exact ⟨SA.zero, rfl, OwnS.zero _ _, hbelE, hbelE⟩
          · have hgd : decide (549755813888 - (k : Int) < p) = false := by simpa using hgt
            go_wp2_with (first
             | (go_at_call 41; refine CE.out.mono ?_; rintro en2 w5 ⟨rfl, rfl⟩)
             | (refine wpList_load_row rfl 34 (.tmp 7) rfl g rfl 34 #[.int .i64 p, .slice aM.o.A0 m.o.reg.length aM.o.c0, .slice aM.o.A1 m.o.q.length aM.o.c1, .slice aM.o.A2 m.o.lk.length aM.o.c2, .slice aM.o.A3 m.o.mp.length aM.o.c3, .slice aM.At m.t.length aM.ct, .slice A1 k c1] (0, 0) _ HSD.out.blk Tryz.underlying34 rfl (by kernel_rfl) ?_)
             | (refine wpList_store_row rfl 34 (.tmp 2) (.tmp 64) rfl g2 #[.int .i64 p, .slice aM.o.A0 m.o.reg.length aM.o.c0, .slice aM.o.A1 m.o.q.length aM.o.c1, .slice aM.o.A2 m.o.lk.length aM.o.c2, .slice aM.o.A3 m.o.mp.length aM.o.c3, .slice aM.At m.t.length aM.ct, .slice A1 k c1] rfl rfl 34 #[.int .i64 0, .slice none 0 0, .slice none 0 0, .slice none 0 0, .slice none 0 0, .slice none 0 0, .slice none 0 0] HSD.out.res (by kernel_rfl) rfl (by kernel_rfl) ?_)
             | fail)
            refine bodyPost_ret (results_cell_tmp rfl _ _ _ _ _ _ rfl (Blk.putS HSD.out.res #[.int .i64 p, .slice aM.o.A0 m.o.reg.length aM.o.c0, .slice aM.o.A1 m.o.q.length aM.o.c1, .slice aM.o.A2 m.o.lk.length aM.o.c2, .slice aM.o.A3 m.o.mp.length aM.o.c3, .slice aM.At m.t.length aM.ct, .slice A1 k c1]) Tryz.underlying34 rfl (by kernel_rfl)) rfl ?_
            have n := HN.out
            have n0 := n.h0; have n1 := n.h1; have n3 := n.h3; have n4 := n.h4; have n5 := n.h5
            have hbelE : Below w.heap.size w (wr.setRow g2 #[.int .i64 p, .slice aM.o.A0 m.o.reg.length aM.o.c0, .slice aM.o.A1 m.o.q.length aM.o.c1, .slice aM.o.A2 m.o.lk.length aM.o.c2, .slice aM.o.A3 m.o.mp.length aM.o.c3, .slice aM.At m.t.length aM.ct, .slice A1 k c1]) := below_setRow HSD.out.bel n0 _
            have hD := HDEC.out
            rw [if_pos ⟨by trivial, by trivial, by trivial, by omega⟩] at hD
            subst hD
            subst hes
            refine ⟨⟨aM, A1, c1⟩, rfl, ⟨?_, ?_⟩, hbelE, hbelE⟩
            · exact (HSD.out.own.old (only_row wr g2 _) (Old.some (by omega))).of (by have := HSD.out.bel.size; omega)
            · exact (HSD.out.row.old (only_row wr g2 _) (Old.some (by omega))).of (by omega)
theorem refDecode15 {W w : World} {A : Option Addr} {n c B : Nat} {l : List Nat} {r : Option Sb} (he : Sb.dec l = r) (hl : l.length <= 100000) (hby : ∀ x ∈ l, x < 256) (hc : n <= c /\ c <= maxLen) (h : Rd w B A n (bv l)) (hB : Below W.heap.size W w) : Calls Tryz.prog 12 #[.slice A n c] w (GotS W w r) := by
 subst he
 exact (refDecode15_raw hl hby hc h).mono fun e w' h => h.of hB
theorem step_append_BN {P : Program} {t e : TypeId} {z : Value} {bytes : Nat} {W w : World} (hT : CellT P t e z bytes) {ops : Array Oper} {o : Oper} {a : Act} {K : Act -> World -> Prop} {Q : Exit -> Act -> World -> Prop} {E : Prop} (s x : Operand)
 (ho : o.op = .call { callee := .builtin .append, args := #[s, x], argTypes := #[t, t] }) (hg : o.guard = none)
 {A : Option Addr} {n c : Nat} {vs : List Value} (hs : a.eval s = .slice A n c) (hown : w.ownsRow W.heap.size e 1 (.slice A n c) n vs)
 {B : Nat} {A' : Option Addr} {m c' : Nat} {ws : List Value} (hx : a.eval x = .slice A' m c') (hr : Rd w B A' m ws) (h1 : ∀ u ∈ ws, u.oneCell' = true) {N : Nat} (hN : n + m = N) (hnm : N <= 1099511627776) (hby : bytes <= 64) (hB : Below W.heap.size W w)
 (h : ∀ A2 c2 w2, w2.ownsRow W.heap.size e 1 (.slice A2 N c2) N (vs ++ ws) -> Below W.heap.size W w2 -> w.grownBy w2 (Value.slice A n c).ownBlock -> K (a.put o.dst (.slice A2 N c2)) w2) :
 if Region.wanted o (yielded ops a.tmps) = true then Oper.wp P o a w K Q else E := by
 subst hN
 exact step_append_cells hT s x ho hg hs hown hx hr h1 hnm hby hB h
open Go.RowKit
set_option linter.unusedVariables false
def Sb.a0 : Sb := ⟨3, Mc.zero, [⟨1, 1, ⟨1, 0, [], [], []⟩⟩]⟩
theorem Sb.a0_ok : Sb.a0.Ok := ⟨by decide, Mc.Ok.zero, by decide, by decide, by intro e he; simp only [Sb.a0, List.mem_cons, List.not_mem_nil, or_false] at he; subst he; decide⟩
theorem Sb.a0_fits : ∀ e ∈ Sb.a0.rest, e.c.Fits := by
 intro e he
 simp only [Sb.a0, List.mem_cons, List.not_mem_nil, or_false] at he
 subst he
 exact ⟨⟨by simp, by simp⟩, ⟨by simp, by simp⟩, ⟨by simp, by simp⟩⟩
theorem Sb.a0_fine : Sb.a0.Fine := ⟨Mc.Ok.zero, by decide, Sb.a0_fits⟩
theorem Sb.a0_len : Sb.a0.enc.length = 19 := by decide +kernel
theorem Sb.a0_half : Sb.dec (Sb.a0.enc.take 9) = none := Sb.dec_none (by decide +kernel)
theorem Sb.a0_dec : Sb.dec Sb.a0.enc = some Sb.a0 := Sb.dec_enc Sb.a0_ok (by decide +kernel)
set_option maxHeartbeats 4000000 in
set_option maxRecDepth 100000 in
theorem blobAwake : AwakeC15 := by
 intro w
 have hcl := Sb.a0_len
 obtain ⟨l, hl⟩ : ∃ l, Sb.a0.enc = l := ⟨_, rfl⟩
 have HD : Hid (Sb.dec l = some Sb.a0) := hD (by rw [<- hl]; exact Sb.a0_dec)
 have HN : Hid (Sb.dec (l.take 9) = none) := hD (by rw [<- hl]; exact Sb.a0_half)
 have HBY : Hid (∀ x ∈ l, x < 256) := hD (by rw [<- hl]; exact Sb.a0_fine.enc_facts.1)
 have HE := hD hl
 rw [hl] at hcl
 have HCL := hD hcl
 clear hl hcl
 go_enter Tryz.func11, Tryz.ntmps11
 go_upto_region 2 with fail
 have r0 : RdS (w.alloc (.cells #[.int .i64 1, .int .i64 1, .int .i64 1, .int .i64 0, .slice none 0 0, .slice none 0 0, .slice none 0 0] 43)) (w.alloc (.cells #[.int .i64 1, .int .i64 1, .int .i64 1, .int .i64 0, .slice none 0 0, .slice none 0 0, .slice none 0 0] 43)).heap.size ⟨SA.zero.m, some ⟨w.heap.size, 0, none⟩, 1⟩ Sb.a0 := by
  refine ⟨(OwnM.zero w _).rd, ?_⟩
  have q := Rd.entAt w ⟨none, 0, none, 0, none, 0⟩ ⟨1, 1, ⟨1, 0, [], [], []⟩⟩ 43 rfl
  exact ⟨_, by rw [World.size_alloc]; exact q, CellsE.one ⟨Rd.none_ _ _ _, Rd.none_ _ _ _, Rd.none_ _ _ _⟩⟩
 have bb0 : Below w.heap.size w (w.alloc (.cells #[.int .i64 1, .int .i64 1, .int .i64 1, .int .i64 0, .slice none 0 0, .slice none 0 0, .slice none 0 0] 43)) := (Below.refl _ _).alloc lR _
 obtain ⟨g1, w1, hgE, hwE, hbE, hkE⟩ := alloced (w.alloc (.cells #[.int .i64 1, .int .i64 1, .int .i64 1, .int .i64 0, .slice none 0 0, .slice none 0 0, .slice none 0 0] 43)) #[.int .i64 3, .slice none 0 0, .slice none 0 0, .slice none 0 0, .slice none 0 0, .slice none 0 0, .slice (some ⟨w.heap.size, 0, none⟩) 1 1] 34
 rw [World.size_alloc] at hgE
 rw [hgE, hwE]
 have HBx := hD hbE
 have HK1 := hD hkE
 clear hgE hwE hbE hkE
 have HR1 := hD (r0.below HBx.out)
 have HB1 := hD (bb0.trans (HBx.out.mono bb0.size))
 clear r0 bb0 HBx
 obtain ⟨A0, hA0⟩ : ∃ A0 : Option Addr, some (⟨w.heap.size, 0, none⟩ : Addr) = A0 := ⟨_, rfl⟩
 rw [hA0] at HR1 HK1
 clear hA0
 go_upto_region 3 with (first
  | (refine wpList_load_row rfl  34 (.tmp 1) rfl g1 rfl 34 #[.int .i64 3, .slice none 0 0, .slice none 0 0, .slice none 0 0, .slice none 0 0, .slice none 0 0, .slice A0 1 1] (0, 0) _ HK1.out Tryz.underlying34 rfl (by kernel_rfl) ?_)
  | (go_at_call 10; refine (encode15 (W := w) (a := ⟨SA.zero.m, A0, 1⟩) (s := Sb.a0) HE.out Sb.a0_fine HR1.out HB1.out).mono ?_; rintro en w2 ⟨A2, c2, rfl, ho, hB, hb⟩
     have HO2 := hD (ho)
     have HB2 := hD (hB)
     have HK2 := hD (HK1.out.below hb)
     have HR2 := hD ((HR1.out.fit).below hb)
     clear ho hB hb)
  | fail)
 have hcl := HCL.out
 rw [hcl] at HO2 |-
 clear hcl HK1 HR1 HB1
 go_upto_region 4 with (first
  | (go_at_call 8; refine (decode15 (W := w) HD.out (by have := HCL.out; omega) HBY.out (own_cap HO2.out) (Rd.own_ HO2.out) HB2.out).mono ?_; rintro en w3 ⟨a3, rfl, ho, hB, hb⟩
     unfold stateV
     have HS3 := hD (ho)
     have HB3 := hD (hB)
     have HK3 := hD (HK2.out.below hb)
     have HR3 := hD (HR2.out.fit.below hb)
     have HO3 := hD (own_below HO2.out hb)
     clear ho hB hb)
  | (refine wpList_store_row rfl 34 (.tmp 3) (.tmp 20) rfl w3.heap.size (stateC a3 Sb.a0) rfl rfl 34 #[.int .i64 0, .slice none 0 0, .slice none 0 0, .slice none 0 0, .slice none 0 0, .slice none 0 0, .slice none 0 0] (Blk.new w3 34 #[.int .i64 0, .slice none 0 0, .slice none 0 0, .slice none 0 0, .slice none 0 0, .slice none 0 0, .slice none 0 0]) (by kernel_rfl) rfl (by kernel_rfl) ?_)
  | fail)
 obtain ⟨g3, w4, hgE, hwE, hbE, hkE⟩ := boxed w3 #[.int .i64 0, .slice none 0 0, .slice none 0 0, .slice none 0 0, .slice none 0 0, .slice none 0 0, .slice none 0 0] (stateC a3 Sb.a0) 34
 rw [hgE, hwE]
 have HBx := hD hbE
 have HK4 := hD hkE
 clear hgE hwE hbE hkE
 have HS4 := hD (HS3.out.below HBx.out)
 have HB4 := hD (HB3.out.trans (HBx.out.mono HB3.out.size))
 have HK1 := hD (HK3.out.below HBx.out)
 have HR4 := hD (HR3.out.fit.below HBx.out)
 have HO4 := hD (own_below HO3.out HBx.out)
 clear HBx HS3 HB3 HK3 HR3 HO3 HO2 HB2 HK2 HR2
 have hsl : ∀ w : World, (Instr.slice 23 (.slice A2 19 c2) none (some (.int .i64 9)) none).run Tryz.prog w = .ok (.slice A2 9 c2) w := by
  obtain ⟨i9, hi1, hi2, hi3, hi4⟩ := info_parts byteT.info
  have := (own_cap HO4.out).1
  exact fun w => run_slice_to (P := Tryz.prog) (t := 23) (e := 5) byteT.under hi1 A2 19 c2 9 (by omega) w
 have HR9 : Hid (Rd w4 w4.heap.size A2 9 (bv (l.take 9))) := hD (by rw [bv_take]; exact (Rd.own_ HO4.out).take (by omega))
 go_upto_region 5 with (first
  | (go_at_call 8; refine (decode15 (W := w) HN.out (by rw [List.length_take]; omega) (fun x hx => HBY.out x (List.mem_of_mem_take hx)) ⟨by have := own_cap HO4.out; omega, (own_cap HO4.out).2⟩ HR9.out HB4.out).mono ?_; rintro en w5 ⟨a5, rfl, ho, hB, hb⟩
     unfold stateV
     have HB5 := hD (hB)
     have HK5 := hD (HK1.out.below hb)
     have HK6 := hD (HK4.out.below hb)
     have HR5 := hD (HR4.out.fit.below hb)
     have HO5 := hD (own_below HO4.out hb)
     have HS5 := hD (HS4.out.below hb)
     clear ho hB hb)
  | (refine wpList_store_row rfl 34 (.tmp 5) (.tmp 29) rfl w5.heap.size (stateC a5 Sb.zero) rfl rfl 34 #[.int .i64 0, .slice none 0 0, .slice none 0 0, .slice none 0 0, .slice none 0 0, .slice none 0 0, .slice none 0 0] (Blk.new w5 34 #[.int .i64 0, .slice none 0 0, .slice none 0 0, .slice none 0 0, .slice none 0 0, .slice none 0 0, .slice none 0 0]) (by kernel_rfl) rfl (by kernel_rfl) ?_)
  | fail)
 obtain ⟨g5, w6, hgE, hwE, hbE, hkE⟩ := boxed w5 #[.int .i64 0, .slice none 0 0, .slice none 0 0, .slice none 0 0, .slice none 0 0, .slice none 0 0, .slice none 0 0] (stateC a5 Sb.zero) 34
 rw [hgE, hwE]
 have HBx := hD hbE
 have HK7 := hD hkE
 clear hgE hwE hbE hkE
 have HS6 := hD (HS5.out.below HBx.out)
 have HB6 := hD (HB5.out.trans (HBx.out.mono HB5.out.size))
 have HK8 := hD (HK5.out.below HBx.out)
 have HK9 := hD (HK6.out.below HBx.out)
 have HR6 := hD (HR5.out.fit.below HBx.out)
 have HO6 := hD (own_below HO5.out HBx.out)
 clear HBx HS5 HB5 HK5 HK6 HR5 HO5 HO4 HB4 HK1 HK4 HK7 HR4 HR9 HS4 hsl
 have HP1 : Hid (Sb.part l 4 = some ((l.drop 4).take 64)) := hD (Sb.part_step (j := 4) (by have := HCL.out; omega)).1
 have HP2 : Hid (Sb.part l 19 = none) := hD (Sb.part_stop (j := 19) (by have := HCL.out; omega))
 obtain ⟨q, hq⟩ : ∃ q, (l.drop 4).take 64 = q := ⟨_, rfl⟩
 have hq15 : q.length = 15 := by rw [<- hq, List.length_take, List.length_drop]; have := HCL.out; omega
 rw [hq] at HP1
 clear hq
 go_upto_region 6 with (first
  | (go_at_call 9; refine (part15 (W := w) HP1.out (by omega) (by have := HCL.out; omega) (own_cap HO6.out) (Rd.own_ HO6.out) HB6.out).mono ?_; rintro en w7 ⟨A7, c7, rfl, ho, hB, hb⟩
     rw [show (some q).getD [] = q from rfl, hq15]
     have HB7 := hD (hB)
     have HK5 := hD (HK8.out.below hb)
     have HK6 := hD (HK9.out.below hb)
     have HR7 := hD (HR6.out.fit.below hb)
     have HO7 := hD (own_below HO6.out hb)
     have HS7 := hD (HS6.out.below hb)
     clear ho hB hb)
  | fail)
 clear HB6 HK8 HK9 HR6 HO6 HS6
 go_upto_region 7 with (first
  | (go_at_call 9; refine (part15 (W := w) HP2.out (by omega) (by have := HCL.out; omega) (own_cap HO7.out) (Rd.own_ HO7.out) HB7.out).mono ?_; rintro en w8 ⟨A8, c8, rfl, ho, hB, hb⟩
     have HB8 := hD (hB)
     have HK8 := hD (HK5.out.below hb)
     have HK9 := hD (HK6.out.below hb)
     have HR8 := hD (HR7.out.fit.below hb)
     have HS8 := hD (HS7.out.below hb)
     clear ho hB hb)
  | fail)
 clear HB7 HK5 HK6 HR7 HO7 HS7
 go_wp2_with (first
  | (refine wpList_load_rowV (by first | rfl | kernel_rfl) 34 (.tmp 1) rfl g1 rfl 34 #[.int .i64 3, .slice none 0 0, .slice none 0 0, .slice none 0 0, .slice none 0 0, .slice none 0 0, .slice A0 1 1] (0, 0) _ HK8.out Tryz.underlying34 rfl (by kernel_rfl) ?_)
  | (refine wpList_load_rowV (by first | rfl | kernel_rfl) 34 (.tmp 3) rfl g3 rfl 34 (stateC a3 Sb.a0) (0, 0) _ HK9.out Tryz.underlying34 rfl (by kernel_rfl) ?_)
  | (go_at_call 13; refine (refSame15 w8 (a := ⟨SA.zero.m, A0, 1⟩) (s := Sb.a0) (a' := a3) (s' := Sb.a0) Sb.a0_ok.m Sb.a0_ok.m Sb.a0_fits Sb.a0_fits (by decide) HR8.out HS8.out.rd).mono ?_; rintro en w9 ⟨rfl, hb⟩
     rw [decide_eq_true (rfl : Sb.a0 = Sb.a0)]
     have HB9 := hD (HB8.out.trans (hb.mono HB8.out.size))
     clear hb)
  | fail)
 go_ret
 exact ⟨rfl, HB9.out⟩
theorem Sb.dec_facts {l : List Nat} (hb : ∀ x ∈ l, x < 256) : ((Sb.dec l).getD Sb.zero).m.Ok /\ (∀ e ∈ ((Sb.dec l).getD Sb.zero).rest, e.c.Fits) /\ ((Sb.dec l).getD Sb.zero).rest.length <= 64 := by
 have h := Sb.read_facts hb
 unfold Sb.dec
 split
 · refine ⟨h.2.2.2.2, h.2.2.1, ?_⟩
   have h2 := getE_len (Sb.n0 l) (Sb.st3 l)
   have h3 := Sb.n0_le l
   show (getE (Sb.n0 l) (Sb.st3 l)).1.length <= 64
   omega
 · exact ⟨Mc.Ok.zero, fun e he => (by cases he), by decide⟩
set_option maxHeartbeats 4000000 in
set_option maxRecDepth 100000 in
theorem blobTells_raw (w : World) (pos rest : Int) {A0 : Option Addr} {n c0 B : Nat} {zs : List Int} (A : Option Addr) (cap : Nat) (l : List Nat) (at_ : Int) (y : Nat) (hy : y < 256) (hat : -9223372036854775808 <= at_ /\ at_ <= 9223372036854775807) (hn : n <= maxLen) (h : Rd w B A0 n (iv zs)) (hl : Rd w w.heap.size A l.length (bv l)) (hlc : l.length <= cap /\ cap <= maxLen) (hlt : ∀ x ∈ l, x < 256) :
 Calls Tryz.prog 4 #[.slice A0 n c0, .int .i64 pos, .int .i64 rest, .slice A l.length cap, .int .i64 at_, .int .u8 (y : Int)] w fun e w' => e = .returned (.bool true) /\ Below w.heap.size w w' := by
 have CS := hD (state15 w pos rest hn h (c := c0))
 have HL := hD hl
 have HLC := hD hlc
 have HLT := hD hlt
 have HY := hD hy
 have HAT := hD hat
 clear h hn hl hlt hlc hy hat
 go_enter Tryz.func4, Tryz.ntmps4
 rcases Nat.lt_or_ge 300 l.length with h3 | h3
 · have h300 : (300 : Int) < (l.length : Int) := by omega
   go_wp2_with (first
    | (go_at_call 11; refine (blobAwake _).mono ?_; rintro e wz ⟨rfl, hBz⟩)
    | fail)
   go_ret
   exact ⟨rfl, hBz⟩
 have h300 : ¬ (300 : Int) < (l.length : Int) := by omega
 have HL300 := hD h3
 clear h3
 go_upto_region 3 with fail
 clear h300
 go_upto_region 4 with (first
  | (go_at_call 7; refine (CS.out).mono ?_; rintro en w1 ⟨aS, s, rfl, hok, h31, hfit, hr, hb⟩
     unfold stateV
     have HOK := hD (hok)
     have H31 := hD (h31)
     have HFIT := hD (hfit)
     have HR1 := hD (hr)
     have HB1 := hD (hb)
     have HL1 := hD ((HL.out.below hb).fit)
     clear hok h31 hfit hr hb)
  | (refine wpList_store_row rfl 34 (.tmp 13) (.tmp 36) rfl w1.heap.size (stateC aS s) rfl rfl 34 #[.int .i64 0, .slice none 0 0, .slice none 0 0, .slice none 0 0, .slice none 0 0, .slice none 0 0, .slice none 0 0] (Blk.new w1 34 #[.int .i64 0, .slice none 0 0, .slice none 0 0, .slice none 0 0, .slice none 0 0, .slice none 0 0, .slice none 0 0]) (by kernel_rfl) rfl (by kernel_rfl) ?_)
  | fail)
 obtain ⟨g13, w2, hgE, hwE, hbE, hkE⟩ := boxed w1 #[.int .i64 0, .slice none 0 0, .slice none 0 0, .slice none 0 0, .slice none 0 0, .slice none 0 0, .slice none 0 0] (stateC aS s) 34
 rw [hgE, hwE]
 have HBx := hD hbE
 have HK2 := hD hkE
 clear hgE hwE hbE hkE
 have HR2 := hD ((HR1.out.below HBx.out).fit)
 have HB2 := hD (HB1.out.trans (HBx.out.mono HB1.out.size))
 have HL2 := hD ((HL1.out.below HBx.out).fit)
 clear HBx HR1 HB1 CS HL1
 have hfine : s.Fine := ⟨HOK.out.m, by have := H31.out; omega, HFIT.out⟩
 have hef := hfine.enc_facts
 have hsm := hfine.body_small H31.out
 obtain ⟨T, hT⟩ : ∃ T, s.enc = T := ⟨_, rfl⟩
 have HE := hD hT
 have HF := hD hfine
 rw [hT] at hef
 obtain ⟨L, hL⟩ : ∃ L, T.length = L := ⟨_, rfl⟩
 have HLT2 := hD hL
 have HBY := hD hef.1
 have HL4 : Hid (4 <= L /\ L <= 14004) := hD (by omega)
 clear hfine hef hsm hT hL
 go_upto_region 5 with (first
  | (refine wpList_load_row rfl  34 (.tmp 13) rfl g13 rfl 34 (stateC aS s) (0, 0) _ HK2.out Tryz.underlying34 rfl (by kernel_rfl) ?_)
  | (go_at_call 6; refine (refEncode15 (W := w2) HE.out HF.out HR2.out (Below.refl _ _)).mono ?_; rintro en w3 ⟨A4, c4, rfl, ho, hB, hb⟩
     rw [HLT2.out] at ho
     rw [HLT2.out]
     have HO3 := hD (Rd.own_ ho)
     have HCAP := hD (own_cap ho)
     have HB3 := hD (HB2.out.trans (hb.mono HB2.out.size))
     have HK3 := hD (HK2.out.below hb)
     have HR3 := hD ((HR2.out.below hb).fit)
     have HL3 := hD ((HL2.out.below hb).fit)
     clear ho hB hb)
  | fail)
 clear HB2 HK2 HR2 HL2
 go_cut [44] from 39 to 44 (fun s44 wx => s44 = .bool false /\ Hid (Below w3.heap.size w3 wx))
 case first =>
  have hS0 : Below w3.heap.size w3 w3.drew := (Below.refl _ _).drew
  refine wp_region_held_drew (S := fun w' => Below w3.heap.size w3 w') (by kernel_rfl) hS0 (fun _ => ?_)
  have hS := hD hS0
  clear hS0
  generalize w3.drew = wd at hS |-
  have hgl := HK3.out.lt
  have xm : w3.rangeAt g13 0 [.int .i64 s.pos, .slice aS.m.o.A0 s.m.o.reg.length aS.m.o.c0, .slice aS.m.o.A1 s.m.o.q.length aS.m.o.c1, .slice aS.m.o.A2 s.m.o.lk.length aS.m.o.c2, .slice aS.m.o.A3 s.m.o.mp.length aS.m.o.c3, .slice aS.m.At s.m.t.length aS.m.ct, .slice aS.Ar s.rest.length aS.cr] := by
   have := World.rangeAt_of_block HK3.out 0 7
   simpa [stateC] using this
  refine wpAnyH_take (i := 0) (v := .agg (stateC aS s)) rfl (by kernel_rfl) (by kernel_rfl) (by kernel_rfl) (fun _ _ _ h => h) (yieldsIf_load_mid (by kernel_rfl) 34 (.tmp 13) rfl g13 0 rfl [.int .i64 s.pos, .slice aS.m.o.A0 s.m.o.reg.length aS.m.o.c0, .slice aS.m.o.A1 s.m.o.q.length aS.m.o.c1, .slice aS.m.o.A2 s.m.o.lk.length aS.m.o.c2, .slice aS.m.o.A3 s.m.o.mp.length aS.m.o.c3, .slice aS.m.At s.m.t.length aS.m.ct, .slice aS.Ar s.rest.length aS.cr] _ (fun w hw => rangeB xm hw hgl) Tryz.underlying34 rfl (by kernel_rfl)) hS.out ?_
  refine tkL (i := 3) (v := .slice A4 L c4) rfl (fun w _ => by go_simp) hS.out ?_
  refine tkL (i := 4) (v := .string (strB T)) rfl (fun w hw => by have q := str_of (c := c4) (HO3.out.below hw); go_simp) hS.out ?_
  refine rdH (rs := [1]) ?_
  refine AllReadyH.cons rfl (fun K hK => ?_) AllReadyH.nil
  go_simp
  refine (encode15 (W := w3) HE.out HF.out (HR3.out.below hS.out) hS.out).mono ?_
  rintro en w4 ⟨A5, c5, rfl, ho, hB, hb⟩
  have q5 := str_of (c := c5) (Rd.own_ ho)
  have hS := hD hB
  clear ho hB hb
  go_simp
  refine hK.out _ _ hS.out (fun _ => ?_)
  clear hK K
  refine rdH (rs := [2]) ?_
  refine AllReadyH.cons rfl (fun K hK => ?_) AllReadyH.nil
  go_simp
  refine hK.out _ _ hS.out (fun _ => ?_)
  clear hK K q5
  have q1 := strB_self T
  have q3 : ((strB T).toList == (strB T).toList) = true := by simp
  refine tkL (i := 5) (v := .bool false) rfl (fun w _ => by go_simp) hS.out ?_
  refine wpAnyH_done (by kernel_rfl) ?_ _
  go_wp2_with fail
  go_meet
  exact ⟨rfl, hS⟩
 case rest =>
  obtain ⟨rfl, HBc⟩ := hcut
  rename World => w4
  have HO4 := hD ((HO3.out.below HBc.out).fit)
  have HL4w := hD ((HL3.out.below HBc.out).fit)
  have HB4 := hD (HB3.out.trans (HBc.out.mono HB3.out.size))
  clear HBc HO3 HL3 HB3 HK3 HR3
  have hpos : 0 < L := by have := HL4.out; omega
  have hL14 : L <= 14004 := HL4.out.2
  go_upto_region 8 with (first
   | (at_builtin
      refine wpList_append_bytes (W := w4) byteT (.tmp 45) (.tmp 46) rfl (by rfl) rfl (own_empty (Below.refl _ _) 5) rfl (HO4.out.alloc lR _) (by omega) ((Below.refl _ _).alloc lR _) ?_
      intro A6 c6 w5 ho6 hr6 hB6
      clear hr6
      rw [Nat.zero_add, List.nil_append] at ho6
      rw [Nat.zero_add]
      obtain ⟨gb, rfl, hgb, hgb2⟩ := own_addr ho6 hpos
      have HO6 := hD ho6
      have HB6 := hD hB6
      clear ho6 hB6)
   | fail)
  obtain ⟨k, hk, hkl⟩ : ∃ k : Nat, (bits .and .i64 at_ 65535).tmod (L : Int) = (k : Int) /\ k < L := by
   rw [and_ffff]
   have h1 := Int.emod_nonneg at_ (show (65536 : Int) ≠ 0 by omega)
   rw [Int.tmod_eq_emod_of_nonneg h1]
   have h2 := Int.emod_nonneg (at_ % 65536) (show (L : Int) ≠ 0 by omega)
   have h3 := Int.emod_lt_of_pos (at_ % 65536) (show (0 : Int) < (L : Int) by omega)
   exact ⟨((at_ % 65536) % (L : Int)).toNat, by omega, by omega⟩
  have hl0 : ¬ (L : Int) = 0 := by omega
  have hl0b : ((L : Int) == 0) = false := by simpa using hl0
  have hki : (k : Int) < (L : Int) := by omega
  have hk0 : (0 : Int) <= (k : Int) := by omega
  have hlp : (0 : Int) < (L : Int) := by omega
  have hcb := own_byte HO6.out hkl
  have hfb := own_frozenS HO6.out k
  have hset := own_set HO6.out k y
  go_upto_region 10 with fail
  have hbs : Below w4.heap.size w4 (w5.setCell ⟨gb, k, none⟩ (.int .u8 (y : Int))) := HB6.out.setCell (p := ⟨gb, k, none⟩) hgb _
  have HR4 := hD ((HO4.out.below hbs).fit)
  have HU := hD hset
  have HB := hD (HB4.out.trans (hbs.mono HB4.out.size))
  have HL1 := hD (HL4w.out.below hbs).fit
  clear hcb hfb hset HO6 HB6 HO4 HB4 HL4w
  generalize w5.setCell ⟨gb, k, none⟩ (.int .u8 (y : Int)) = w7 at hbs HR4 HU HB HL1 |-
  clear hbs
  have HGB : Hid (w4.heap.size <= gb) := hD hgb
  clear hgb hgb2
  have hcap4 := HCAP.out
  obtain ⟨i9, hi1, hi2, hi3, hi4⟩ := info_parts byteT.info
  have hsl := run_slice_to (P := Tryz.prog) (t := 23) byteT.under hi1 A4 L c4 k (by omega)
  clear hi1 hi2 hi3 hi4 HCAP
  obtain ⟨wc, hwc⟩ : ∃ x, w7 = x := ⟨_, rfl⟩
  rw [hwc] at HR4 HU HB HL1 |-
  clear hwc
  go_cut [69, 70, 71] from 57 to 71 (fun s69 s70 s71 wx => ∃ (gx : Nat) (A7 : Option Addr) (c7 : Nat), s69 = .slice (some ⟨gx, 0, none⟩) 5 5 /\ s70 = .int .i64 5 /\ s71 = .int .i64 0 /\ Hid (Blk wx gx 23 #[.slice A l.length cap, .slice A4 L c4, .slice (some ⟨gb, 0, none⟩) L c6, .slice A4 k c4, .slice A7 (L + 1) c7]) /\ Hid (Rd wx wx.heap.size A7 (L + 1) (bv (T ++ [y]))) /\ Hid (L + 1 <= c7 /\ c7 <= maxLen) /\ Hid (Below wc.heap.size wc wx))
  case first =>
   have hS0 : Below wc.heap.size wc wc.drew := (Below.refl _ _).drew
   refine wp_region_held_drew (S := fun w' => Below wc.heap.size wc w') (by kernel_rfl) hS0 (fun _ => ?_)
   have hS := hD hS0
   clear hS0
   generalize wc.drew = vd at hS |-
   refine tkL (i := 0) (v := .slice A l.length cap) rfl (fun w _ => by go_simp) hS.out ?_
   refine tkL (i := 1) (v := .slice A4 L c4) rfl (fun w _ => by go_simp) hS.out ?_
   refine tkL (i := 2) (v := .slice (some ⟨gb, 0, none⟩) L c6) rfl (fun w _ => by go_simp) hS.out ?_
   refine tkL (i := 3) (v := .slice A4 L c4) rfl (fun w _ => by go_simp) hS.out ?_
   refine tkL (i := 4) (v := .int .i64 (k : Int)) rfl (fun w _ => by go_simp) hS.out ?_
   refine tkL (i := 5) (v := .slice A4 k c4) rfl (fun w _ => by go_simp) hS.out ?_
   refine tkL (i := 7) (v := .slice A4 L c4) rfl (fun w _ => by go_simp) hS.out ?_
   refine tkL (i := 9) (v := .int .u8 (y : Int)) rfl (fun w _ => by go_simp) hS.out ?_
   refine tkL (i := 14) (v := .int .i64 0) rfl (fun w _ => by go_simp) hS.out ?_
   refine rdH (rs := [6, 10]) ?_
   refine AllReadyH.cons rfl (fun K hK => ?_) (AllReadyH.cons rfl (fun K hK => ?_) AllReadyH.nil)
   · go_simp
     refine hK.out _ _ (hS.out.alloc hS.out.size _) (fun _ => ?_)
     clear hK K
     obtain ⟨h0, hh0⟩ : ∃ x, vd.heap.size = x := ⟨_, rfl⟩
     have hown0 : (vd.alloc (.cells #[] 5)).ownsRow wc.heap.size 5 1 (.slice (some ⟨h0, 0, none⟩) 0 0) 0 [] := by rw [<- hh0]; exact own_empty (W := wc) hS.out 5
     have hb0 : Below vd.heap.size vd (vd.alloc (.cells #[] 5)) := (Below.refl _ _).alloc lR _
     have hS := hD (hS.out.trans (hb0.mono hS.out.size))
     rw [hh0]
     clear hh0
     generalize vd.alloc (.cells #[] 5) = v1 at hown0 hb0 hS |-
     clear hb0
     refine rdH (rs := [8, 10]) ?_
     refine AllReadyH.cons rfl (fun K hK => ?_) (AllReadyH.cons rfl (fun K hK => ?_) AllReadyH.nil)
     · refine step_append_BN (W := wc) (c' := c4) cellB (.tmp 63) (.tmp 64) rfl rfl (by kernel_rfl) hown0 (by kernel_rfl) (HR4.out.below hS.out) Rd.oneCell (N := L) (by omega) (by omega) (by omega) hS.out ?_
       intro B4 e4 v2 hown1 hBn hgn
       have hS := hD hBn
       refine hK.out _ _ hS.out (fun _ => ?_)
       clear hK K hown0 hBn hgn
       refine rdH (rs := [10]) ?_
       refine AllReadyH.cons rfl (fun K hK => ?_) AllReadyH.nil
       go_simp
       refine hK.out _ _ (hS.out.alloc hS.out.size _) (fun _ => ?_)
       clear hK K
       obtain ⟨h1, hh1⟩ : ∃ x, v2.heap.size = x := ⟨_, rfl⟩
       have hent := (Rd.oneAt v2 (.int .u8 (y : Int)) 5 hh1).fit
       have hb0 : Below v2.heap.size v2 (v2.alloc (.cells #[.int .u8 (y : Int)] 5)) := (Below.refl _ _).alloc lR _
       have hS := hD (hS.out.trans (hb0.mono hS.out.size))
       have hown1 := ownsRow_below hown1 hb0
       rw [hh1]
       clear hh1
       generalize v2.alloc (.cells #[.int .u8 (y : Int)] 5) = v3 at hent hb0 hS hown1 |-
       clear hb0
       refine rdH (rs := [11]) ?_
       refine AllReadyH.cons rfl (fun K hK => ?_) AllReadyH.nil
       refine step_append_BN (W := wc) (c' := 1) cellB (.tmp 65) (.tmp 67) rfl rfl (by kernel_rfl) hown1 (by kernel_rfl) hent (by intro u hu; simp at hu; subst hu; rfl) (N := L + 1) rfl (by omega) (by omega) hS.out ?_
       intro A7 c7 v11 hown2 hBn hgn
       have hS := hD hBn
       refine hK.out _ _ hS.out (fun _ => ?_)
       clear hK K hown1 hBn hgn hent
       refine rdH (rs := [12]) ?_
       refine AllReadyH.cons rfl (fun K hK => ?_) AllReadyH.nil
       go_simp
       refine hK.out _ _ (hS.out.alloc hS.out.size _) (fun _ => ?_)
       clear hK K
       obtain ⟨gx, hgx⟩ : ∃ x, v11.heap.size = x := ⟨_, rfl⟩
       have hbx := Blk.newAt v11 23 #[.slice A l.length cap, .slice A4 L c4, .slice (some ⟨gb, 0, none⟩) L c6, .slice A4 k c4, .slice A7 (L + 1) c7] hgx
       have hb0 : Below v11.heap.size v11 (v11.alloc (.cells #[.slice A l.length cap, .slice A4 L c4, .slice (some ⟨gb, 0, none⟩) L c6, .slice A4 k c4, .slice A7 (L + 1) c7] 23)) := (Below.refl _ _).alloc lR _
       have hS := hD (hS.out.trans (hb0.mono hS.out.size))
       have hr7 := ((Rd.own_ hown2).below hb0).fit
       have hc7 := own_cap hown2
       rw [hgx]
       clear hgx hown2
       generalize v11.alloc (.cells #[.slice A l.length cap, .slice A4 L c4, .slice (some ⟨gb, 0, none⟩) L c6, .slice A4 k c4, .slice A7 (L + 1) c7] 23) = v12 at hbx hb0 hS hr7 |-
       clear hb0
       refine tkL (i := 13) (v := .int .i64 5) rfl (fun w _ => by go_simp) hS.out ?_
       refine wpAnyH_done (by kernel_rfl) ?_ _
       go_wp2_with fail
       go_meet
       exact ⟨gx, A7, c7, rfl, rfl, rfl, hD hbx, hD (by simpa [bv] using hr7), hD hc7, hS⟩
     · go_simp
       refine hK.out _ _ (hS.out.alloc hS.out.size _) (fun _ => ?_)
       clear hK K
       obtain ⟨h1, hh1⟩ : ∃ x, v1.heap.size = x := ⟨_, rfl⟩
       have hent := (Rd.oneAt v1 (.int .u8 (y : Int)) 5 hh1).fit
       have hb0 : Below v1.heap.size v1 (v1.alloc (.cells #[.int .u8 (y : Int)] 5)) := (Below.refl _ _).alloc lR _
       have hS := hD (hS.out.trans (hb0.mono hS.out.size))
       have HG01 : Hid (h0 ≠ h1) := hD (by have := (hown0.lt h0 rfl).2; omega)
       have hown0 := ownsRow_below hown0 hb0
       rw [hh1]
       clear hh1
       generalize v1.alloc (.cells #[.int .u8 (y : Int)] 5) = v2 at hent hb0 hS hown0 |-
       clear hb0
       refine rdH (rs := [8]) ?_
       refine AllReadyH.cons rfl (fun K hK => ?_) AllReadyH.nil
       refine step_append_BN (W := wc) (c' := c4) cellB (.tmp 63) (.tmp 64) rfl rfl (by kernel_rfl) hown0 (by kernel_rfl) (HR4.out.below hS.out) Rd.oneCell (N := L) (by omega) (by omega) (by omega) hS.out ?_
       intro B4 e4 v3 hown1 hBn hgn
       have hgb : ∀ k, (Value.slice (some ⟨h0, 0, none⟩) 0 0).ownBlock = some k -> k ≠ h1 := by
        intro k hk
        have h1 : h0 = k := by simpa [Value.ownBlock] using hk
        have h2 := HG01.out
        omega
       have hent := hent.rowOther hgn hgb
       have hS := hD hBn
       refine hK.out _ _ hS.out (fun _ => ?_)
       clear hK K hown0 hBn hgn
       refine rdH (rs := [11]) ?_
       refine AllReadyH.cons rfl (fun K hK => ?_) AllReadyH.nil
       refine step_append_BN (W := wc) (c' := 1) cellB (.tmp 65) (.tmp 67) rfl rfl (by kernel_rfl) hown1 (by kernel_rfl) hent (by intro u hu; simp at hu; subst hu; rfl) (N := L + 1) rfl (by omega) (by omega) hS.out ?_
       intro A7 c7 v11 hown2 hBn hgn
       have hS := hD hBn
       refine hK.out _ _ hS.out (fun _ => ?_)
       clear hK K hown1 hBn hgn hent
       refine rdH (rs := [12]) ?_
       refine AllReadyH.cons rfl (fun K hK => ?_) AllReadyH.nil
       go_simp
       refine hK.out _ _ (hS.out.alloc hS.out.size _) (fun _ => ?_)
       clear hK K
       obtain ⟨gx, hgx⟩ : ∃ x, v11.heap.size = x := ⟨_, rfl⟩
       have hbx := Blk.newAt v11 23 #[.slice A l.length cap, .slice A4 L c4, .slice (some ⟨gb, 0, none⟩) L c6, .slice A4 k c4, .slice A7 (L + 1) c7] hgx
       have hb0 : Below v11.heap.size v11 (v11.alloc (.cells #[.slice A l.length cap, .slice A4 L c4, .slice (some ⟨gb, 0, none⟩) L c6, .slice A4 k c4, .slice A7 (L + 1) c7] 23)) := (Below.refl _ _).alloc lR _
       have hS := hD (hS.out.trans (hb0.mono hS.out.size))
       have hr7 := ((Rd.own_ hown2).below hb0).fit
       have hc7 := own_cap hown2
       rw [hgx]
       clear hgx hown2
       generalize v11.alloc (.cells #[.slice A l.length cap, .slice A4 L c4, .slice (some ⟨gb, 0, none⟩) L c6, .slice A4 k c4, .slice A7 (L + 1) c7] 23) = v12 at hbx hb0 hS hr7 |-
       clear hb0
       refine tkL (i := 13) (v := .int .i64 5) rfl (fun w _ => by go_simp) hS.out ?_
       refine wpAnyH_done (by kernel_rfl) ?_ _
       go_wp2_with fail
       go_meet
       exact ⟨gx, A7, c7, rfl, rfl, rfl, hD hbx, hD (by simpa [bv] using hr7), hD hc7, hS⟩
   · go_simp
     refine hK.out _ _ (hS.out.alloc hS.out.size _) (fun _ => ?_)
     clear hK K
     obtain ⟨h1, hh1⟩ : ∃ x, vd.heap.size = x := ⟨_, rfl⟩
     have hent := (Rd.oneAt vd (.int .u8 (y : Int)) 5 hh1).fit
     have hb0 : Below vd.heap.size vd (vd.alloc (.cells #[.int .u8 (y : Int)] 5)) := (Below.refl _ _).alloc lR _
     have hS := hD (hS.out.trans (hb0.mono hS.out.size))
     rw [hh1]
     clear hh1
     generalize vd.alloc (.cells #[.int .u8 (y : Int)] 5) = v1 at hent hb0 hS |-
     clear hb0
     refine rdH (rs := [6]) ?_
     refine AllReadyH.cons rfl (fun K hK => ?_) AllReadyH.nil
     go_simp
     refine hK.out _ _ (hS.out.alloc hS.out.size _) (fun _ => ?_)
     clear hK K
     obtain ⟨h0, hh0⟩ : ∃ x, v1.heap.size = x := ⟨_, rfl⟩
     have hown0 : (v1.alloc (.cells #[] 5)).ownsRow wc.heap.size 5 1 (.slice (some ⟨h0, 0, none⟩) 0 0) 0 [] := by rw [<- hh0]; exact own_empty (W := wc) hS.out 5
     have hb0 : Below v1.heap.size v1 (v1.alloc (.cells #[] 5)) := (Below.refl _ _).alloc lR _
     have hS := hD (hS.out.trans (hb0.mono hS.out.size))
     have HG01 : Hid (h0 ≠ h1) := hD (by obtain ⟨b', o', e', hb', _⟩ := hent.2 (by omega); injection e' with e'; injection e' with e1' e2'; omega)
     have hent := (hent.below hb0).fit
     rw [hh0]
     clear hh0
     generalize v1.alloc (.cells #[] 5) = v2 at hown0 hb0 hS hent |-
     clear hb0
     refine rdH (rs := [8]) ?_
     refine AllReadyH.cons rfl (fun K hK => ?_) AllReadyH.nil
     refine step_append_BN (W := wc) (c' := c4) cellB (.tmp 63) (.tmp 64) rfl rfl (by kernel_rfl) hown0 (by kernel_rfl) (HR4.out.below hS.out) Rd.oneCell (N := L) (by omega) (by omega) (by omega) hS.out ?_
     intro B4 e4 v3 hown1 hBn hgn
     have hgb : ∀ k, (Value.slice (some ⟨h0, 0, none⟩) 0 0).ownBlock = some k -> k ≠ h1 := by
      intro k hk
      have h1 : h0 = k := by simpa [Value.ownBlock] using hk
      have h2 := HG01.out
      omega
     have hent := hent.rowOther hgn hgb
     have hS := hD hBn
     refine hK.out _ _ hS.out (fun _ => ?_)
     clear hK K hown0 hBn hgn
     refine rdH (rs := [11]) ?_
     refine AllReadyH.cons rfl (fun K hK => ?_) AllReadyH.nil
     refine step_append_BN (W := wc) (c' := 1) cellB (.tmp 65) (.tmp 67) rfl rfl (by kernel_rfl) hown1 (by kernel_rfl) hent (by intro u hu; simp at hu; subst hu; rfl) (N := L + 1) rfl (by omega) (by omega) hS.out ?_
     intro A7 c7 v11 hown2 hBn hgn
     have hS := hD hBn
     refine hK.out _ _ hS.out (fun _ => ?_)
     clear hK K hown1 hBn hgn hent
     refine rdH (rs := [12]) ?_
     refine AllReadyH.cons rfl (fun K hK => ?_) AllReadyH.nil
     go_simp
     refine hK.out _ _ (hS.out.alloc hS.out.size _) (fun _ => ?_)
     clear hK K
     obtain ⟨gx, hgx⟩ : ∃ x, v11.heap.size = x := ⟨_, rfl⟩
     have hbx := Blk.newAt v11 23 #[.slice A l.length cap, .slice A4 L c4, .slice (some ⟨gb, 0, none⟩) L c6, .slice A4 k c4, .slice A7 (L + 1) c7] hgx
     have hb0 : Below v11.heap.size v11 (v11.alloc (.cells #[.slice A l.length cap, .slice A4 L c4, .slice (some ⟨gb, 0, none⟩) L c6, .slice A4 k c4, .slice A7 (L + 1) c7] 23)) := (Below.refl _ _).alloc lR _
     have hS := hD (hS.out.trans (hb0.mono hS.out.size))
     have hr7 := ((Rd.own_ hown2).below hb0).fit
     have hc7 := own_cap hown2
     rw [hgx]
     clear hgx hown2
     generalize v11.alloc (.cells #[.slice A l.length cap, .slice A4 L c4, .slice (some ⟨gb, 0, none⟩) L c6, .slice A4 k c4, .slice A7 (L + 1) c7] 23) = v12 at hbx hb0 hS hr7 |-
     clear hb0
     refine tkL (i := 13) (v := .int .i64 5) rfl (fun w _ => by go_simp) hS.out ?_
     refine wpAnyH_done (by kernel_rfl) ?_ _
     go_wp2_with fail
     go_meet
     exact ⟨gx, A7, c7, rfl, rfl, rfl, hD hbx, hD (by simpa [bv] using hr7), hD hc7, hS⟩
  case rest =>
   obtain ⟨gx, A7, c7, rfl, rfl, rfl, HBX, HR7, HC7, HB30⟩ := hcut
   rename World => we
   clear hsl
   have HBE := hD (HB.out.trans (HB30.out.mono HB.out.size))
   have HROW : Hid (∀ wx, Below we.heap.size we wx -> ∀ j, j < 5 -> ∃ A c l, wx.cell? ⟨gx, j, none⟩ = some (.slice A l.length c) /\ Rd wx wx.heap.size A l.length (bv l) /\ l.length <= c /\ c <= maxLen /\ l.length <= 100000 /\ ∀ x ∈ l, x < 256) := hD (fun wx hb j hj => by
    have hk := HBX.out.below hb
    have hb1 := HB30.out.trans (hb.mono HB30.out.size)
    have ht := (HR4.out.below hb1).fit
    have e := HLT2.out
    match j, hj with
    | 0, _ => exact ⟨_, _, l, hk.cell 0, (HL1.out.below hb1).fit, HLC.out.1, HLC.out.2, by have := HL300.out; omega, HLT.out⟩
    | 1, _ => exact ⟨_, _, T, by rw [e]; exact hk.cell 1, by rw [e]; exact ht, by rw [e]; exact hcap4.1, hcap4.2, by omega, HBY.out⟩
    | 2, _ => exact ⟨_, _, T.set k y, by rw [List.length_set, e]; exact hk.cell 2, by rw [List.length_set, e]; exact ((Rd.own_ HU.out).below hb1).fit, by rw [List.length_set, e]; exact (own_cap HU.out).1, (own_cap HU.out).2, by rw [List.length_set]; omega, fun x hx => by
       rcases List.mem_or_eq_of_mem_set hx with h1 | h1
       · exact HBY.out x h1
       · have := HY.out; omega⟩
    | 3, _ =>
      have ek : (T.take k).length = k := by rw [List.length_take]; omega
      exact ⟨_, _, T.take k, by rw [ek]; exact hk.cell 3, by rw [ek, bv_take]; exact ht.take (by omega), by rw [ek]; omega, hcap4.2, by rw [ek]; omega, fun x hx => HBY.out x (List.mem_of_mem_take hx)⟩
    | 4, _ =>
      have ea : (T ++ [y]).length = L + 1 := by rw [List.length_append, e]; rfl
      exact ⟨_, _, T ++ [y], by rw [ea]; exact hk.cell 4, by rw [ea]; exact (HR7.out.below hb).fit, by rw [ea]; exact HC7.out.1, HC7.out.2, by rw [ea]; omega, fun x hx => by
       rcases List.mem_append.1 hx with h1 | h1
       · exact HBY.out x h1
       · have := HY.out; simp at h1; omega⟩)
   clear HBX HR7 HC7 HU HR4 HL1 HB HLC HLT HY HL300 HB30 hpos hk hl0 hl0b hki hk0 hlp hcap4 HL HGB HE HF HOK H31 HFIT HBY
   go_wp2_with fail
   go_loopw [71] (fun s71 wr => ∃ (j : Nat), j <= 5 /\ s71 = .int .i64 (j : Int) /\ Hid (Below we.heap.size we wr)) (fun s71 _ => 5 - (intOf s71).toNat)
   case atStart => exact ⟨0, by omega, rfl, hD (Below.refl _ _)⟩
   case round =>
    obtain ⟨j, hj, rfl, HBL⟩ := hrel
    rename World => wl
    by_cases hj5 : j < 5
    · have hji : (j : Int) < 5 := by omega
      have hj0 : (0 : Int) <= (j : Int) := by omega
      have hwj : IntKind.i64.wrap ((j : Int) + 1) = (j : Int) + 1 := IntWalk.i64_in _ (by omega)
      obtain ⟨A8, c8, l8, hc8, hr8, hnc8, hcm8, hll8, hlb8⟩ := HROW.out _ HBL.out j hj5
      obtain ⟨R, hR⟩ : ∃ R, Sb.dec l8 = R := ⟨_, rfl⟩
      have hfa := Sb.dec_facts hlb8
      rw [hR] at hfa
      have HFA := hD hfa
      have C1 : Hid (Calls Tryz.prog 8 #[.slice A8 l8.length c8] wl (GotS wl wl R)) := hD (decode15 (W := wl) hR hll8 hlb8 ⟨hnc8, hcm8⟩ hr8 (Below.refl _ _))
      have C2 : Hid (∀ wx, Below wl.heap.size wl wx -> Calls Tryz.prog 12 #[.slice A8 l8.length c8] wx (GotS wx wx R)) := hD (fun wx hb => refDecode15 (W := wx) hR hll8 hlb8 ⟨hnc8, hcm8⟩ (hr8.below hb) (Below.refl _ _))
      have C5 : Hid (∀ wx, Below wl.heap.size wl wx -> ∀ (i : Int) (q : Option (List Nat)), Sb.part l8 i = q -> -9223372036854775808 <= i /\ i <= 9223372036854775807 -> Calls Tryz.prog 9 #[.slice A8 l8.length c8, .int .i64 i] wx (GotU wx wx q)) := hD (fun wx hb i q hq hi => part15 (W := wx) hq hi hll8 ⟨hnc8, hcm8⟩ (hr8.below hb) (Below.refl _ _))
      have C6 : Hid (∀ wx, Below wl.heap.size wl wx -> ∀ (i : Int) (q : Option (List Nat)), Sb.part l8 i = q -> -9223372036854775808 <= i /\ i <= 9223372036854775807 -> Calls Tryz.prog 14 #[.slice A8 l8.length c8, .int .i64 i] wx (GotU wx wx q)) := hD (fun wx hb i q hq hi => refPart15 (W := wx) hq hi hll8 ⟨hnc8, hcm8⟩ (hr8.below hb) (Below.refl _ _))
      have HLB8 := hD hlb8
      have HLL8 := hD hll8
      clear hR hr8 hnc8 hcm8 hll8 hlb8 hfa
      obtain ⟨RM, hRM⟩ : ∃ x, R.getD Sb.zero = x := ⟨_, rfl⟩
      obtain ⟨RB, hRB⟩ : ∃ x, R.isSome = x := ⟨_, rfl⟩
      rw [hRM] at HFA
      unfold GotS at C1 C2
      rw [hRM, hRB] at C1
      rw [hRM, hRB] at C2
      clear hRM hRB
      go_upto_region 14 with (first
       | (go_at_call 8; refine (C1.out).mono ?_; rintro en w6 ⟨au, rfl, hou, hBu, hbu⟩
          unfold stateV
          have HOU := hD (hou)
          have HB6 := hD (hbu)
          clear hou hBu hbu)
       | (refine wpList_store_row rfl 34 (.tmp 19) (.tmp 78) rfl w6.heap.size (stateC au RM) rfl rfl 34 #[.int .i64 0, .slice none 0 0, .slice none 0 0, .slice none 0 0, .slice none 0 0, .slice none 0 0, .slice none 0 0] (Blk.new w6 34 #[.int .i64 0, .slice none 0 0, .slice none 0 0, .slice none 0 0, .slice none 0 0, .slice none 0 0, .slice none 0 0]) (by kernel_rfl) rfl (by kernel_rfl) ?_)
       | fail)
      obtain ⟨g19, wm, hgE, hwE, hbE, hkE⟩ := boxed w6 #[.int .i64 0, .slice none 0 0, .slice none 0 0, .slice none 0 0, .slice none 0 0, .slice none 0 0, .slice none 0 0] (stateC au RM) 34
      rw [hgE, hwE]
      have HBx := hD hbE
      have HK19 := hD hkE
      clear hgE hwE hbE hkE
      have HRU := hD ((HOU.out.below HBx.out).rd)
      have HBM := hD (HB6.out.trans (HBx.out.mono HB6.out.size))
      clear HBx HOU HB6 C1 hc8
      go_upto_region 15 with (first
       | (go_at_call 12; refine (C2.out _ HBM.out).mono ?_; rintro en w7 ⟨av, rfl, hov, hBv, hbv⟩
          unfold stateV
          have HOV := hD (hov)
          have HB7 := hD (hbv)
          clear hov hBv hbv)
       | (refine wpList_store_row rfl 34 (.tmp 21) (.tmp 83) rfl w7.heap.size (stateC av RM) rfl rfl 34 #[.int .i64 0, .slice none 0 0, .slice none 0 0, .slice none 0 0, .slice none 0 0, .slice none 0 0, .slice none 0 0] (Blk.new w7 34 #[.int .i64 0, .slice none 0 0, .slice none 0 0, .slice none 0 0, .slice none 0 0, .slice none 0 0, .slice none 0 0]) (by kernel_rfl) rfl (by kernel_rfl) ?_)
       | fail)
      obtain ⟨g21, wn, hgE, hwE, hbE, hkE⟩ := boxed w7 #[.int .i64 0, .slice none 0 0, .slice none 0 0, .slice none 0 0, .slice none 0 0, .slice none 0 0, .slice none 0 0] (stateC av RM) 34
      rw [hgE, hwE]
      have HBx := hD hbE
      have HK21 := hD hkE
      clear hgE hwE hbE hkE
      have bmn : Below wm.heap.size wm wn := HB7.out.trans (HBx.out.mono HB7.out.size)
      have HRV := hD ((HOV.out.below HBx.out).rd)
      have HRU := hD (HRU.out.below bmn)
      have HK19 := hD (HK19.out.below bmn)
      have HBN := hD (HBM.out.trans (bmn.mono HBM.out.size))
      clear HBx bmn HOV HB7 HBM C2
      have hbb : (RB != RB) = false := by simp
      have C3 : Hid (Calls Tryz.prog 13 #[.agg (stateC au RM), .agg (stateC av RM)] wn fun e w' => e = .returned (.bool true) /\ Below wn.heap.size wn w') := hD (by
       have h1 := refSame15 wn (a := au) (s := RM) (a' := av) (s' := RM) HFA.out.1 HFA.out.1 HFA.out.2.1 HFA.out.2.1 (by have := HFA.out.2.2; omega) HRU.out HRV.out
       rw [decide_eq_true (rfl : RM = RM)] at h1
       exact h1)
      go_upto_region 17 with (first
       | (refine wpList_load_rowV (by first | rfl | kernel_rfl) 34 (.tmp 19) rfl g19 rfl 34 (stateC au RM) (0, 0) _ HK19.out Tryz.underlying34 rfl (by kernel_rfl) ?_)
       | (refine wpList_load_rowV (by first | rfl | kernel_rfl) 34 (.tmp 21) rfl g21 rfl 34 (stateC av RM) (0, 0) _ HK21.out Tryz.underlying34 rfl (by kernel_rfl) ?_)
       | (go_at_call 13; refine (C3.out).mono ?_; rintro en w8 ⟨rfl, hb8⟩
          have HB8 := hD (HBN.out.trans (hb8.mono HBN.out.size))
          clear hb8)
       | fail)
      clear hbb C3 HK19 HK21 HRU HRV HBN HFA
      obtain ⟨n8, hn8⟩ : ∃ x, l8.length = x := ⟨_, rfl⟩
      rw [hn8] at C5 C6 HLL8 |-
      clear hn8
      have hw8 : IntKind.i64.wrap ((n8 : Int) - 1) = (n8 : Int) - 1 := IntWalk.i64_in _ (by have := HLL8.out; omega)
      go_upto_region 18 with fail
      clear hw8
      obtain ⟨gi, hgi⟩ : ∃ gi, w8.heap.size = gi := ⟨_, rfl⟩
      have HKI := hD (Blk.newAt w8 3 #[.int .i64 at_, .int .i64 (k : Int), .int .i64 ((n8 : Int) - 1), .int .i64 (n8 : Int), .int .i64 0, .int .i64 (-1)] hgi)
      have hb0 : Below w8.heap.size w8 (w8.alloc (.cells #[.int .i64 at_, .int .i64 (k : Int), .int .i64 ((n8 : Int) - 1), .int .i64 (n8 : Int), .int .i64 0, .int .i64 (-1)] 3)) := (Below.refl _ _).alloc lR _
      rw [hgi]
      have HBI := hD (HB8.out.trans (hb0.mono HB8.out.size))
      clear hgi hb0 HB8
      generalize w8.alloc (.cells #[.int .i64 at_, .int .i64 (k : Int), .int .i64 ((n8 : Int) - 1), .int .i64 (n8 : Int), .int .i64 0, .int .i64 (-1)] 3) = wi at HKI HBI |-
      have HCI : Hid (∀ wx, Below wi.heap.size wi wx -> ∀ i, i < 6 -> ∃ z : Int, wx.cell? ⟨gi, i, none⟩ = some (.int .i64 z) /\ -9223372036854775808 <= z /\ z <= 9223372036854775807) := hD (fun wx hb i hi => by
       have hk := HKI.out.below hb
       have h8 := HLL8.out
       have ha := HAT.out
       have h4 := HL4.out
       match i, hi with
       | 0, _ => exact ⟨_, hk.cell 0, ha⟩
       | 1, _ => exact ⟨_, hk.cell 1, by omega, by omega⟩
       | 2, _ => exact ⟨_, hk.cell 2, by omega, by omega⟩
       | 3, _ => exact ⟨_, hk.cell 3, by omega, by omega⟩
       | 4, _ => exact ⟨_, hk.cell 4, by omega, by omega⟩
       | 5, _ => exact ⟨_, hk.cell 5, by omega, by omega⟩)
      clear HKI
      go_loopw [103] (fun s103 wr => ∃ (i : Nat), i <= 6 /\ s103 = .int .i64 (i : Int) /\ Hid (Below wi.heap.size wi wr)) (fun s103 _ => 6 - (intOf s103).toNat)
      case atStart => exact ⟨0, by omega, rfl, hD (Below.refl _ _)⟩
      case round =>
       obtain ⟨i, hi, rfl, HBJ⟩ := hrel
       by_cases hi6 : i < 6
       · have hii : (i : Int) < 6 := by omega
         have hwi : IntKind.i64.wrap ((i : Int) + 1) = (i : Int) + 1 := IntWalk.i64_in _ (by omega)
         obtain ⟨z, hz, hz0, hz1⟩ := HCI.out _ HBJ.out i hi6
         obtain ⟨q, hq⟩ : ∃ q, Sb.part l8 z = q := ⟨_, rfl⟩
         have hbr := HBI.out.trans (HBJ.out.mono HBI.out.size)
         have D1 := hD (C5.out wr hbr z q hq ⟨hz0, hz1⟩)
         have D2 : Hid (∀ wx, Below wr.heap.size wr wx -> Calls Tryz.prog 14 #[.slice A8 n8 c8, .int .i64 z] wx (GotU wx wx q)) := hD (fun wx hb => C6.out wx (hbr.trans (hb.mono hbr.size)) z q hq ⟨hz0, hz1⟩)
         obtain ⟨x, hx⟩ : ∃ x, q.getD [] = x := ⟨_, rfl⟩
         obtain ⟨QB, hQB⟩ : ∃ b, q.isSome = b := ⟨_, rfl⟩
         unfold GotU at D1 D2
         rw [hx, hQB] at D1
         rw [hx, hQB] at D2
         clear hq hx hQB hbr hz0 hz1
         have q1 := strB_self x
         have q3 : ((strB x).toList == (strB x).toList) = true := by simp
         have hbb : (QB != QB) = false := by simp
         go_wp2_with (first
          | (go_at_call 9; refine (D1.out).mono ?_; rintro en w9 ⟨Au, cu, rfl, hou, hBu, hbu⟩
             have HOU := hD (Rd.own_ hou)
             have HB9 := hD (hbu)
             clear hou hBu hbu)
          | (go_at_call 14; refine (D2.out _ HB9.out).mono ?_; rintro en wq ⟨Av, cv, rfl, hov, hBv, hbv⟩
             have HBQ := hD (HB9.out.trans (hbv.mono HB9.out.size))
             have s1 : (convert 23 9 (.slice Au x.length cu)).run Tryz.prog wq = .ok (.string (strB x)) wq := str_of (HOU.out.below hbv)
             have s2 : (convert 23 9 (.slice Av x.length cv)).run Tryz.prog wq = .ok (.string (strB x)) wq := str_of (Rd.own_ hov)
             clear hov hBv hbv)
          | fail)
         go_roundw
         case rel => exact ⟨i + 1, by omega, by go_num, hD (HBJ.out.trans (HBQ.out.mono HBJ.out.size))⟩
         case measure => simp only [intOf]; omega
       · have hii : ¬ (i : Int) < 6 := by omega
         go_wp2_with fail
         go_roundw
         case rel => exact ⟨j + 1, by omega, by go_num, hD ((HBL.out.trans (HBI.out.mono HBL.out.size)).trans (HBJ.out.mono (HBL.out.trans (HBI.out.mono HBL.out.size)).size))⟩
         case measure => simp only [intOf]; omega
    · have hji : ¬ (j : Int) < 5 := by omega
      clear HROW
      go_wp2_with (first
       | (go_at_call 11; refine (blobAwake _).mono ?_; rintro e w9 ⟨rfl, hb9⟩; have HB9 := hD hb9; clear hb9)
       | fail)
      go_ret
      have h1 := HBE.out.trans (HBL.out.mono HBE.out.size)
      exact ⟨rfl, h1.trans (HB9.out.mono h1.size)⟩
theorem blobTells_walk (a0 : Option Addr) (len0 cap0 : Nat) (z0 : List Int) (a1 : Int) (a2 : Int) (a3 : Option Addr) (len3 cap3 : Nat) (z3 : List Int) (a4 : Int) (a5 : Int) (w : World) (w0 : IsRow .i64 w a0 len0 cap0 z0) (w1 : (Lit.int .i64 a1).wf = true) (w2 : (Lit.int .i64 a2).wf = true) (w3 : IsRow .u8 w a3 len3 cap3 z3) (w4 : (Lit.int .i64 a4).wf = true) (w5 : (Lit.int .u8 a5).wf = true) : Calls Tryz.prog 4 #[.slice a0 len0 cap0, .int .i64 a1, .int .i64 a2, .slice a3 len3 cap3, .int .i64 a4, .int .u8 a5] w fun e w' => e = .returned (.bool true) /\ Below w.heap.size w w' := by
 have h0 := w0.ints
 obtain ⟨l, h1, h2, h4⟩ := w3.rd
 obtain ⟨y, rfl, hy⟩ := u8_nat w5
 have e : l.length = len3 := by have := h2.length; simpa [bv] using this
 have hat : -9223372036854775808 <= a4 /\ a4 <= 9223372036854775807 := by
  have h := w4
  simp [Lit.wf] at h
  have e1 : IntKind.i64.min = -9223372036854775808 := by rfl
  have e2 : IntKind.i64.max = 9223372036854775807 := by rfl
  omega
 subst e
 exact blobTells_raw w a1 a2 a3 cap3 l a4 y hy hat (Nat.le_trans h0.2.2.1 h0.2.2.2) h0.1 h2.fit h4 h1
end Go.Proofs.YtmekamgohonffaaGreat
