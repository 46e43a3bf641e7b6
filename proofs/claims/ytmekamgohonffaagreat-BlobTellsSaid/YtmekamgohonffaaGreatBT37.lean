/- MachEntry MachObj -/
import Derived.Test.YtmekamgohonffaaGreatBT00
import Derived.Test.YtmekamgohonffaaGreatBT06
import Derived.Test.YtmekamgohonffaaGreatBT08
import Derived.Test.YtmekamgohonffaaGreatBT13
import Derived.Test.YtmekamgohonffaaGreatBT16
import Derived.Test.YtmekamgohonffaaGreatBT23
import Derived.Test.YtmekamgohonffaaGreatBT28
import Derived.Test.YtmekamgohonffaaGreatBT30
import Derived.Test.YtmekamgohonffaaGreatBT36
namespace Go.Proofs.YtmekamgohonffaaGreat
open Go.RowKit
set_option linter.unusedVariables false
def NoByte (cs : Array Value) : Prop := ∀ (j x : Nat), cs[j]? ≠ some (.int .u8 (x : Int))
theorem NoByte.set {cs : Array Value} (h : NoByte cs) (i : Nat) {u : Value} (hu : ∀ x : Nat, u ≠ .int .u8 (x : Int)) : NoByte (cs.setIfInBounds i u) := by
 intro j x
 rw [Array.getElem?_setIfInBounds]
 split
 · split
   · intro h2; injection h2 with h2; exact hu x h2
   · simp
 · exact h j x
theorem Rd.setK {w : World} {B : Nat} {A : Option Addr} {n b i : Nat} {u : Value} {t : TypeId} {cs : Array Value} {l : List Nat} (h : Rd w B A n (bv l)) (hb : Blk w b t cs) (hk : NoByte cs) : Rd (w.setCell ⟨b, i, none⟩ u) (w.setCell ⟨b, i, none⟩ u).heap.size A n (bv l) := by
 rcases Nat.eq_zero_or_pos n with rfl | hn
 · exact ⟨h.1, fun h0 => absurd h0 (by omega)⟩
 · obtain ⟨g, o, rfl, hg, hc⟩ := h.2 hn
   refine h.set_ne ?_
   rintro rfl
   have h0 := hc 0 hn
   rw [hb.cell] at h0
   have hl : 0 < l.length := by have := h.1; rw [bv_length] at this; omega
   have h1 : (bv l)[0]? = some (.int .u8 (l[0] : Nat)) := by unfold bv; simp [List.getElem?_eq_getElem hl]
   rw [h1] at h0
   exact hk _ _ h0
theorem RdC.setK {w : World} {B b i : Nat} {u : Value} {t : TypeId} {cs : Array Value} {a : CA} {c : Cm} (h : RdC w B a c) (hb : Blk w b t cs) (hk : NoByte cs) : RdC (w.setCell ⟨b, i, none⟩ u) (w.setCell ⟨b, i, none⟩ u).heap.size a c :=
 ⟨h.rk.setK hb hk, h.rv.setK hb hk, h.ro.setK hb hk⟩
theorem noInt (z : Int) : ∀ x : Nat, Value.int .i64 z ≠ .int .u8 (x : Int) := fun x h => by cases h
theorem noSlice (A : Option Addr) (n c : Nat) : ∀ x : Nat, Value.slice A n c ≠ .int .u8 (x : Int) := fun x h => by cases h
theorem noByte_ent (s q k w : Int) (A A' A'' : Option Addr) (n c n' c' n'' c'' : Nat) : NoByte #[.int .i64 s, .int .i64 q, .int .i64 k, .int .i64 w, .slice A n c, .slice A' n' c', .slice A'' n'' c''] := by
 intro j x h
 match j with
 | 0 => simp at h
 | 1 => simp at h
 | 2 => simp at h
 | 3 => simp at h
 | 4 => simp at h
 | 5 => simp at h
 | 6 => simp at h
 | j + 7 => simp at h
set_option maxHeartbeats 1000000 in
theorem put7 {w : World} {b : Nat} {x0 x1 x2 x3 : Int} {A A' A'' : Option Addr} {n c n' c' n'' c'' : Nat} (hk : Blk w b 43 #[.int .i64 x0, .int .i64 x1, .int .i64 x2, .int .i64 x3, .slice A n c, .slice A' n' c', .slice A'' n'' c'']) (a : CA) (e : En) {B : Nat} (hr : RdC w B a e.c) :
 let wy := (((((((w.setCell ⟨b, 0, none⟩ (.int .i64 e.s)).setCell ⟨b, 1, none⟩ (.int .i64 e.q)).setCell ⟨b, 2, none⟩ (.int .i64 e.c.kind)).setCell ⟨b, 3, none⟩ (.int .i64 e.c.who)).setCell ⟨b, 4, none⟩ (.slice a.Ak e.c.key.length a.ck)).setCell ⟨b, 5, none⟩ (.slice a.Av e.c.val.length a.cv)).setCell ⟨b, 6, none⟩ (.slice a.Ao e.c.old.length a.co))
 Blk wy b 43 (entC a e) /\ RdC wy wy.heap.size a e.c /\ ∀ W, W.heap.size <= b -> Below W.heap.size W w -> Below W.heap.size W wy := by
 intro wy
 have k0 := noByte_ent x0 x1 x2 x3 A A' A'' n c n' c' n'' c''
 have b1 := hk.set_ 0 (.int .i64 e.s); have k1 := k0.set 0 (noInt e.s)
 have b2 := b1.set_ 1 (.int .i64 e.q); have k2 := k1.set 1 (noInt e.q)
 have b3 := b2.set_ 2 (.int .i64 e.c.kind); have k3 := k2.set 2 (noInt e.c.kind)
 have b4 := b3.set_ 3 (.int .i64 e.c.who); have k4 := k3.set 3 (noInt e.c.who)
 have b5 := b4.set_ 4 (.slice a.Ak e.c.key.length a.ck); have k5 := k4.set 4 (noSlice a.Ak e.c.key.length a.ck)
 have b6 := b5.set_ 5 (.slice a.Av e.c.val.length a.cv); have k6 := k5.set 5 (noSlice a.Av e.c.val.length a.cv)
 have b7 := b6.set_ 6 (.slice a.Ao e.c.old.length a.co)
 have r1 := hr.setK (i := 0) (u := .int .i64 e.s) hk k0
 have r2 := r1.setK (i := 1) (u := .int .i64 e.q) b1 k1
 have r3 := r2.setK (i := 2) (u := .int .i64 e.c.kind) b2 k2
 have r4 := r3.setK (i := 3) (u := .int .i64 e.c.who) b3 k3
 have r5 := r4.setK (i := 4) (u := .slice a.Ak e.c.key.length a.ck) b4 k4
 have r6 := r5.setK (i := 5) (u := .slice a.Av e.c.val.length a.cv) b5 k5
 have r7 := r6.setK (i := 6) (u := .slice a.Ao e.c.old.length a.co) b6 k6
 exact ⟨b7, r7, fun W h1 h2 => ((((((h2.setCell h1 _).setCell h1 _).setCell h1 _).setCell h1 _).setCell h1 _).setCell h1 _).setCell h1 _⟩
theorem entryZ_any (n : Int) (i : Nat) (hi : i <= 100) (w : World) : Calls Tryz.prog 22 #[.int .i64 n, .int .i64 (i : Int)] w fun e w' => ∃ ca en, e = .returned (entV ca en) /\ en.c.Fits /\ RdC w' w'.heap.size ca en.c /\ ca.Z /\ Below w.heap.size w w' := by
 have hb0 : Below w.heap.size w (w.alloc (.cells #[.int .i64 0, .int .i64 0, .int .i64 0, .int .i64 0, .slice none 0 0, .slice none 0 0, .slice none 0 0] 43)) := (Below.refl _ _).alloc lR _
 have HB0 := hD hb0
 have HK := hD (Blk.new w 43 #[.int .i64 0, .int .i64 0, .int .i64 0, .int .i64 0, .slice none 0 0, .slice none 0 0, .slice none 0 0])
 clear hb0
 go_enter Tryz.func22, Tryz.ntmps22
 go_wp2_with fail
 refine (cmdZ_any n _).mono ?_
 rintro e w1 ⟨ca, c, rfl, hf, hr, hz, hb⟩
 have HZ := hD hz
 clear hz
 have HK1 := hD (HK.out.below hb)
 have HB1 := hD (HB0.out.trans (hb.mono HB0.out.size))
 have HR := hD hr
 have HF := hD hf
 clear hb hr hf HK HB0
 obtain ⟨x0, x1, x2, x3, x4, x5, x6⟩ := seven HK1.out
 have f0 := HK1.out.frozen 0
 have f1 := HK1.out.frozen 1
 have f2 := HK1.out.frozen 2
 have f3 := HK1.out.frozen 3
 have f4 := HK1.out.frozen 4
 have f5 := HK1.out.frozen 5
 have f6 := HK1.out.frozen 6
 unfold cmdV cmdC
 go_wp2_with fail
 obtain ⟨p1, p2, p3⟩ := put7 HK1.out ca ⟨_, _, c⟩ HR.out
 refine bodyPost_ret (results_cell_row rfl _ _ _ _ _ _ _ rfl p1 Tryz.underlying43 rfl (by kernel_rfl)) rfl ?_
 exact ⟨ca, ⟨_, _, c⟩, rfl, HF.out, p2, HZ.out, p3 w lR HB1.out⟩
theorem entry_any (n : Int) (i : Nat) (hi : i <= 100) (w : World) : Calls Tryz.prog 22 #[.int .i64 n, .int .i64 (i : Int)] w fun e w' => ∃ ca en, e = .returned (entV ca en) /\ en.c.Fits /\ RdC w' w'.heap.size ca en.c /\ Below w.heap.size w w' :=
 (entryZ_any n i hi w).mono fun e w' ⟨ca, en, h1, h2, h3, _, h5⟩ => ⟨ca, en, h1, h2, h3, h5⟩
theorem RdSt.belowW {w wx wy : World} {B b : Nat} {s : Pk.St} (h : RdSt w wx B b s) (hB : Below w.heap.size wx wy) (hb : b < w.heap.size) : RdSt w wy B b s := by
 refine ⟨?_, only_below h.only hB lR⟩
 obtain ⟨A, n, c, h1, h2, h3, h4, h5, h6⟩ := h.r
 exact ⟨A, n, c, (hB.block b hb).trans h1, h2, h3, h4, h5, fun l hl => ⟨(h6 l hl).1.keep (fun p hp => hB.cell (by omega)) lR, (h6 l hl).2⟩⟩
theorem iv_snocO (l : List Int) (z : Int) : iv (l ++ [z]) = iv l ++ [.int .i64 z] := by simp [iv]
structure ObSt (w wx : World) (B b g : Nat) (a : OA) (o : Ob) (s : Pk.St) : Prop where
 res : Blk wx w.heap.size 28 #[.slice none 0 0, .slice none 0 0, .slice none 0 0, .slice none 0 0]
 blk : Blk wx g 28 (objC a o)
 own : OwnO w wx a o
 rd : RdSt w wx B b s
section
variable {w wx wy : World} {B b g : Nat} {a : OA} {o : Ob} {s s' : Pk.St}
theorem ObSt.call (h : ObSt w wx B b g a o s) (hb : b < w.heap.size) (hg : b ≠ g) (hr : RefAt wy B b s') (ho : Only b wx wy) : ObSt w wy B b g a o s' :=
 ⟨h.res.grown ho (by intro e; injection e with e; omega), h.blk.grown ho (by intro e; injection e with e; omega), h.own.old ho (Old.some hb), h.rd.call hr ho⟩
theorem ObSt.below (h : ObSt w wx B b g a o s) (hb : b < w.heap.size) (hB : Below wx.heap.size wx wy) : ObSt w wy B b g a o s :=
 ⟨h.res.below hB, h.blk.below hB, h.own.below hB, h.rd.belowW (hB.mono h.rd.size) hb⟩
theorem ObSt.put {a' : OA} {o' : Ob} {i : Nat} {u : Value} (hres : Blk wx w.heap.size 28 #[.slice none 0 0, .slice none 0 0, .slice none 0 0, .slice none 0 0]) (hblk : Blk wx g 28 (objC a o)) (hown : OwnO w wx a' o') (hrd : RdSt w wx B b s) (hg : w.heap.size < g) (hb : b < w.heap.size) (hc : (objC a o).setIfInBounds i u = objC a' o') : ObSt w (wx.setCell ⟨g, i, none⟩ u) B b g a' o' s :=
 ⟨hres.set_other (by omega), by rw [<- hc]; exact hblk.set_ i u, hown.set_t hblk (by decide) (by decide) (by decide) (by decide), hrd.set hb (by omega)⟩
end
set_option maxHeartbeats 4000000 in
set_option maxRecDepth 100000 in
theorem refObjects_any (w : World) (B b : Nat) (s : Pk.St) (h : RefAt w B b s) (hbs : BytesSt s) :
 Calls Tryz.prog 96 #[.pointer (some ⟨b, 0, none⟩)] w fun en w' => ∃ a, en = .returned (.tuple #[objV a (getO s).1, .bool (decide (getO s).1.lk.Nodup && okP (getO s).1.mp)]) /\ OwnO w w' a (getO s).1 /\ RefAt w' B b (getO s).2 /\ Only b w w' := by
 have hbl := h.lt
 have HBL := hD hbl
 have h0 : RdSt w w B b s := ⟨h, only_refl b w⟩
 have HR0 := hD (h0.below ((Below.refl w.heap.size w).alloc lR (.cells #[.slice none 0 0, .slice none 0 0, .slice none 0 0, .slice none 0 0] 28)))
 have HK2 := hD (Blk.new w 28 #[.slice none 0 0, .slice none 0 0, .slice none 0 0, .slice none 0 0])
 obtain ⟨R, hR⟩ : ∃ R, getO s = R := ⟨_, rfl⟩
 rw [hR]
 have HRR := hD hR
 clear h h0 hR
 have hne : w.heap.size ≠ b := by omega
 obtain ⟨reg, e0⟩ : ∃ x, Pk.bytV s 16 = x := ⟨_, rfl⟩
 obtain ⟨s1, e1⟩ : ∃ x, Pk.bytS s 16 = x := ⟨_, rfl⟩
 obtain ⟨nq, e2⟩ : ∃ x, Pk.numV s1 8 = x := ⟨_, rfl⟩
 obtain ⟨s2, e3⟩ : ∃ x, Pk.numS s1 8 = x := ⟨_, rfl⟩
 have C0 := hD (fun w h => refrbytes_any w B b s 16 h)
 have C1 := hD (fun w h => refrnum_any w B b s1 8 h)
 rw [e0, e1] at C0
 rw [e2, e3] at C1
 have HE0 := hD e0
 have HE1 := hD e1
 have HE2 := hD e2
 have HE3 := hD e3
 have hnq : nq <= 8 := by have := numV_le s1 (m := 8) (by omega); omega
 clear e0 e1 e2 e3
 go_enter Tryz.func96, Tryz.ntmps96
 go_upto_region 1 with fail
 generalize w.alloc (.cells #[.slice none 0 0, .slice none 0 0, .slice none 0 0, .slice none 0 0] 28) = wa at HR0 HK2 |-
 go_upto_region 2 with (first
  | (go_at_call 39; refine (C0.out _ HR0.out.r).mono ?_; rintro en w1 ⟨A0, m0, c0, rfl, hv, hr, ho⟩; obtain rfl := own_len hv
     have hv := own_of HR0.out.size hv
     have hn1 : w.heap.size < w1.heap.size := (HK2.out.grown ho (by simpa using hne)).lt
     have HST : Hid (ObSt w (w1.alloc (.cells #[.slice A0 reg.length c0, .slice none 0 0, .slice none 0 0, .slice none 0 0] 28)) B b w1.heap.size ⟨A0, c0, none, 0, none, 0, none, 0⟩ ⟨reg, [], [], []⟩ s1) := hD ⟨(HK2.out.grown ho (by simpa using hne)).alloc _, Blk.new _ _ _, ⟨own_below hv ((Below.refl _ _).alloc lR _), OwnQ.nil _ _, ownI_nil _ _, OwnP.nil _ _⟩, (HR0.out.call hr ho).below ((Below.refl _ _).alloc lR _)⟩
     clear hv hr ho C0)
  | fail)
 generalize w1.alloc (.cells #[.slice A0 reg.length c0, .slice none 0 0, .slice none 0 0, .slice none 0 0] 28) = wb at HST |-
 obtain ⟨g, hg⟩ : ∃ g, w1.heap.size = g := ⟨_, rfl⟩
 rw [hg] at HST hn1 |-
 have hgb : b ≠ g := by omega
 go_wp2_with (first
  | (go_at_call 37; refine (C1.out _ HST.out.rd.r).mono ?_; rintro en w2 ⟨rfl, hr, ho, hz⟩; have HST := hD (HST.out.call HBL.out hgb hr ho); clear hr ho hz C1)
  | fail)
 go_loopw [6] (fun s6 wr => ∃ (j : Nat) (A1 : Option Addr) (c1 : Nat) (acc : List (List Nat)) (sj : Pk.St), j + acc.length = nq /\ s6 = .int .i64 (j : Int) /\ Hid (ObSt w wr B b g ⟨A0, c0, A1, c1, none, 0, none, 0⟩ ⟨reg, acc, [], []⟩ sj) /\ Hid (getQ nq s2 = (acc ++ (getQ j sj).1, (getQ j sj).2))) (fun s6 _ => (intOf s6).toNat)
 case atStart => exact ⟨nq, none, 0, [], s2, by simp, rfl, HST, hD (by simp)⟩
 case round =>
  clear HST
  obtain ⟨j, A1, c1, acc, sj, hj, rfl, HST, HQ⟩ := hrel
  cases j with
  | succ j =>
    have hjp : (0 : Int) < ((j + 1 : Nat) : Int) := by omega
    have hjw : IntKind.i64.wrap (((j + 1 : Nat) : Int) - 1) = (j : Int) := by rw [show ((j + 1 : Nat) : Int) - 1 = (j : Int) by omega]; exact IntWalk.i64_in _ (by omega)
    obtain ⟨x, ex⟩ : ∃ y, Pk.bytV sj 16 = y := ⟨_, rfl⟩
    obtain ⟨sk, ek⟩ : ∃ y, Pk.bytS sj 16 = y := ⟨_, rfl⟩
    have HQ2 : Hid (getQ nq s2 = ((acc ++ [x]) ++ (getQ j sk).1, (getQ j sk).2)) := hD (by rw [HQ.out]; simp only [getQ, ex, ek, List.append_assoc, List.singleton_append])
    have CB := hD (fun w h => refrbytes_any w B b sj 16 h)
    rw [ex, ek] at CB
    clear ex ek HQ
    go_upto_region 6 with fail
    have hb0 := HST.out.blk
    unfold objC at hb0
    simp only at hb0
    have hbd : Below wr.heap.size wr wr.drew := (Below.refl _ _).drew
    have HS0 := hD (HST.out.below HBL.out hbd)
    refine region_T (n := 7) (S := fun w' => w'.cell? ⟨g, 1, none⟩ = some (.slice A1 acc.length c1)) (by kernel_rfl) ?_
    have hS : Hid (wr.drew.cell? ⟨g, 1, none⟩ = some (.slice A1 acc.length c1)) := hD ((hb0.below hbd).cell 1)
    clear hbd hb0 HST
    generalize wr.drew = w3 at HS0 hS |-
    refine AnyT.take (i := 0) (v := .pointer (some ⟨g, 1, none⟩)) rfl (by kernel_rfl) (by kernel_rfl) (by kernel_rfl) (by kernel_rfl) (fun _ _ _ h => h) (Or.inl ⟨by kernel_rfl, fun w _ => by go_simp⟩) hS.out ?_
    refine AnyT.take (i := 2) (v := .pointer (some ⟨b, 0, none⟩)) rfl (by kernel_rfl) (by kernel_rfl) (by kernel_rfl) (by kernel_rfl) (fun _ _ _ h => h) (Or.inl ⟨by kernel_rfl, fun w _ => by go_simp⟩) hS.out ?_
    refine AnyT.take (i := 1) (v := .slice A1 acc.length c1) rfl (by kernel_rfl) (by kernel_rfl) (by kernel_rfl) (by kernel_rfl) (fun _ _ _ h => h) (Or.inl ⟨by kernel_rfl, fun w h => by have q := h; go_simp⟩) hS.out ?_
    refine AnyT.ready (rs := [3]) (by kernel_rfl) (by simp) ?_
    refine AllT.cons rfl (fun K hK => ?_) AllT.nil
    go_simp
    refine (CB.out _ HS0.out.rd.r).mono ?_
    rintro en w4 ⟨A5, m5, c5, rfl, hv, hr, ho⟩
    obtain rfl := own_len hv
    have hv := own_of HS0.out.rd.size hv
    have HS1 := hD (HS0.out.call HBL.out hgb hr ho)
    have HV1 := hD hv
    have hb1 := HS1.out.blk
    unfold objC at hb1
    simp only at hb1
    have hS : Hid (w4.cell? ⟨g, 1, none⟩ = some (.slice A1 acc.length c1)) := hD (hb1.cell 1)
    clear hv hr ho hb1 HS0 CB
    go_simp
    refine hK.out _ _ (Or.inr (hS.out)) (fun _ => ?_)
    clear hK K
    refine AnyT.ready (rs := [4]) (by kernel_rfl) (by simp) ?_
    refine AllT.cons rfl (fun K hK => ?_) AllT.nil
    go_simp
    have bb : Below w4.heap.size w4 (w4.alloc (.cells #[.slice A5 x.length c5] 23)) := (Below.refl _ _).alloc lR _
    have HS2 := hD (HS1.out.below HBL.out bb)
    have HV2 := hD (own_below HV1.out bb)
    have HSRC := hD (Rd.oneAt w4 (.slice A5 x.length c5) 23 (g := w4.heap.size) rfl)
    have hb2 := HS2.out.blk
    unfold objC at hb2
    simp only at hb2
    have hS : Hid ((w4.alloc (.cells #[.slice A5 x.length c5] 23)).cell? ⟨g, 1, none⟩ = some (.slice A1 acc.length c1)) := hD (hb2.cell 1)
    obtain ⟨vs, hq1, hq2⟩ := HS2.out.own.o1
    clear bb hb2
    go_simp
    refine hK.out _ _ (Or.inr (hS.out)) (fun _ => ?_)
    clear hK K
    generalize w4.alloc (.cells #[.slice A5 x.length c5] 23) = w5 at HS2 HV2 HSRC hS hq1 hq2 |-
    have hq1' : w5.ownsRow w.heap.size 23 1 (.slice A1 acc.length c1) acc.length vs := hq1
    have HQ1 := hD hq1'
    have HQ2b := hD hq2
    clear hq1 hq2
    refine AnyT.ready (rs := [5]) (by kernel_rfl) (by simp) ?_
    refine AllT.cons rfl (fun K hK => ?_) AllT.nil
    refine step_append_at (c' := 1) w.heap.size HS2.out.rd.size cellQ (.tmp 21) (.tmp 24) rfl rfl (by kernel_rfl) HQ1.out (by kernel_rfl) HSRC.out (by intro u hu; simp at hu; subst hu; rfl) (by omega) (by omega) ?_
    intro A6 c6 w6 ho6 hg6
    have hbw : Below w.heap.size w5 w6 := (Below.refl _ _).grown hg6 HS2.out.rd.size (fun k hk => (HQ1.out.lt k hk).1)
    have hown : OwnO w w6 ⟨A0, c0, A6, c6, none, 0, none, 0⟩ ⟨reg, acc ++ [x], [], []⟩ := ⟨own_grown_t HS2.out.own.o0 HQ1.out (by decide) hg6, ⟨_, by rw [List.length_append]; exact ho6, (HQ2b.out.snoc HV2.out).grown HQ1.out hg6⟩, ownI_nil _ _, OwnP.nil _ _⟩
    have hres6 := HS2.out.res.apart_own HQ1.out (by decide) hg6
    have hblk6 := HS2.out.blk.apart_own HQ1.out (by decide) hg6
    have HFIN := hD (ObSt.put (i := 1) (u := .slice A6 (acc.length + 1) c6) (a' := ⟨A0, c0, A6, c6, none, 0, none, 0⟩) (o' := ⟨reg, acc ++ [x], [], []⟩) hres6 hblk6 hown (HS2.out.rd.belowW hbw HBL.out) hn1 HBL.out (by simp [objC]))
    have hb6 := hblk6
    unfold objC at hb6
    simp only at hb6
    obtain ⟨z0, z1, z2, z3, f0, f1, f2, f3⟩ := four hb6
    have hS : Hid (w6.cell? ⟨g, 1, none⟩ = some (.slice A1 acc.length c1)) := hD z1
    clear hbw hown hres6 hblk6 hb6 ho6 hg6
    refine hK.out _ _ (Or.inr (hS.out)) (fun _ => ?_)
    clear hK K
    refine AnyT.take (i := 6) (v := .pointer (some ⟨g, 1, none⟩)) rfl (by kernel_rfl) (by kernel_rfl) (by kernel_rfl) (by kernel_rfl) (fun _ _ _ h => h) (Or.inl ⟨by kernel_rfl, fun w _ => by go_simp⟩) hS.out ?_
    refine AnyT.ready (rs := [7]) (by kernel_rfl) (by simp) ?_
    refine AllT.cons rfl (fun K hK => ?_) AllT.nil
    go_simp
    refine hK.out _ _ (Or.inl rfl) (fun _ => ?_)
    clear hK K
    refine AnyT.done (by kernel_rfl) ?_ _
    go_wp2_with fail
    go_roundw
    case rel => exact ⟨j, A6, c6, acc ++ [x], sk, by simp; omega, by go_num, HFIN, HQ2⟩
    case measure => simp only [intOf]; omega
  | zero =>
    have hq8 : acc.length <= 8 := by omega
    have HQF : Hid (stQ s1 = (acc, sj)) := hD (by unfold stQ; rw [HE2.out, HE3.out, HQ.out]; simp [getQ])
    obtain ⟨ni, d2⟩ : ∃ x, Pk.numV sj 5 = x := ⟨_, rfl⟩
    obtain ⟨t2, d3⟩ : ∃ x, Pk.numS sj 5 = x := ⟨_, rfl⟩
    have D1 := hD (fun w h => refrnum_any w B b sj 5 h)
    rw [d2, d3] at D1
    have HD2 := hD d2
    have HD3 := hD d3
    have hni : ni <= 5 := by have := numV_le sj (m := 5) (by omega); omega
    clear d2 d3 HQ hj
    go_wp2_with (first
     | (go_at_call 37; refine (D1.out _ HST.out.rd.r).mono ?_; rintro en w2 ⟨rfl, hr, ho, hz⟩; have HST := hD (HST.out.call HBL.out hgb hr ho); clear hr ho hz D1)
     | fail)
    go_loopw [5, 7, 8] (fun s5 s7 s8 wr => ∃ (j : Nat) (A2 : Option Addr) (c2 : Nat) (lk : List Int) (sk : Pk.St), j + lk.length = ni /\ s7 = .int .i64 (j : Int) /\ s5 = .bool (decide lk.Nodup) /\ Hid (ObSt w wr B b g ⟨A0, c0, A1, c1, A2, c2, none, 0⟩ ⟨reg, acc, lk, []⟩ sk) /\ Hid (getI ni t2 = (lk ++ (getI j sk).1, (getI j sk).2))) (fun _ s7 _ _ => (intOf s7).toNat)
    case atStart => exact ⟨ni, none, 0, [], t2, by simp, rfl, by simp, HST, hD (by simp)⟩
    case round =>
     clear HST
     obtain ⟨j, A2, c2, lk, sk, hj, rfl, rfl, HST, HQ⟩ := hrel
     cases j with
     | succ j =>
       have hjp : (0 : Int) < ((j + 1 : Nat) : Int) := by omega
       have hjw : IntKind.i64.wrap (((j + 1 : Nat) : Int) - 1) = (j : Int) := by rw [show ((j + 1 : Nat) : Int) - 1 = (j : Int) by omega]; exact IntWalk.i64_in _ (by omega)
       obtain ⟨z, ez⟩ : ∃ y, Pk.numV sk 999 = y := ⟨_, rfl⟩
       obtain ⟨sl, el⟩ : ∃ y, Pk.numS sk 999 = y := ⟨_, rfl⟩
       have HQ2 : Hid (getI ni t2 = ((lk ++ [(z : Int)]) ++ (getI j sl).1, (getI j sl).2)) := hD (by rw [HQ.out]; simp only [getI, ez, el, List.append_assoc, List.singleton_append])
       have CB := hD (fun w h => refrnum_any w B b sk 999 h)
       rw [ez, el] at CB
       clear ez el HQ
       go_upto_region 11 with (first
        | (go_at_call 37; refine (CB.out _ HST.out.rd.r).mono ?_; rintro en w3 ⟨rfl, hr, ho, hz⟩; have HS1 := hD (HST.out.call HBL.out hgb hr ho); clear hr ho hz CB HST)
        | fail)
       have HND : Hid (decide (lk ++ [(z : Int)]).Nodup = (decide lk.Nodup && decide ((z : Int) ∉ lk))) := hD (by
        rw [Bool.eq_iff_iff, Bool.and_eq_true, decide_eq_true_iff, decide_eq_true_iff, decide_eq_true_iff, List.nodup_append]
        constructor
        · rintro ⟨h1, _, h3⟩
          exact ⟨h1, fun h => h3 _ h _ (by simp) rfl⟩
        · rintro ⟨h1, h2⟩
          exact ⟨h1, by simp, fun a ha b hb e => by simp at hb; subst hb; subst e; exact h2 ha⟩)
       have hb1 := HS1.out.blk
       unfold objC at hb1
       simp only at hb1
       obtain ⟨x0, x1, x2, x3, f0, f1, f2, f3⟩ := four hb1
       have HO2 := hD HS1.out.own.o2
       have CP := hD (place_any w3 (c := c2) (z : Int) (Rd.own_ HS1.out.own.o2) (show lk.length <= maxLen by unfold maxLen; omega))
       have HB1 := hD hb1
       clear hb1
       obtain ⟨okb, hokb⟩ : ∃ x, decide lk.Nodup = x := ⟨_, rfl⟩
       obtain ⟨okc, hokc⟩ : ∃ x, decide ((z : Int) ∉ lk) = x := ⟨_, rfl⟩
       rw [hokb, hokc] at HND
       rw [hokb]
       have HOC := hD hokc
       clear hokb hokc
       cases okb with
       | true =>
         by_cases hm : (z : Int) ∈ lk
         · have hoc : okc = false := by rw [<- HOC.out]; exact decide_eq_false (by simpa using hm)
           subst hoc
           obtain ⟨kk, ek, hk2, _⟩ := place_lt hm
           have hng : ¬ placeI lk (z : Int) < 0 := by omega
           clear hm ek hk2
           go_wp2_with (first
            | (go_at_call 120; refine CP.out.mono ?_; rintro en w4 ⟨rfl, rfl⟩)
            | (at_builtin
               have hsrc := Rd.oneAt w3 (.int .i64 (z : Int)) 3 (g := w3.heap.size) rfl
               have bb : Below w3.heap.size w3 (w3.alloc (.cells #[.int .i64 (z : Int)] 3)) := (Below.refl _ _).alloc lR _
               have hrow : (w3.alloc (.cells #[.int .i64 (z : Int)] 3)).ownsRow w.heap.size 3 1 (.slice A2 lk.length c2) lk.length (iv lk) := ownsRow_below HO2.out bb
               have hst := HS1.out.below HBL.out bb
               have hss := hst.rd.size
               refine wpList_append_at (w := w3.alloc (.cells #[.int .i64 (z : Int)] 3)) (c' := 1) w.heap.size hss cellI (.tmp 44) (.tmp 46) rfl (by rfl) rfl hrow rfl hsrc (by intro u hu; simp at hu; subst hu; rfl) (by omega) (by omega) ?_
               intro A6 c6 w6 ho6 hg6
               have hbw : Below w.heap.size (w3.alloc (.cells #[.int .i64 (z : Int)] 3)) w6 := (Below.refl _ _).grown hg6 hss (fun k hk => (hrow.lt k hk).1)
               have ho6' : OwnI w w6 A6 (lk.length + 1) c6 (lk ++ [(z : Int)]) := by unfold OwnI; rw [iv_snocO]; exact ho6
               have hown : OwnO w w6 ⟨A0, c0, A1, c1, A6, c6, none, 0⟩ ⟨reg, acc, lk ++ [(z : Int)], []⟩ := ⟨own_grown_t hst.own.o0 hrow (by decide) hg6, hst.own.o1.grownI hrow hg6, by rw [List.length_append]; exact ho6', OwnP.nil _ _⟩
               have hres6 := hst.res.apart_own hrow (by decide) hg6
               have hblk6 := hst.blk.apart_own hrow (by decide) hg6
               have HFIN := hD (ObSt.put (i := 2) (u := .slice A6 (lk.length + 1) c6) (a' := ⟨A0, c0, A1, c1, A6, c6, none, 0⟩) (o' := ⟨reg, acc, lk ++ [(z : Int)], []⟩) hres6 hblk6 hown (hst.rd.belowW hbw HBL.out) hn1 HBL.out (by simp [objC]))
               have hb6 := hblk6
               unfold objC at hb6
               simp only at hb6
               clear x0 x1 x2 x3 f0 f1 f2 f3
               obtain ⟨x0, x1, x2, x3, f0, f1, f2, f3⟩ := four hb6
               clear hsrc bb hrow hst hss hbw ho6' hown hres6 hblk6 hb6 ho6 hg6)
            | fail)
           go_roundw
           case rel => exact ⟨j, A6, c6, lk ++ [(z : Int)], sl, by simp; omega, by go_num, by rw [HND.out]; first | rfl | simp [hng], HFIN, HQ2⟩
           case measure => simp only [intOf]; omega
         · have hoc : okc = true := by rw [<- HOC.out]; exact decide_eq_true hm
           subst hoc
           have hng : placeI lk (z : Int) < 0 := by unfold placeI; rw [if_neg hm]; omega
           clear hm
           go_wp2_with (first
            | (go_at_call 120; refine CP.out.mono ?_; rintro en w4 ⟨rfl, rfl⟩)
            | (at_builtin
               have hsrc := Rd.oneAt w3 (.int .i64 (z : Int)) 3 (g := w3.heap.size) rfl
               have bb : Below w3.heap.size w3 (w3.alloc (.cells #[.int .i64 (z : Int)] 3)) := (Below.refl _ _).alloc lR _
               have hrow : (w3.alloc (.cells #[.int .i64 (z : Int)] 3)).ownsRow w.heap.size 3 1 (.slice A2 lk.length c2) lk.length (iv lk) := ownsRow_below HO2.out bb
               have hst := HS1.out.below HBL.out bb
               have hss := hst.rd.size
               refine wpList_append_at (w := w3.alloc (.cells #[.int .i64 (z : Int)] 3)) (c' := 1) w.heap.size hss cellI (.tmp 44) (.tmp 46) rfl (by rfl) rfl hrow rfl hsrc (by intro u hu; simp at hu; subst hu; rfl) (by omega) (by omega) ?_
               intro A6 c6 w6 ho6 hg6
               have hbw : Below w.heap.size (w3.alloc (.cells #[.int .i64 (z : Int)] 3)) w6 := (Below.refl _ _).grown hg6 hss (fun k hk => (hrow.lt k hk).1)
               have ho6' : OwnI w w6 A6 (lk.length + 1) c6 (lk ++ [(z : Int)]) := by unfold OwnI; rw [iv_snocO]; exact ho6
               have hown : OwnO w w6 ⟨A0, c0, A1, c1, A6, c6, none, 0⟩ ⟨reg, acc, lk ++ [(z : Int)], []⟩ := ⟨own_grown_t hst.own.o0 hrow (by decide) hg6, hst.own.o1.grownI hrow hg6, by rw [List.length_append]; exact ho6', OwnP.nil _ _⟩
               have hres6 := hst.res.apart_own hrow (by decide) hg6
               have hblk6 := hst.blk.apart_own hrow (by decide) hg6
               have HFIN := hD (ObSt.put (i := 2) (u := .slice A6 (lk.length + 1) c6) (a' := ⟨A0, c0, A1, c1, A6, c6, none, 0⟩) (o' := ⟨reg, acc, lk ++ [(z : Int)], []⟩) hres6 hblk6 hown (hst.rd.belowW hbw HBL.out) hn1 HBL.out (by simp [objC]))
               have hb6 := hblk6
               unfold objC at hb6
               simp only at hb6
               clear x0 x1 x2 x3 f0 f1 f2 f3
               obtain ⟨x0, x1, x2, x3, f0, f1, f2, f3⟩ := four hb6
               clear hsrc bb hrow hst hss hbw ho6' hown hres6 hblk6 hb6 ho6 hg6)
            | fail)
           go_roundw
           case rel => exact ⟨j, A6, c6, lk ++ [(z : Int)], sl, by simp; omega, by go_num, by rw [HND.out]; first | rfl | simp [hng], HFIN, HQ2⟩
           case measure => simp only [intOf]; omega
       | false =>
         go_wp2_with (first
          | (at_builtin
             have hsrc := Rd.oneAt w3 (.int .i64 (z : Int)) 3 (g := w3.heap.size) rfl
             have bb : Below w3.heap.size w3 (w3.alloc (.cells #[.int .i64 (z : Int)] 3)) := (Below.refl _ _).alloc lR _
             have hrow : (w3.alloc (.cells #[.int .i64 (z : Int)] 3)).ownsRow w.heap.size 3 1 (.slice A2 lk.length c2) lk.length (iv lk) := ownsRow_below HO2.out bb
             have hst := HS1.out.below HBL.out bb
             have hss := hst.rd.size
             refine wpList_append_at (w := w3.alloc (.cells #[.int .i64 (z : Int)] 3)) (c' := 1) w.heap.size hss cellI (.tmp 44) (.tmp 46) rfl (by rfl) rfl hrow rfl hsrc (by intro u hu; simp at hu; subst hu; rfl) (by omega) (by omega) ?_
             intro A6 c6 w6 ho6 hg6
             have hbw : Below w.heap.size (w3.alloc (.cells #[.int .i64 (z : Int)] 3)) w6 := (Below.refl _ _).grown hg6 hss (fun k hk => (hrow.lt k hk).1)
             have ho6' : OwnI w w6 A6 (lk.length + 1) c6 (lk ++ [(z : Int)]) := by unfold OwnI; rw [iv_snocO]; exact ho6
             have hown : OwnO w w6 ⟨A0, c0, A1, c1, A6, c6, none, 0⟩ ⟨reg, acc, lk ++ [(z : Int)], []⟩ := ⟨own_grown_t hst.own.o0 hrow (by decide) hg6, hst.own.o1.grownI hrow hg6, by rw [List.length_append]; exact ho6', OwnP.nil _ _⟩
             have hres6 := hst.res.apart_own hrow (by decide) hg6
             have hblk6 := hst.blk.apart_own hrow (by decide) hg6
             have HFIN := hD (ObSt.put (i := 2) (u := .slice A6 (lk.length + 1) c6) (a' := ⟨A0, c0, A1, c1, A6, c6, none, 0⟩) (o' := ⟨reg, acc, lk ++ [(z : Int)], []⟩) hres6 hblk6 hown (hst.rd.belowW hbw HBL.out) hn1 HBL.out (by simp [objC]))
             have hb6 := hblk6
             unfold objC at hb6
             simp only at hb6
             clear x0 x1 x2 x3 f0 f1 f2 f3
             obtain ⟨x0, x1, x2, x3, f0, f1, f2, f3⟩ := four hb6
             clear hsrc bb hrow hst hss hbw ho6' hown hres6 hblk6 hb6 ho6 hg6)
          | fail)
         go_roundw
         case rel => exact ⟨j, A6, c6, lk ++ [(z : Int)], sl, by simp; omega, by go_num, by rw [HND.out]; simp, HFIN, HQ2⟩
         case measure => simp only [intOf]; omega
     | zero =>
       have hl5 : lk.length <= 5 := by omega
       have HIF : Hid (stI sj = (lk, sk)) := hD (by unfold stI; rw [HD2.out, HD3.out, HQ.out]; simp [getI])
       obtain ⟨np, d4⟩ : ∃ x, Pk.numV sk 8 = x := ⟨_, rfl⟩
       obtain ⟨t3, d5⟩ : ∃ x, Pk.numS sk 8 = x := ⟨_, rfl⟩
       have D2 := hD (fun w h => refrnum_any w B b sk 8 h)
       rw [d4, d5] at D2
       have HD4 := hD d4
       have HD5 := hD d5
       have hnp : np <= 8 := by have := numV_le sk (m := 8) (by omega); omega
       obtain ⟨nd, hnd⟩ : ∃ x, decide lk.Nodup = x := ⟨_, rfl⟩
       have HND := hD hnd
       rw [hnd]
       clear d4 d5 HQ hj hnd
       go_wp2_with (first
        | (go_at_call 37; refine (D2.out _ HST.out.rd.r).mono ?_; rintro en w2 ⟨rfl, hr, ho, hz⟩; have HST := hD (HST.out.call HBL.out hgb hr ho); clear hr ho hz D2)
        | fail)
       go_loopw [5, 9, 10] (fun s5 s9 s10 wr => ∃ (j : Nat) (A3 : Option Addr) (c3 : Nat) (ps : List Pr) (sl : Pk.St), j + ps.length = np /\ s9 = .int .i64 (j : Int) /\ s5 = .bool (nd && okP ps) /\ Hid (∀ p ∈ ps, ∀ x ∈ p.1, x < 256) /\ Hid (BytesSt sl) /\ Hid (ObSt w wr B b g ⟨A0, c0, A1, c1, A2, c2, A3, c3⟩ ⟨reg, acc, lk, ps⟩ sl) /\ Hid (getP np t3 = (ps ++ (getP j sl).1, (getP j sl).2))) (fun _ s9 _ _ => (intOf s9).toNat)
       case atStart => exact ⟨np, none, 0, [], t3, by simp, rfl, by simp [okP, chainB], hD (fun p hp => by cases hp), hD (by
        have h1 := (bytV_facts hbs (m := 16) (by omega)).2.2
        rw [HE1.out] at h1
        have h2 := (getQ_facts (Pk.numV s1 8) (numS_bytes h1 8)).2.2
        have h3 : BytesSt sj := by have := HQF.out; unfold stQ at this; rw [this] at h2; exact h2
        have h4 := (getI_facts (Pk.numV sj 5) (numS_bytes h3 5)).2.2
        have h5 : BytesSt sk := by have := HIF.out; unfold stI at this; rw [this] at h4; exact h4
        have h6 := numS_bytes h5 8
        rwa [HD5.out] at h6), HST, hD (by simp)⟩
       case round =>
        clear HST
        obtain ⟨j, A3, c3, ps, sl, hj, rfl, rfl, HBY, HBS, HST, HQ⟩ := hrel
        cases j with
        | succ j =>
          have hjp : (0 : Int) < ((j + 1 : Nat) : Int) := by omega
          have hjw : IntKind.i64.wrap (((j + 1 : Nat) : Int) - 1) = (j : Int) := by rw [show ((j + 1 : Nat) : Int) - 1 = (j : Int) by omega]; exact IntWalk.i64_in _ (by omega)
          obtain ⟨k, ek⟩ : ∃ y, Pk.bytV sl 8 = y := ⟨_, rfl⟩
          obtain ⟨sm, em⟩ : ∃ y, Pk.bytS sl 8 = y := ⟨_, rfl⟩
          obtain ⟨v, ev⟩ : ∃ y, Pk.bytV sm 16 = y := ⟨_, rfl⟩
          obtain ⟨sn, en_⟩ : ∃ y, Pk.bytS sm 16 = y := ⟨_, rfl⟩
          have HQ2 : Hid (getP np t3 = ((ps ++ [(k, v)]) ++ (getP j sn).1, (getP j sn).2)) := hD (by rw [HQ.out]; simp only [getP, getP1, ek, em, ev, en_, List.append_assoc, List.singleton_append])
          have HKB : Hid ((∀ x ∈ k, x < 256) /\ BytesSt sn) := hD (by
           have h1 := bytV_facts HBS.out (m := 8) (by omega)
           rw [ek, em] at h1
           have h2 := bytV_facts h1.2.2 (m := 16) (by omega)
           rw [ev, en_] at h2
           exact ⟨h1.2.1, h2.2.2⟩)
          have CB := hD (fun w h => refrbytes_any w B b sl 8 h)
          have CC := hD (fun w h => refrbytes_any w B b sm 16 h)
          rw [ek, em] at CB
          rw [ev, en_] at CC
          clear ek em ev en_ HQ HBS
          go_upto_region 17 with (first
           | (go_at_call 39; refine (CB.out _ HST.out.rd.r).mono ?_; rintro en w3 ⟨A5, m5, c5, rfl, hv, hr, ho⟩; obtain rfl := own_len hv; have hv := own_of HST.out.rd.size hv; have HS1 := hD (HST.out.call HBL.out hgb hr ho); have HV1 := hD hv; clear hv hr ho CB HST)
           | (go_at_call 39; refine (CC.out _ HS1.out.rd.r).mono ?_; rintro en w4 ⟨A6, m6, c6, rfl, hv, hr, ho⟩; obtain rfl := own_len hv; have hv := own_of HS1.out.rd.size hv
              have bb : Below w4.heap.size w4 (w4.alloc (.cells #[.slice A5 k.length c5, .slice A6 v.length c6] 74)) := (Below.refl _ _).alloc lR _
              have HS2 := hD ((HS1.out.call HBL.out hgb hr ho).below HBL.out bb)
              have HV1 := hD (own_below (own_read HV1.out ho HBL.out) bb)
              have HV2 := hD (own_below hv bb)
              have HKP := hD (Blk.new w4 74 #[.slice A5 k.length c5, .slice A6 v.length c6])
              have hgl := HS1.out.blk.lt
              have hgx := ho.size
              clear hv hr ho CC bb HS1)
           | fail)
          generalize w4.alloc (.cells #[.slice A5 k.length c5, .slice A6 v.length c6] 74) = w5 at HS2 HV1 HV2 HKP |-
          obtain ⟨h4, hh4⟩ : ∃ h4, w4.heap.size = h4 := ⟨_, rfl⟩
          rw [hh4] at HKP hgx |-
          have HOKS : Hid (okP (ps ++ [(k, v)]) = (okP ps && (match ps.getLast? with | none => true | some q => Mp.ltB q.1 k))) := hD (by unfold okP; rw [chainB_snoc]; cases ps.getLast? <;> rfl)
          obtain ⟨f0, hf0⟩ : ∃ x, (nd && okP ps) = x := ⟨_, rfl⟩
          have HF0 := hD hf0
          rw [hf0]
          clear hf0
          cases f0 with
          | false =>
            have hb2 := HS2.out.blk
            unfold objC at hb2
            simp only at hb2
            have hbd : Below w5.heap.size w5 w5.drew := (Below.refl _ _).drew
            have HS : Hid ((fun w' => Blk w' g 28 #[.slice A0 reg.length c0, .slice A1 acc.length c1, .slice A2 lk.length c2, .slice A3 ps.length c3] /\ Blk w' h4 74 #[.slice A5 k.length c5, .slice A6 v.length c6]) w5.drew) := hD ⟨hb2.below hbd, HKP.out.below hbd⟩
            have HS3 := hD (HS2.out.below HBL.out hbd)
            have HV3 := hD (own_below HV1.out hbd)
            have HV4 := hD (own_below HV2.out hbd)
            refine wp_region_held_drew (S := fun w' => Blk w' g 28 #[.slice A0 reg.length c0, .slice A1 acc.length c1, .slice A2 lk.length c2, .slice A3 ps.length c3] /\ Blk w' h4 74 #[.slice A5 k.length c5, .slice A6 v.length c6]) (by kernel_rfl) HS.out (fun _ => ?_)
            clear hbd hb2
            generalize w5.drew = w6 at HS HS3 HV3 HV4 |-
            refine tkL (i := 0) (v := .bool false) rfl (fun w _ => by go_simp) HS.out ?_
            refine rdH (rs := [1]) ?_
            refine AllReadyH.cons rfl (fun K hK => ?_) AllReadyH.nil
            go_simp
            refine hK.out _ _ HS.out (fun _ => ?_)
            clear hK K
            refine tkR (i := 2) rfl HS.out ?_
            refine tkR (i := 3) rfl HS.out ?_
            refine tkR (i := 4) rfl HS.out ?_
            refine tkR (i := 5) rfl HS.out ?_
            refine tkR (i := 6) rfl HS.out ?_
            refine tkR (i := 7) rfl HS.out ?_
            refine tkR (i := 8) rfl HS.out ?_
            refine tkR (i := 9) rfl HS.out ?_
            refine tkR (i := 10) rfl HS.out ?_
            refine tkR (i := 11) rfl HS.out ?_
            refine tkR (i := 12) rfl HS.out ?_
            refine tkR (i := 13) rfl HS.out ?_
            refine tkR (i := 14) rfl HS.out ?_
            refine tkR (i := 15) rfl HS.out ?_
            refine tkR (i := 16) rfl HS.out ?_
            refine tkR (i := 17) rfl HS.out ?_
            refine tkR (i := 18) rfl HS.out ?_
            refine tkR (i := 19) rfl HS.out ?_
            refine tkR (i := 20) rfl HS.out ?_
            refine tkR (i := 21) rfl HS.out ?_
            refine rdH (rs := [22]) ?_
            refine AllReadyH.cons rfl (fun K hK => ?_) AllReadyH.nil
            go_simp
            refine hK.out _ _ HS.out (fun _ => ?_)
            clear hK K
            refine rdH (rs := [23]) ?_
            refine AllReadyH.cons rfl (fun K hK => ?_) AllReadyH.nil
            go_simp
            refine hK.out _ _ HS.out (fun _ => ?_)
            clear hK K
            refine wpAnyH_done (by kernel_rfl) ?_ _
            obtain ⟨x0, x1, x2, x3, _⟩ := four HS.out.1
            have y0 : w6.cell? ⟨h4, 0, none⟩ = some (.slice A5 k.length c5) := HS.out.2.cell 0
            have y1 : w6.cell? ⟨h4, 1, none⟩ = some (.slice A6 v.length c6) := HS.out.2.cell 1
            go_wp2_with (first
             | (at_builtin
                have hsrc := Rd.twoAt w6 (.slice A5 k.length c5) (.slice A6 v.length c6) 74 (g := w6.heap.size) rfl
                have bb : Below w6.heap.size w6 (w6.alloc (.cells #[.slice A5 k.length c5, .slice A6 v.length c6] 74)) := (Below.refl _ _).alloc lR _
                have hst := HS3.out.below HBL.out bb
                obtain ⟨vs, hq1, hq2⟩ := hst.own.o3
                have hrow : (w6.alloc (.cells #[.slice A5 k.length c5, .slice A6 v.length c6] 74)).ownsRow w.heap.size 74 2 (.slice A3 ps.length c3) ps.length vs := hq1
                have hss := hst.rd.size
                refine wpList_append_atS (w := w6.alloc (.cells #[.slice A5 k.length c5, .slice A6 v.length c6] 74)) (c' := 1) w.heap.size hss cellP (.tmp 84) (.tmp 86) rfl (by rfl) rfl hrow rfl hsrc (by intro u hu; simp at hu; rcases hu with rfl | rfl <;> rfl) (by omega) (by omega) ?_
                intro A7 c7 w7 ho7 hg7
                have hbw : Below w.heap.size (w6.alloc (.cells #[.slice A5 k.length c5, .slice A6 v.length c6] 74)) w7 := (Below.refl _ _).grown hg7 hss (fun k hk => (hrow.lt k hk).1)
                have hown : OwnO w w7 ⟨A0, c0, A1, c1, A2, c2, A7, c7⟩ ⟨reg, acc, lk, ps ++ [(k, v)]⟩ := ⟨own_grown_t hst.own.o0 hrow (by decide) hg7, by obtain ⟨us, r1, r2⟩ := hst.own.o1; exact ⟨us, own_grown_t r1 hrow (by decide) hg7, r2.grownP hrow hg7⟩, own_grown_t hst.own.o2 hrow (by decide) hg7, ⟨_, by rw [List.length_append]; exact ho7, by rw [flat_append]; exact (hq2.two (own_below HV3.out bb) (own_below HV4.out bb)).grownP hrow hg7⟩⟩
                have hres7 := hst.res.apart_own hrow (by decide) hg7
                have hblk7 := hst.blk.apart_own hrow (by decide) hg7
                have HFIN := hD (ObSt.put (i := 3) (u := .slice A7 (ps.length + 1) c7) (a' := ⟨A0, c0, A1, c1, A2, c2, A7, c7⟩) (o' := ⟨reg, acc, lk, ps ++ [(k, v)]⟩) hres7 hblk7 hown (hst.rd.belowW hbw HBL.out) hn1 HBL.out (by simp [objC]))
                have hb7 := hblk7
                unfold objC at hb7
                simp only at hb7
                clear x0 x1 x2 x3 y0 y1
                obtain ⟨x0, x1, x2, x3, f0, f1, f2, f3⟩ := four hb7
                clear hsrc bb hq1 hq2 hrow hst hss hbw hown hres7 hblk7 hb7 ho7 hg7)
             | fail)
            go_roundw
            case rel => exact ⟨j, A7, c7, ps ++ [(k, v)], sn, by simp; omega, by go_num, congrArg Value.bool (by rw [HOKS.out]; have h := HF0.out; revert h; cases nd <;> cases okP ps <;> simp), hD (fun p hp => by
             rcases List.mem_append.1 hp with h | h
             · exact HBY.out p h
             · have e : p = (k, v) := by simpa using h
               rw [e]; exact HKB.out.1), hD HKB.out.2, HFIN, HQ2⟩
            case measure => simp only [intOf]; omega
          | true =>
            by_cases hps : ps.length = 0
            · have hpi : ((ps.length : Int) == 0) = true := by simpa using hps
              have HGL : Hid (ps.getLast? = none) := hD (by rw [List.length_eq_zero_iff.1 hps]; rfl)
              clear hps
              have hb2 := HS2.out.blk
              unfold objC at hb2
              simp only at hb2
              have hbd : Below w5.heap.size w5 w5.drew := (Below.refl _ _).drew
              have HS : Hid ((fun w' => Blk w' g 28 #[.slice A0 reg.length c0, .slice A1 acc.length c1, .slice A2 lk.length c2, .slice A3 ps.length c3] /\ Blk w' h4 74 #[.slice A5 k.length c5, .slice A6 v.length c6]) w5.drew) := hD ⟨hb2.below hbd, HKP.out.below hbd⟩
              have HS3 := hD (HS2.out.below HBL.out hbd)
              have HV3 := hD (own_below HV1.out hbd)
              have HV4 := hD (own_below HV2.out hbd)
              refine wp_region_held_drew (S := fun w' => Blk w' g 28 #[.slice A0 reg.length c0, .slice A1 acc.length c1, .slice A2 lk.length c2, .slice A3 ps.length c3] /\ Blk w' h4 74 #[.slice A5 k.length c5, .slice A6 v.length c6]) (by kernel_rfl) HS.out (fun _ => ?_)
              clear hbd hb2
              generalize w5.drew = w6 at HS HS3 HV3 HV4 |-
              refine tkL (i := 0) (v := .bool true) rfl (fun w _ => by go_simp) HS.out ?_
              refine tkL (i := 1) (v := .bool true) rfl (fun w _ => by go_simp) HS.out ?_
              refine tkL (i := 2) (v := .pointer (some ⟨g, 3, none⟩)) rfl (fun w _ => by go_simp) HS.out ?_
              refine tkL (i := 3) (v := .slice A3 ps.length c3) rfl (fun w h => by obtain ⟨q0, q1, q2, q3, _⟩ := four h.1; go_simp) HS.out ?_
              refine tkL (i := 4) (v := .int .i64 (ps.length : Int)) rfl (fun w _ => by go_simp) HS.out ?_
              refine tkL (i := 5) (v := .bool true) rfl (fun w _ => by go_simp) HS.out ?_
              refine rdH (rs := [6]) ?_
              refine AllReadyH.cons rfl (fun K hK => ?_) AllReadyH.nil
              go_simp
              refine hK.out _ _ HS.out (fun _ => ?_)
              clear hK K
              refine tkR (i := 7) rfl HS.out ?_
              refine tkR (i := 8) rfl HS.out ?_
              refine tkR (i := 9) rfl HS.out ?_
              refine tkR (i := 10) rfl HS.out ?_
              refine tkR (i := 11) rfl HS.out ?_
              refine tkR (i := 12) rfl HS.out ?_
              refine tkR (i := 13) rfl HS.out ?_
              refine tkR (i := 14) rfl HS.out ?_
              refine tkR (i := 15) rfl HS.out ?_
              refine tkR (i := 16) rfl HS.out ?_
              refine tkR (i := 17) rfl HS.out ?_
              refine tkR (i := 18) rfl HS.out ?_
              refine tkR (i := 19) rfl HS.out ?_
              refine tkR (i := 20) rfl HS.out ?_
              refine rdH (rs := [21]) ?_
              refine AllReadyH.cons rfl (fun K hK => ?_) AllReadyH.nil
              go_simp
              refine hK.out _ _ HS.out (fun _ => ?_)
              clear hK K
              refine rdH (rs := [22]) ?_
              refine AllReadyH.cons rfl (fun K hK => ?_) AllReadyH.nil
              go_simp
              refine hK.out _ _ HS.out (fun _ => ?_)
              clear hK K
              refine rdH (rs := [23]) ?_
              refine AllReadyH.cons rfl (fun K hK => ?_) AllReadyH.nil
              go_simp
              refine hK.out _ _ HS.out (fun _ => ?_)
              clear hK K
              refine wpAnyH_done (by kernel_rfl) ?_ _
              obtain ⟨x0, x1, x2, x3, _⟩ := four HS.out.1
              have y0 : w6.cell? ⟨h4, 0, none⟩ = some (.slice A5 k.length c5) := HS.out.2.cell 0
              have y1 : w6.cell? ⟨h4, 1, none⟩ = some (.slice A6 v.length c6) := HS.out.2.cell 1
              go_wp2_with (first
               | (at_builtin
                  have hsrc := Rd.twoAt w6 (.slice A5 k.length c5) (.slice A6 v.length c6) 74 (g := w6.heap.size) rfl
                  have bb : Below w6.heap.size w6 (w6.alloc (.cells #[.slice A5 k.length c5, .slice A6 v.length c6] 74)) := (Below.refl _ _).alloc lR _
                  have hst := HS3.out.below HBL.out bb
                  obtain ⟨vs, hq1, hq2⟩ := hst.own.o3
                  have hrow : (w6.alloc (.cells #[.slice A5 k.length c5, .slice A6 v.length c6] 74)).ownsRow w.heap.size 74 2 (.slice A3 ps.length c3) ps.length vs := hq1
                  have hss := hst.rd.size
                  refine wpList_append_atS (w := w6.alloc (.cells #[.slice A5 k.length c5, .slice A6 v.length c6] 74)) (c' := 1) w.heap.size hss cellP (.tmp 84) (.tmp 86) rfl (by rfl) rfl hrow rfl hsrc (by intro u hu; simp at hu; rcases hu with rfl | rfl <;> rfl) (by omega) (by omega) ?_
                  intro A7 c7 w7 ho7 hg7
                  have hbw : Below w.heap.size (w6.alloc (.cells #[.slice A5 k.length c5, .slice A6 v.length c6] 74)) w7 := (Below.refl _ _).grown hg7 hss (fun k hk => (hrow.lt k hk).1)
                  have hown : OwnO w w7 ⟨A0, c0, A1, c1, A2, c2, A7, c7⟩ ⟨reg, acc, lk, ps ++ [(k, v)]⟩ := ⟨own_grown_t hst.own.o0 hrow (by decide) hg7, by obtain ⟨us, r1, r2⟩ := hst.own.o1; exact ⟨us, own_grown_t r1 hrow (by decide) hg7, r2.grownP hrow hg7⟩, own_grown_t hst.own.o2 hrow (by decide) hg7, ⟨_, by rw [List.length_append]; exact ho7, by rw [flat_append]; exact (hq2.two (own_below HV3.out bb) (own_below HV4.out bb)).grownP hrow hg7⟩⟩
                  have hres7 := hst.res.apart_own hrow (by decide) hg7
                  have hblk7 := hst.blk.apart_own hrow (by decide) hg7
                  have HFIN := hD (ObSt.put (i := 3) (u := .slice A7 (ps.length + 1) c7) (a' := ⟨A0, c0, A1, c1, A2, c2, A7, c7⟩) (o' := ⟨reg, acc, lk, ps ++ [(k, v)]⟩) hres7 hblk7 hown (hst.rd.belowW hbw HBL.out) hn1 HBL.out (by simp [objC]))
                  have hb7 := hblk7
                  unfold objC at hb7
                  simp only at hb7
                  clear x0 x1 x2 x3 y0 y1
                  obtain ⟨x0, x1, x2, x3, f0, f1, f2, f3⟩ := four hb7
                  clear hsrc bb hq1 hq2 hrow hst hss hbw hown hres7 hblk7 hb7 ho7 hg7)
               | fail)
              go_roundw
              case rel => exact ⟨j, A7, c7, ps ++ [(k, v)], sn, by simp; omega, by go_num, congrArg Value.bool (by rw [HOKS.out, HGL.out]; have h := HF0.out; revert h; cases nd <;> cases okP ps <;> simp), hD (fun p hp => by
               rcases List.mem_append.1 hp with h | h
               · exact HBY.out p h
               · have e : p = (k, v) := by simpa using h
                 rw [e]; exact HKB.out.1), hD HKB.out.2, HFIN, HQ2⟩
              case measure => simp only [intOf]; omega
            · obtain ⟨m, hm⟩ : ∃ m, ps.length = m + 1 := ⟨ps.length - 1, by omega⟩
              obtain ⟨b3, o3, pl, A8, c8, A9, c9, hA, hpl, hcl1, _, hrd1, _⟩ := HS2.out.own.o3.rd.at (k := m) (show m < ps.length by omega)
              have hA : A3 = some ⟨b3, o3, none⟩ := hA
              subst hA
              have hpl : ps[m]? = some pl := hpl
              have HGL : Hid (ps.getLast? = some pl) := hD (by rw [List.getLast?_eq_getElem?, hm]; exact hpl)
              have hpi : ((ps.length : Int) == 0) = false := by rw [hm]; simp; omega
              have hsub : IntKind.i64.wrap ((ps.length : Int) - 1) = (m : Int) := by rw [hm, show ((m + 1 : Nat) : Int) - 1 = (m : Int) by omega]; exact IntWalk.i64_in _ (by omega)
              have hml : (m : Int) < (ps.length : Int) := by omega
              have hm0 : (0 : Int) <= (m : Int) := by omega
              have hpb := HBY.out pl (List.mem_of_getElem? hpl)
              obtain ⟨L, hL⟩ : ∃ L, Mp.ltB pl.1 k = L := ⟨_, rfl⟩
              have hbl2 := bytesLess_strB hpb HKB.out.1
              rw [hL] at hbl2
              have HLL := hD hL
              have hb2 := HS2.out.blk
              unfold objC at hb2
              simp only at hb2
              have hbd : Below w5.heap.size w5 w5.drew := (Below.refl _ _).drew
              have HS : Hid ((fun w' => Blk w' g 28 #[.slice A0 reg.length c0, .slice A1 acc.length c1, .slice A2 lk.length c2, .slice (some ⟨b3, o3, none⟩) ps.length c3] /\ Blk w' h4 74 #[.slice A5 k.length c5, .slice A6 v.length c6] /\ w'.cell? ⟨b3, o3 + m * 2, none⟩ = some (.slice A8 pl.1.length c8) /\ Rd w' w5.heap.size A8 pl.1.length (bv pl.1) /\ Rd w' w5.heap.size A5 k.length (bv k)) w5.drew) := hD ⟨hb2.below hbd, HKP.out.below hbd, (hbd.cell (p := ⟨b3, o3 + m * 2, none⟩) (World.block_lt_of_cell? _ _ hcl1)).trans hcl1, hrd1.fit.below hbd, (Rd.own_ HV1.out).below hbd⟩
              have HS3 := hD (HS2.out.below HBL.out hbd)
              have HV3 := hD (own_below HV1.out hbd)
              have HV4 := hD (own_below HV2.out hbd)
              refine wp_region_held_drew (S := fun w' => Blk w' g 28 #[.slice A0 reg.length c0, .slice A1 acc.length c1, .slice A2 lk.length c2, .slice (some ⟨b3, o3, none⟩) ps.length c3] /\ Blk w' h4 74 #[.slice A5 k.length c5, .slice A6 v.length c6] /\ w'.cell? ⟨b3, o3 + m * 2, none⟩ = some (.slice A8 pl.1.length c8) /\ Rd w' w5.heap.size A8 pl.1.length (bv pl.1) /\ Rd w' w5.heap.size A5 k.length (bv k)) (by kernel_rfl) HS.out (fun _ => ?_)
              clear hbd hb2 hps hpl hcl1 hrd1 hpb hL hm
              generalize w5.drew = w6 at HS HS3 HV3 HV4 |-
              refine tkL (i := 0) (v := .bool true) rfl (fun w _ => by go_simp) HS.out ?_
              refine tkL (i := 1) (v := .bool true) rfl (fun w _ => by go_simp) HS.out ?_
              refine tkL (i := 2) (v := .pointer (some ⟨g, 3, none⟩)) rfl (fun w _ => by go_simp) HS.out ?_
              refine tkL (i := 3) (v := .slice (some ⟨b3, o3, none⟩) ps.length c3) rfl (fun w h => by obtain ⟨q0, q1, q2, q3, _⟩ := four h.1; go_simp) HS.out ?_
              refine tkL (i := 4) (v := .int .i64 (ps.length : Int)) rfl (fun w _ => by go_simp) HS.out ?_
              refine tkL (i := 5) (v := .bool false) rfl (fun w _ => by go_simp) HS.out ?_
              refine rdH (rs := [6]) ?_
              refine AllReadyH.cons rfl (fun K hK => ?_) AllReadyH.nil
              go_simp
              refine hK.out _ _ HS.out (fun _ => ?_)
              clear hK K
              refine tkL (i := 7) (v := .pointer (some ⟨g, 3, none⟩)) rfl (fun w _ => by go_simp) HS.out ?_
              refine tkL (i := 9) (v := .pointer (some ⟨g, 3, none⟩)) rfl (fun w _ => by go_simp) HS.out ?_
              refine tkL (i := 8) (v := .slice (some ⟨b3, o3, none⟩) ps.length c3) rfl (fun w h => by obtain ⟨q0, q1, q2, q3, _⟩ := four h.1; go_simp) HS.out ?_
              refine tkL (i := 10) (v := .slice (some ⟨b3, o3, none⟩) ps.length c3) rfl (fun w h => by obtain ⟨q0, q1, q2, q3, _⟩ := four h.1; go_simp) HS.out ?_
              refine tkL (i := 11) (v := .int .i64 (ps.length : Int)) rfl (fun w _ => by go_simp) HS.out ?_
              refine tkL (i := 12) (v := .int .i64 (m : Int)) rfl (fun w _ => by go_simp) HS.out ?_
              refine tkL (i := 13) (v := .pointer (some ⟨b3, o3 + m * 2, none⟩)) rfl (fun w _ => by go_simp) HS.out ?_
              refine tkL (i := 14) (v := .pointer (some ⟨b3, o3 + m * 2, none⟩)) rfl (fun w _ => by go_simp) HS.out ?_
              refine tkL (i := 15) (v := .slice A8 pl.1.length c8) rfl (fun w h => by have q := h.2.2.1; go_simp) HS.out ?_
              refine tkL (i := 17) (v := .pointer (some ⟨h4, 0, none⟩)) rfl (fun w _ => by go_simp) HS.out ?_
              refine tkL (i := 18) (v := .slice A5 k.length c5) rfl (fun w h => by have q := h.2.1.cell 0; have q0 : w.cell? ⟨h4, 0, none⟩ = some (.slice A5 k.length c5) := q; go_simp) HS.out ?_
              refine tkL (i := 16) (v := .string (strB pl.1)) rfl (fun w h => by have q := str_of (c := c8) h.2.2.2.1; go_simp) HS.out ?_
              refine tkL (i := 19) (v := .string (strB k)) rfl (fun w h => by have q := str_of (c := c5) h.2.2.2.2; go_simp) HS.out ?_
              refine rdH (rs := [20]) ?_
              refine AllReadyH.cons rfl (fun K hK => ?_) AllReadyH.nil
              go_simp
              refine hK.out _ _ HS.out (fun _ => ?_)
              clear hK K
              refine tkL (i := 21) (v := .bool L) rfl (fun w _ => by go_simp) HS.out ?_
              refine tkL (i := 22) (v := .bool L) rfl (fun w _ => by go_simp) HS.out ?_
              refine rdH (rs := [23]) ?_
              refine AllReadyH.cons rfl (fun K hK => ?_) AllReadyH.nil
              go_simp
              refine hK.out _ _ HS.out (fun _ => ?_)
              clear hK K
              refine wpAnyH_done (by kernel_rfl) ?_ _
              obtain ⟨x0, x1, x2, x3, _⟩ := four HS.out.1
              have y0 : w6.cell? ⟨h4, 0, none⟩ = some (.slice A5 k.length c5) := HS.out.2.1.cell 0
              have y1 : w6.cell? ⟨h4, 1, none⟩ = some (.slice A6 v.length c6) := HS.out.2.1.cell 1
              go_wp2_with (first
               | (at_builtin
                  have hsrc := Rd.twoAt w6 (.slice A5 k.length c5) (.slice A6 v.length c6) 74 (g := w6.heap.size) rfl
                  have bb : Below w6.heap.size w6 (w6.alloc (.cells #[.slice A5 k.length c5, .slice A6 v.length c6] 74)) := (Below.refl _ _).alloc lR _
                  have hst := HS3.out.below HBL.out bb
                  obtain ⟨vs, hq1, hq2⟩ := hst.own.o3
                  have hrow : (w6.alloc (.cells #[.slice A5 k.length c5, .slice A6 v.length c6] 74)).ownsRow w.heap.size 74 2 (.slice (some ⟨b3, o3, none⟩) ps.length c3) ps.length vs := hq1
                  have hss := hst.rd.size
                  refine wpList_append_atS (w := w6.alloc (.cells #[.slice A5 k.length c5, .slice A6 v.length c6] 74)) (c' := 1) w.heap.size hss cellP (.tmp 84) (.tmp 86) rfl (by rfl) rfl hrow rfl hsrc (by intro u hu; simp at hu; rcases hu with rfl | rfl <;> rfl) (by omega) (by omega) ?_
                  intro A7 c7 w7 ho7 hg7
                  have hbw : Below w.heap.size (w6.alloc (.cells #[.slice A5 k.length c5, .slice A6 v.length c6] 74)) w7 := (Below.refl _ _).grown hg7 hss (fun k hk => (hrow.lt k hk).1)
                  have hown : OwnO w w7 ⟨A0, c0, A1, c1, A2, c2, A7, c7⟩ ⟨reg, acc, lk, ps ++ [(k, v)]⟩ := ⟨own_grown_t hst.own.o0 hrow (by decide) hg7, by obtain ⟨us, r1, r2⟩ := hst.own.o1; exact ⟨us, own_grown_t r1 hrow (by decide) hg7, r2.grownP hrow hg7⟩, own_grown_t hst.own.o2 hrow (by decide) hg7, ⟨_, by rw [List.length_append]; exact ho7, by rw [flat_append]; exact (hq2.two (own_below HV3.out bb) (own_below HV4.out bb)).grownP hrow hg7⟩⟩
                  have hres7 := hst.res.apart_own hrow (by decide) hg7
                  have hblk7 := hst.blk.apart_own hrow (by decide) hg7
                  have HFIN := hD (ObSt.put (i := 3) (u := .slice A7 (ps.length + 1) c7) (a' := ⟨A0, c0, A1, c1, A2, c2, A7, c7⟩) (o' := ⟨reg, acc, lk, ps ++ [(k, v)]⟩) hres7 hblk7 hown (hst.rd.belowW hbw HBL.out) hn1 HBL.out (by simp [objC]))
                  have hb7 := hblk7
                  unfold objC at hb7
                  simp only at hb7
                  clear x0 x1 x2 x3 y0 y1
                  obtain ⟨x0, x1, x2, x3, f0, f1, f2, f3⟩ := four hb7
                  clear hsrc bb hq1 hq2 hrow hst hss hbw hown hres7 hblk7 hb7 ho7 hg7)
               | fail)
              go_roundw
              case rel => exact ⟨j, A7, c7, ps ++ [(k, v)], sn, by simp; omega, by go_num, congrArg Value.bool (by rw [HOKS.out, HGL.out]; have h := HF0.out; simp only [HLL.out]; revert h; cases nd <;> cases okP ps <;> simp), hD (fun p hp => by
               rcases List.mem_append.1 hp with h | h
               · exact HBY.out p h
               · have e : p = (k, v) := by simpa using h
                 rw [e]; exact HKB.out.1), hD HKB.out.2, HFIN, HQ2⟩
              case measure => simp only [intOf]; omega
        | zero =>
          have HPF : Hid (R = (⟨reg, acc, lk, ps⟩, sl)) := hD (by
           rw [<- HRR.out]
           unfold getO
           rw [HE0.out, HE1.out, HQF.out]
           simp only
           rw [HIF.out]
           unfold stP
           simp only
           rw [HD4.out, HD5.out, HQ.out]
           simp [getP])
          obtain ⟨okf, hokf⟩ : ∃ x, (nd && okP ps) = x := ⟨_, rfl⟩
          have HOKF := hD hokf
          rw [hokf]
          clear hokf
          have hb2 := HST.out.blk
          unfold objC at hb2
          simp only at hb2
          obtain ⟨y0, y1, y2, y3, _⟩ := four hb2
          clear hb2
          have r0 := HST.out.res
          have r1 := r0.set_ 0 (.slice A0 reg.length c0)
          have r2 := r1.set_ 1 (.slice A1 acc.length c1)
          have r3 := r2.set_ 2 (.slice A2 lk.length c2)
          have r4 := r3.set_ 3 (.slice A3 ps.length c3)
          have ho4 := (((HST.out.own.set_t r0 (i := 0) (u := .slice A0 reg.length c0) (by decide) (by decide) (by decide) (by decide)).set_t r1 (i := 1) (u := .slice A1 acc.length c1) (by decide) (by decide) (by decide) (by decide)).set_t r2 (i := 2) (u := .slice A2 lk.length c2) (by decide) (by decide) (by decide) (by decide)).set_t r3 (i := 3) (u := .slice A3 ps.length c3) (by decide) (by decide) (by decide) (by decide)
          have hr4 := (((HST.out.rd.set (i := 0) (u := .slice A0 reg.length c0) HBL.out lR).set (i := 1) (u := .slice A1 acc.length c1) HBL.out lR).set (i := 2) (u := .slice A2 lk.length c2) HBL.out lR).set (i := 3) (u := .slice A3 ps.length c3) HBL.out lR
          have HEND := hD (And.intro r4 (And.intro ho4 hr4))
          obtain ⟨x0, x1, x2, x3, f0, f1, f2, f3⟩ := four r0
          clear r0 r1 r2 r3 r4 ho4 hr4 HST
          go_wp2_with fail
          refine bodyPost_ret (results_cell_tmp rfl _ _ _ _ _ _ rfl HEND.out.1 Tryz.underlying28 rfl (by kernel_rfl)) rfl ?_
          have hR := HPF.out
          subst hR
          refine ⟨⟨A0, c0, A1, c1, A2, c2, A3, c3⟩, ?_, HEND.out.2.1, HEND.out.2.2.r, HEND.out.2.2.only⟩
          rw [HND.out, HOKF.out]
          rfl
end Go.Proofs.YtmekamgohonffaaGreat
