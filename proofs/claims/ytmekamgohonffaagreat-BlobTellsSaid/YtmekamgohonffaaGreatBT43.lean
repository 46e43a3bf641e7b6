/- MachEncode Seal MachMc MachGet2 -/
import Derived.Test.YtmekamgohonffaaGreatBT0H
import Derived.Test.YtmekamgohonffaaGreatBT00
import Derived.Test.YtmekamgohonffaaGreatBT08
import Derived.Test.YtmekamgohonffaaGreatBT12
import Derived.Test.YtmekamgohonffaaGreatBT16
import Derived.Test.YtmekamgohonffaaGreatBT19
import Derived.Test.YtmekamgohonffaaGreatBT26
import Derived.Test.YtmekamgohonffaaGreatBT27
import Derived.Test.YtmekamgohonffaaGreatBT35
import Derived.Test.YtmekamgohonffaaGreatBT37
import Derived.Test.YtmekamgohonffaaGreatBT39
import Derived.BigQuiet
import Derived.Deep.CutBlock
import Derived.Deep.DeepCutAuto
import Derived.OwnWalk
import Derived.WalkSpells
namespace Go.Proofs.YtmekamgohonffaaGreat
open Go.RowKit
set_option linter.unusedVariables false
set_option maxHeartbeats 4000000 in
set_option maxRecDepth 100000 in
theorem encode_raw {w : World} {a : MA} {m : Mc} {B : Nat} (hM : m.Ok) (h : RdM w B a m) : Calls Tryz.prog 33 #[machV a m] w (GotIn w w m.enc) := by
 obtain ⟨wz, hwz⟩ : ∃ wz, w.alloc (.cells (machC a m) 31) = wz := ⟨_, rfl⟩
 have hbz : Below w.heap.size w wz := by rw [<- hwz]; exact (Below.refl _ _).alloc lR _
 have hkz : Blk wz w.heap.size 31 (machC a m) := by rw [<- hwz]; exact Blk.new _ _ _
 have HR := zH ((h.fit.below hbz).fit)
 have HZ := zH hbz
 have HM := zH hM
 obtain ⟨g, hg⟩ : ∃ g, w.heap.size = g := ⟨_, rfl⟩
 rw [hg] at hkz
 have HF : Hid (∀ wx, Below wz.heap.size wz wx -> Blk wx g 31 (machC a m)) := zH (fun wx hb => hkz.below hb)
 have HW := zH hwz
 have HG := zH hg
 have k1 := encB_length m.o.reg
 have k2 := encQ_length hM.o.qv
 have k3 := Pk.encs_length m.o.lk
 have k4 := encP_length hM.o.mp.len
 have k5 := encN_length m.o.q.length
 have k6 := encN_length m.o.lk.length
 have k7 := encN_length m.o.mp.length
 have k8 := hM.o.reg
 have k9 := hM.o.ql
 have k10 := hM.o.lkl
 have k11 := hM.o.mp.few
 obtain ⟨l1, e1⟩ : ∃ x, Pk.encB m.o.reg = x := ⟨_, rfl⟩
 obtain ⟨l2, e2⟩ : ∃ x, l1 ++ (encN m.o.q.length ++ encQ m.o.q) = x := ⟨_, rfl⟩
 obtain ⟨l3, e3⟩ : ∃ x, l2 ++ (encN m.o.lk.length ++ Pk.encs m.o.lk) = x := ⟨_, rfl⟩
 obtain ⟨l4, e4⟩ : ∃ x, l3 ++ (encN m.o.mp.length ++ encP m.o.mp) = x := ⟨_, rfl⟩
 obtain ⟨l5, e5⟩ : ∃ x, l4 ++ (encN m.t.length ++ encT m.t) = x := ⟨_, rfl⟩
 have hl1 : l1.length <= 100 := by rw [<- e1]; omega
 have hl2 : l2.length <= 1000 := by rw [<- e2]; simp only [List.length_append]; omega
 have hl3 : l3.length <= 2000 := by rw [<- e3]; simp only [List.length_append]; omega
 have hl4 : l4.length <= 3000 := by rw [<- e4]; simp only [List.length_append]; omega
 have hEND : m.enc = l5 := by
  unfold Mc.enc; rw [<- e5, <- e4, <- e3, <- e2, <- e1]; simp only [List.append_assoc]
 rw [hEND]
 have C1 : Hid (Calls Tryz.prog 69 #[.slice none 0 0, .slice a.o.A0 m.o.reg.length a.o.c0] wz (GotPut wz wz l1)) := zH ((putBytes_any (W := wz) (w := wz) (l := []) (x := m.o.reg) (by simp) (by omega) (own_nil _ _) HR.out.o.r0 (Below.refl _ _)).mono fun e w' h => h.is (by rw [<- e1]; rfl))
 have C2 : Hid (∀ {wx : World} {A : Option Addr} {c : Nat}, OwnB wz wx A l1.length c l1 -> Below wz.heap.size wz wx -> Calls Tryz.prog 70 #[.slice A l1.length c, .slice a.o.A1 m.o.q.length a.o.c1, .func (.func 69) #[] #[]] wx (GotPut wz wx l2)) := zH (fun ho hB => (putEachQ_any (W := wz) (c' := a.o.c1) (by omega) (by omega) hM.o.qv ho HR.out.o.r1 hB).mono fun e w' h => h.is e2)
 have C3 : Hid (∀ {wx : World} {A : Option Addr} {c : Nat}, OwnB wz wx A l2.length c l2 -> Below wz.heap.size wz wx -> Calls Tryz.prog 71 #[.slice A l2.length c, .slice a.o.A2 m.o.lk.length a.o.c2, .func (.func 72) #[] #[]] wx (GotPut wz wx l3)) := zH (fun ho hB => (putEachI_any (W := wz) (c' := a.o.c2) (by omega) (by omega) ho HR.out.o.r2 hB).mono fun e w' h => h.is e3)
 have C4 : Hid (∀ {wx : World} {A : Option Addr} {c : Nat}, OwnB wz wx A l3.length c l3 -> Below wz.heap.size wz wx -> Calls Tryz.prog 73 #[.slice A l3.length c, .slice a.o.A3 m.o.mp.length a.o.c3, .func (.func 74) #[] #[]] wx (GotPut wz wx l4)) := zH (fun ho hB => (putEachP_any (W := wz) (c' := a.o.c3) (by omega) (by omega) hM.o.mp.len ho HR.out.o.r3 hB).mono fun e w' h => h.is e4)
 have C5 : Hid (∀ {wx : World} {A : Option Addr} {c : Nat}, OwnB wz wx A l4.length c l4 -> Below wz.heap.size wz wx -> Calls Tryz.prog 75 #[.slice A l4.length c, .slice a.At m.t.length a.ct, .func (.func 76) #[] #[]] wx (GotPut wz wx l5)) := zH (fun ho hB => (putEachT_any (W := wz) (c' := a.ct) (by omega) (by have := hM.t8; omega) (fun m' hm' => (hM.t.each m' hm').2.1) (fun m' hm' => (hM.te m' hm').2.2) ho HR.out.t hB).mono fun e w' h => h.is e5)
 clear k1 k2 k3 k4 k5 k6 k7 k8 k9 k10 k11 e1 e2 e3 e4 e5 hl1 hl2 hl3 hl4 hEND h hM hbz hkz hwz hg
 unfold machV machC
 unfold machC at HW HF
 go_enter Tryz.func33, Tryz.ntmps33
 go_upto_region 1 with fail
 rw [HG.out, HW.out]
 obtain ⟨x0, x1, x2, x3, x4⟩ := five (HF.out wz (Below.refl _ _))
 go_wp2_with (first
  | (go_at_call 69; refine C1.out.mono ?_; rintro e w1 ⟨A1, c1, rfl, ho1, hB1, hb1⟩; obtain ⟨x0, x1, x2, x3, x4⟩ := five (HF.out w1 hB1))
  | (go_at_call 70; refine (C2.out ho1 hB1).mono ?_; rintro e w2 ⟨A2, c2, rfl, ho2, hB2, hb2⟩; obtain ⟨x0, x1, x2, x3, x4⟩ := five (HF.out w2 hB2))
  | (go_at_call 71; refine (C3.out ho2 hB2).mono ?_; rintro e w3 ⟨A3, c3, rfl, ho3, hB3, hb3⟩; obtain ⟨x0, x1, x2, x3, x4⟩ := five (HF.out w3 hB3))
  | (go_at_call 73; refine (C4.out ho3 hB3).mono ?_; rintro e w4 ⟨A4, c4, rfl, ho4, hB4, hb4⟩; obtain ⟨x0, x1, x2, x3, x4⟩ := five (HF.out w4 hB4))
  | (go_at_call 75; refine (C5.out ho4 hB4).mono ?_; rintro e w5 ⟨A5, c5, rfl, ho5, hB5, hb5⟩)
  | fail)
 go_ret
 have hb := HZ.out.trans (hB5.mono HZ.out.size)
 exact ⟨A5, c5, rfl, own_of HZ.out.size ho5, hb, hb⟩
theorem encode10 : EncodeC10 := fun hM h hB => (encode_raw hM h).mono fun en w' ⟨A', c', h1, h2, h3, h4⟩ => ⟨A', c', h1, own_of hB.size h2, hB.trans (h3.mono hB.size), h4⟩
set_option maxHeartbeats 2000000 in
set_option maxRecDepth 100000 in
theorem seallay_raw {w : World} {A : Option Addr} {n c B : Nat} {l : List Nat} (hl : ∀ x ∈ l, x < 256) (hn : l.length <= 2000000) (h : Rd w B A n (bv l)) : Calls Tryz.prog 35 #[.slice A n c] w (GotIn w w (Fr.lay l)) := by
 have hln := h.length
 have C := zH (frsum_any (W := w) (c := c) hl (by unfold maxLen; omega) h (Below.refl _ _))
 have HH := zH h.fit
 have HN : Hid (n <= 2000000) := zH (by omega)
 obtain ⟨s, hs⟩ : ∃ s, Crc.sum l = s := ⟨_, rfl⟩
 have HLL : Hid (4 + n = (Fr.lay l).length) := zH (by rw [Fr.lay_len, hln])
 have HLE : Hid (Fr.lay l = Fr.four s ++ l) := zH (by unfold Fr.lay; rw [hs])
 rw [hs] at C
 obtain ⟨L, hL⟩ : ∃ x, Fr.lay l = x := ⟨_, rfl⟩
 rw [hL] at HLL HLE |-
 clear hl hn h hs hln hL
 go_enter Tryz.func35, Tryz.ntmps35
 go_wp2_with (first
  | (go_at_call 49; refine C.out.mono ?_; rintro en w2 ⟨A2, c2, he, ho2, hB2, hb2⟩
     have he2 : en = .returned (.slice A2 4 c2) := he
     have ho2' : OwnB w w2 A2 4 c2 (Fr.four s) := ho2
     clear he ho2
     subst he2
     have HS := zH ho2'
     have HB2 := zH hB2
     have HH2 := zH (HH.out.below hb2)
     clear ho2' hB2 hb2)
  | (at_builtin
     refine wpList_append_bytes (W := w) byteT (.tmp 4) (.tmp 5) rfl (by rfl) rfl HS.out rfl HH2.out (by have := HN.out; omega) HB2.out ?_
     intro A3 c3 w3 ho3 hr3 hB3
     have HO3 := zH ho3
     have HB3 := zH hB3
     clear ho3 hr3 hB3)
  | fail)
 go_ret
 refine ⟨A3, c3, by rw [<- HLL.out]; rfl, ?_, HB3.out, HB3.out⟩
 rw [<- HLL.out, HLE.out]
 exact HO3.out
theorem seallay {W w : World} {A : Option Addr} {n c B : Nat} {l L : List Nat} (he : Fr.lay l = L) (hl : ∀ x ∈ l, x < 256) (hn : l.length <= 2000000) (h : Rd w B A n (bv l)) (hB : Below W.heap.size W w) : Calls Tryz.prog 35 #[.slice A n c] w (GotIn W w L) := by
 subst he
 exact (seallay_raw hl hn h).mono fun e w' ⟨A, c, h1, h2, h3, h4⟩ => ⟨A, c, h1, own_of hB.size h2, hB.trans (h3.mono hB.size), h4⟩
set_option maxHeartbeats 2000000 in
set_option maxRecDepth 100000 in
theorem seallift_raw {w : World} {A : Option Addr} {n c B : Nat} {l : List Nat} (hb : ∀ x ∈ l, x < 256) (hl : l.length <= 2000000) (hc : n <= c) (h : Rd w B A n (bv l)) : Calls Tryz.prog 23 #[.slice A n c] w (GotU w w (Fr.unf l)) := by
 have hn := h.length
 have HRZ := zH h.fit
 have HL := zH hl
 have HBY := zH hb
 obtain ⟨i9, hi1, hi2, hi3, hi4⟩ := info_parts byteT.info
 clear hi2 hi4
 have HI1 := zH hi1
 have HI3 := zH hi3
 clear hl hb hi1 hi3 h
 by_cases h4 : n < 4
 · have hr : Fr.unf l = none := by unfold Fr.unf; rw [if_pos (by omega)]
   have HR := zH hr
   clear hn hr
   go_enter Tryz.func23, Tryz.ntmps23
   go_wp2
   go_ret2
   rw [HR.out]
   exact ⟨none, 0, rfl, own_nil _ _, Below.refl _ _, Below.refl _ _⟩
 · have HR4 : Hid (Rd w w.heap.size (cutAt A c 4) (n - 4) (bv (l.drop 4))) := zH (by rw [bv_drop]; exact (HRZ.out.drop (by omega) hc).fit)
   have HRT : Hid (Rd w w.heap.size A 4 (bv (l.take 4))) := zH (by rw [bv_take]; exact (HRZ.out.take (by omega)).fit)
   have HD : Hid (∀ x ∈ l.drop 4, x < 256) := zH (fun x hx => HBY.out x (List.mem_of_mem_drop hx))
   have HT : Hid (∀ x ∈ l.take 4, x < 256) := zH (fun x hx => HBY.out x (List.mem_of_mem_take hx))
   have HDL : Hid (n - 4 <= 2000000) := zH (by have := HL.out; omega)
   have HOP : Hid (Fr.unf l = if l.take 4 = Fr.four (Crc.sum (l.drop 4)) then some (l.drop 4) else none) := zH (by unfold Fr.unf; rw [if_neg (by omega)])
   have hs1 : ∀ w : World, (Instr.slice 23 (.slice A n c) none (some (.int .i64 4)) none).run Tryz.prog w = .ok (.slice A 4 c) w := fun w => run_slice_to (P := Tryz.prog) (t := 23) byteT.under HI1.out A n c 4 (by omega) w
   have hs2 : ∀ w : World, (Instr.slice 23 (.slice A n c) (some (.int .i64 4)) none none).run Tryz.prog w = .ok (.slice (cutAt A c 4) (n - 4) (c - 4)) w := fun w => run_slice_from (P := Tryz.prog) (t := 23) byteT.under HI1.out HI3.out A n c 4 (by omega) w
   clear hn hc HL HBY
   obtain ⟨T, hT⟩ : ∃ x, l.take 4 = x := ⟨_, rfl⟩
   obtain ⟨D, hD⟩ : ∃ x, l.drop 4 = x := ⟨_, rfl⟩
   obtain ⟨AD, hAD⟩ : ∃ x, cutAt A c 4 = x := ⟨_, rfl⟩
   obtain ⟨X, hX⟩ : ∃ x, Fr.unf l = x := ⟨_, rfl⟩
   rw [hX] at HOP |-
   rw [hT, hD] at HOP
   rw [hT] at HRT HT
   rw [hD] at HR4 HD
   rw [hAD] at HR4 hs2
   clear hT hD hX hAD
   go_enter Tryz.func23, Tryz.ntmps23
   go_upto_region 3 with fail
   go_quiet (fail)
   have hbd : Below w.heap.size w (w.drewN nq) := (Below.refl w.heap.size w).trans ⟨rfl, rfl, rfl, Nat.le_refl _, fun _ _ => rfl⟩
   have HR4 := zH (HR4.out.below hbd)
   have HRT := zH (HRT.out.below hbd)
   have HBD := zH hbd
   generalize w.drewN nq = wd at hbd HR4 HRT HBD |-
   clear hbd hs1 hs2
   have CS : Hid (Calls Tryz.prog 49 #[.slice AD (n - 4) (c - 4)] wd (GotIn w wd (Fr.four (Crc.sum D)))) := zH (frsum_any HD.out (by have := HDL.out; unfold maxLen; omega) HR4.out HBD.out)
   by_cases he : T = Fr.four (Crc.sum D)
   · have hd : decide (T = Fr.four (Crc.sum D)) = true := by simpa using he
     have hXd : X = some D := by rw [HOP.out, if_pos he]
     have HX := zH hXd
     clear he hXd HOP
     go_wp2_with (first
      | (go_at_call 49; refine CS.out.mono ?_; rintro en w2 ⟨A2, c2, he2, ho2, hB2, hb2⟩
         have he3 : en = .returned (.slice A2 4 c2) := he2
         have ho3 : OwnB w w2 A2 4 c2 (Fr.four (Crc.sum D)) := ho2
         clear he2 ho2
         subst he3
         have HS := zH (Rd.own_ ho3)
         have HB2 := zH hB2
         have HR42 := zH (HR4.out.below (hb2.mono HBD.out.size))
         have HRT2 := zH (HRT.out.below (hb2.mono HBD.out.size))
         clear ho3 hB2 hb2)
      | (go_at_call 48; refine (equal_any _ _ _ _ _ _ _ _ _ T (Fr.four (Crc.sum D)) HT.out (Fr.four_lt _) HRT2.out HS.out).mono ?_; rintro en wq ⟨rfl, rfl⟩; rw [hd])
      | (go_at_call 30; refine (clone_any (W := w) (by have := HDL.out; unfold Lim; omega) HR42.out HB2.out).mono ?_; rintro en w3 ⟨A3, c3, rfl, ho3, hB3, hb3⟩
         have HO3 := zH ho3
         have HB3 := zH hB3
         clear ho3 hB3 hb3)
      | fail)
     go_ret2
     rw [HX.out]
     exact ⟨A3, c3, rfl, HO3.out, HB3.out, HB3.out⟩
   · have hd : decide (T = Fr.four (Crc.sum D)) = false := by simpa using he
     have hXd : X = none := by rw [HOP.out, if_neg he]
     have HX := zH hXd
     clear he hXd HOP
     go_wp2_with (first
      | (go_at_call 49; refine CS.out.mono ?_; rintro en w2 ⟨A2, c2, he2, ho2, hB2, hb2⟩
         have he3 : en = .returned (.slice A2 4 c2) := he2
         have ho3 : OwnB w w2 A2 4 c2 (Fr.four (Crc.sum D)) := ho2
         clear he2 ho2
         subst he3
         have HS := zH (Rd.own_ ho3)
         have HB2 := zH hB2
         have HRT2 := zH (HRT.out.below (hb2.mono HBD.out.size))
         clear ho3 hB2 hb2)
      | (go_at_call 48; refine (equal_any _ _ _ _ _ _ _ _ _ T (Fr.four (Crc.sum D)) HT.out (Fr.four_lt _) HRT2.out HS.out).mono ?_; rintro en wq ⟨rfl, rfl⟩; rw [hd])
      | fail)
     go_ret2
     rw [HX.out]
     exact ⟨none, 0, rfl, own_nil _ _, HB2.out, HB2.out⟩
theorem seallift {W w : World} {A : Option Addr} {n c B : Nat} {l : List Nat} {r : Option (List Nat)} (he : Fr.unf l = r) (hb : ∀ x ∈ l, x < 256) (hl : l.length <= 2000000) (hc : n <= c) (h : Rd w B A n (bv l)) (hB : Below W.heap.size W w) : Calls Tryz.prog 23 #[.slice A n c] w (GotU W w r) := by
 subst he
 exact (seallift_raw hb hl hc h).mono fun e w' ⟨A, c, h1, h2, h3, h4⟩ => ⟨A, c, h1, own_of hB.size h2, hB.trans (h3.mono hB.size), h4⟩
theorem okT_snoc (ls : List Ls) (l : Ls) : okT (ls ++ [l]) = (okT ls && (decide (Tb.named l.s l.q) && (match ls.getLast? with | none => true | some p => decide (p.s < l.s)))) := by
 unfold okT
 rw [chainB_snoc, List.all_append]
 cases ls.all (fun l => decide (Tb.named l.s l.q)) <;> cases chainB (fun a b => decide (a.s < b.s)) ls <;> cases h : ls.getLast? <;> simp
theorem OwnQ.grownL {W w w' : World} {A A' : Option Addr} {n c base' size' n' c' : Nat} {xs' : List Value} {qs : List (List Nat)} (h : OwnQ W w A n c qs) (ho : w.ownsRow base' 79 size' (.slice A' n' c') n' xs') (hg : w.grownBy w' (Value.slice A' n' c').ownBlock) : OwnQ W w' A n c qs := by
 obtain ⟨vs, h1, h2⟩ := h
 exact ⟨vs, own_grown_t h1 ho (by decide) hg, ⟨h2.1, fun i l hl => by obtain ⟨A2, c2, e, h3⟩ := h2.2 i l hl; exact ⟨A2, c2, e, own_grown_t h3 ho (by decide) hg⟩⟩⟩
theorem OwnP.grownL {W w w' : World} {A A' : Option Addr} {n c base' size' n' c' : Nat} {xs' : List Value} {qs : List Pr} (h : OwnP W w A n c qs) (ho : w.ownsRow base' 79 size' (.slice A' n' c') n' xs') (hg : w.grownBy w' (Value.slice A' n' c').ownBlock) : OwnP W w' A n c qs := by
 obtain ⟨vs, h1, h2⟩ := h
 exact ⟨vs, own_grown_t h1 ho (by decide) hg, ⟨h2.1, fun i l hl => by obtain ⟨A2, c2, e, h3⟩ := h2.2 i l hl; exact ⟨A2, c2, e, own_grown_t h3 ho (by decide) hg⟩⟩⟩
structure McSt (w wx : World) (B b g : Nat) (a : MA) (m : Mc) (s : Pk.St) : Prop where
 res : Blk wx w.heap.size 31 #[.slice none 0 0, .slice none 0 0, .slice none 0 0, .slice none 0 0, .slice none 0 0]
 blk : Blk wx g 31 (machC a m)
 own : OwnM w wx a m
 rd : RdSt w wx B b s
section
variable {w wx wy : World} {B b g : Nat} {a : MA} {m : Mc} {s s' : Pk.St}
theorem McSt.call (h : McSt w wx B b g a m s) (hb : b < w.heap.size) (hg : b ≠ g) (hr : RefAt wy B b s') (ho : Only b wx wy) : McSt w wy B b g a m s' :=
 ⟨h.res.grown ho (by intro e; injection e with e; omega), h.blk.grown ho (by intro e; injection e with e; omega), h.own.old ho (Old.some hb), h.rd.call hr ho⟩
theorem McSt.below (h : McSt w wx B b g a m s) (hb : b < w.heap.size) (hB : Below wx.heap.size wx wy) : McSt w wy B b g a m s :=
 ⟨h.res.below hB, h.blk.below hB, h.own.below hB, h.rd.belowW (hB.mono h.rd.size) hb⟩
end
set_option maxHeartbeats 4000000 in
set_option maxRecDepth 100000 in
theorem refMachine_any (w : World) (B b : Nat) (s : Pk.St) (h : RefAt w B b s) (hbs : BytesSt s) :
 Calls Tryz.prog 77 #[.pointer (some ⟨b, 0, none⟩)] w fun en w' => ∃ a, en = .returned (.tuple #[machV a (Mc.get s).1, .bool ((Mc.get s).1.wf && (Mc.get s).2.isSome)]) /\ OwnM w w' a (Mc.get s).1 /\ RefAt w' B b (Mc.get s).2 /\ Only b w w' := by
 have hbl := h.lt
 have HBL := zH hbl
 have HRR : Hid (Mc.get s = (⟨(getO s).1, (stT (getO s).2).1⟩, (stT (getO s).2).2)) := zH rfl
 obtain ⟨R, hR⟩ : ∃ R, Mc.get s = R := ⟨_, rfl⟩
 rw [hR] at HRR |-
 have C0 := zH (fun w h => refObjects_any w B b s h hbs)
 obtain ⟨⟨⟨reg, acc, lk, ps⟩, s1⟩, hO⟩ : ∃ O, getO s = O := ⟨_, rfl⟩
 rw [hO] at C0 HRR
 have h0 : RdSt w w B b s := ⟨h, only_refl b w⟩
 have HR0 := zH (h0.below ((Below.refl w.heap.size w).alloc lR (.cells #[.slice none 0 0, .slice none 0 0, .slice none 0 0, .slice none 0 0, .slice none 0 0] 31)))
 have HK2 := zH (Blk.new w 31 #[.slice none 0 0, .slice none 0 0, .slice none 0 0, .slice none 0 0, .slice none 0 0])
 clear h h0 hR hO hbs
 have hne : w.heap.size ≠ b := by omega
 obtain ⟨nq, e2⟩ : ∃ x, Pk.numV s1 8 = x := ⟨_, rfl⟩
 obtain ⟨s2, e3⟩ : ∃ x, Pk.numS s1 8 = x := ⟨_, rfl⟩
 have C1 := zH (fun w h => refrnum_any w B b s1 8 h)
 rw [e2, e3] at C1
 have HE2 := zH e2
 have HE3 := zH e3
 have hnq : nq <= 8 := by have := numV_le s1 (m := 8) (by omega); omega
 clear e2 e3
 obtain ⟨ok0, hok0⟩ : ∃ x, (decide lk.Nodup && okP ps) = x := ⟨_, rfl⟩
 have HOK0 := zH hok0
 simp only at C0
 rw [hok0] at C0
 clear hok0
 go_enter Tryz.func77, Tryz.ntmps77
 go_upto_region 1 with fail
 generalize w.alloc (.cells #[.slice none 0 0, .slice none 0 0, .slice none 0 0, .slice none 0 0, .slice none 0 0] 31) = wa at HR0 HK2 |-
 go_upto_region 2 with (first
  | (go_at_call 96; refine (C0.out _ HR0.out.r).mono ?_; rintro en w1 ⟨⟨A0, c0, A1, c1, A2, c2, A3, c3⟩, rfl, hv, hr, ho⟩
     have hbo : Below w1.heap.size w1 (w1.alloc (.cells #[.slice A0 reg.length c0, .slice A1 acc.length c1, .slice A2 lk.length c2, .slice A3 ps.length c3] 28)) := (Below.refl _ _).alloc lR _
     have HST0 : Hid (Blk (w1.alloc (.cells #[.slice A0 reg.length c0, .slice A1 acc.length c1, .slice A2 lk.length c2, .slice A3 ps.length c3] 28)) w.heap.size 31 #[.slice none 0 0, .slice none 0 0, .slice none 0 0, .slice none 0 0, .slice none 0 0] /\ OwnO w (w1.alloc (.cells #[.slice A0 reg.length c0, .slice A1 acc.length c1, .slice A2 lk.length c2, .slice A3 ps.length c3] 28)) ⟨A0, c0, A1, c1, A2, c2, A3, c3⟩ ⟨reg, acc, lk, ps⟩ /\ RdSt w (w1.alloc (.cells #[.slice A0 reg.length c0, .slice A1 acc.length c1, .slice A2 lk.length c2, .slice A3 ps.length c3] 28)) B b s1) := zH ⟨((HK2.out.grown ho (by simpa using hne)).below hbo), (hv.of HR0.out.size).below hbo, (HR0.out.call hr ho).below hbo⟩
     have hn1 : w.heap.size < w1.heap.size := (HK2.out.grown ho (by simpa using hne)).lt
     have HKO := zH (Blk.new w1 28 #[.slice A0 reg.length c0, .slice A1 acc.length c1, .slice A2 lk.length c2, .slice A3 ps.length c3])
     unfold objV objC
     simp only
     clear hv hr ho hbo C0)
  | fail)
 generalize w1.alloc (.cells #[.slice A0 reg.length c0, .slice A1 acc.length c1, .slice A2 lk.length c2, .slice A3 ps.length c3] 28) = w2 at HST0 HKO |-
 have hn2 : w1.heap.size < w2.heap.size := HKO.out.lt
 obtain ⟨x0, x1, x2, x3, f0, f1, f2, f3⟩ := four HKO.out
 go_upto_region 3 with fail
 have hbm : Below w2.heap.size w2 (w2.alloc (.cells #[.slice A0 reg.length c0, .slice A1 acc.length c1, .slice A2 lk.length c2, .slice A3 ps.length c3, .slice none 0 0] 31)) := (Below.refl _ _).alloc lR _
 have HST : Hid (McSt w (w2.alloc (.cells #[.slice A0 reg.length c0, .slice A1 acc.length c1, .slice A2 lk.length c2, .slice A3 ps.length c3, .slice none 0 0] 31)) B b w2.heap.size ⟨⟨A0, c0, A1, c1, A2, c2, A3, c3⟩, none, 0⟩ ⟨⟨reg, acc, lk, ps⟩, []⟩ s1) := zH ⟨HST0.out.1.below hbm, Blk.new _ _ _, ⟨HST0.out.2.1.below hbm, OwnL.nil _ _⟩, HST0.out.2.2.below hbm⟩
 clear hbm HST0 HKO x0 x1 x2 x3 f0 f1 f2 f3
 generalize w2.alloc (.cells #[.slice A0 reg.length c0, .slice A1 acc.length c1, .slice A2 lk.length c2, .slice A3 ps.length c3, .slice none 0 0] 31) = w3 at HST |-
 obtain ⟨g, hg⟩ : ∃ g, w2.heap.size = g := ⟨_, rfl⟩
 rw [hg] at HST hn2 |-
 have hgb : b ≠ g := by omega
 have hgw : w.heap.size < g := by omega
 go_wp2_with (first
  | (go_at_call 37; refine (C1.out _ HST.out.rd.r).mono ?_; rintro en w4 ⟨rfl, hr, ho, hz⟩; have HST := zH (HST.out.call HBL.out hgb hr ho); clear hr ho hz C1)
  | fail)
 go_loopw [5, 7] (fun s5 s7 wr => ∃ (j : Nat) (At : Option Addr) (ct : Nat) (ls : List Ls) (sj : Pk.St), j + ls.length = nq /\ s7 = .int .i64 (j : Int) /\ s5 = .bool (ok0 && okT ls) /\ Hid (McSt w wr B b g ⟨⟨A0, c0, A1, c1, A2, c2, A3, c3⟩, At, ct⟩ ⟨⟨reg, acc, lk, ps⟩, ls⟩ sj) /\ Hid (getT nq s2 = (ls ++ (getT j sj).1, (getT j sj).2))) (fun _ s7 _ => (intOf s7).toNat)
 case atStart => exact ⟨nq, none, 0, [], s2, by simp, rfl, by simp [okT, chainB], HST, zH (by simp)⟩
 case round =>
  clear HST
  obtain ⟨j, At, ct, ls, sj, hj, rfl, rfl, HST, HQ⟩ := hrel
  have hls8 : ls.length <= 8 := by omega
  cases j with
  | succ j =>
    have hjp : (0 : Int) < ((j + 1 : Nat) : Int) := by omega
    have hjw : IntKind.i64.wrap (((j + 1 : Nat) : Int) - 1) = (j : Int) := by rw [show ((j + 1 : Nat) : Int) - 1 = (j : Int) by omega]; exact IntWalk.i64_in _ (by omega)
    obtain ⟨n1, a1⟩ : ∃ y, Pk.numV sj 1073741824 = y := ⟨_, rfl⟩
    obtain ⟨t1, b1⟩ : ∃ y, Pk.numS sj 1073741824 = y := ⟨_, rfl⟩
    obtain ⟨n2, a2⟩ : ∃ y, Pk.numV t1 1073741824 = y := ⟨_, rfl⟩
    obtain ⟨t2, b2⟩ : ∃ y, Pk.numS t1 1073741824 = y := ⟨_, rfl⟩
    obtain ⟨n3, a3⟩ : ∃ y, Pk.numV t2 10 = y := ⟨_, rfl⟩
    obtain ⟨t3, b3⟩ : ∃ y, Pk.numS t2 10 = y := ⟨_, rfl⟩
    obtain ⟨n4, a4⟩ : ∃ y, Pk.numV t3 1073741825 = y := ⟨_, rfl⟩
    obtain ⟨t4, b4⟩ : ∃ y, Pk.numS t3 1073741825 = y := ⟨_, rfl⟩
    obtain ⟨v, a5⟩ : ∃ y, Pk.bytV t4 16 = y := ⟨_, rfl⟩
    obtain ⟨t5, b5⟩ : ∃ y, Pk.bytS t4 16 = y := ⟨_, rfl⟩
    have h4 : n4 <= 1073741825 := by have := numV_le t3 (m := 1073741825) (by omega); omega
    have hw4 : IntKind.i64.wrap ((n4 : Int) - 1) = (n4 : Int) - 1 := IntWalk.i64_in _ (by omega)
    obtain ⟨l, hl⟩ : ∃ l : Ls, l = ⟨n1, n2, n3, v, (n4 : Int) - 1⟩ := ⟨_, rfl⟩
    have HL := zH hl
    have HQ2 : Hid (getT nq s2 = ((ls ++ [l]) ++ (getT j t5).1, (getT j t5).2)) := zH (by rw [HQ.out]; simp only [getT, getT1, a1, b1, a2, b2, a3, b3, a4, b4, a5, b5, List.append_assoc, List.singleton_append, hl])
    have K1 := zH (fun w h => refrnum_any w B b sj 1073741824 h)
    have K2 := zH (fun w h => refrnum_any w B b t1 1073741824 h)
    have K3 := zH (fun w h => refrnum_any w B b t2 10 h)
    have K4 := zH (fun w h => refrnum_any w B b t3 1073741825 h)
    have K5 := zH (fun w h => refrbytes_any w B b t4 16 h)
    rw [a1, b1] at K1
    rw [a2, b2] at K2
    rw [a3, b3] at K3
    rw [a4, b4] at K4
    rw [a5, b5] at K5
    clear a1 b1 a2 b2 a3 b3 a4 b4 a5 b5 HQ hl h4
    go_upto_region 7 with (first
     | (go_at_call 37; refine (K1.out _ HST.out.rd.r).mono ?_; rintro en w5 ⟨rfl, hr, ho, hz⟩; have HS1 := zH (HST.out.call HBL.out hgb hr ho); clear hr ho hz K1 HST)
     | (go_at_call 37; refine (K2.out _ HS1.out.rd.r).mono ?_; rintro en w6 ⟨rfl, hr, ho, hz⟩
        have HS2 := zH (HS1.out.call HBL.out hgb hr ho)
        have bb : Below w6.heap.size w6 (w6.alloc (.cells #[.int .i64 (n1 : Int), .int .i64 (n2 : Int), .int .i64 0, .slice none 0 0, .int .i64 0] 79)) := (Below.refl _ _).alloc lR _
        have HON := zH (only_below (only_refl b w6) bb lR)
        have HRD := zH (HS2.out.rd.below bb)
        have HKL := zH (Blk.new w6 79 #[.int .i64 (n1 : Int), .int .i64 (n2 : Int), .int .i64 0, .slice none 0 0, .int .i64 0])
        clear hr ho hz K2 HS1 bb)
     | fail)
    generalize w6.alloc (.cells #[.int .i64 (n1 : Int), .int .i64 (n2 : Int), .int .i64 0, .slice none 0 0, .int .i64 0] 79) = w7 at HON HRD HKL |-
    obtain ⟨e, he⟩ : ∃ e, w6.heap.size = e := ⟨_, rfl⟩
    have hge : g < e := by have := HS2.out.blk.lt; omega
    have hwe : w.heap.size <= e := by omega
    have heb : b ≠ e := by omega
    rw [he] at HKL |-
    have HE := zH he
    clear he
    go_upto_region 10 with (first
     | (go_at_call 37; refine (K3.out _ HRD.out.r).mono ?_; rintro en w8 ⟨rfl, hr, ho, hz⟩
        have hk := HKL.out.grown ho (by intro q; injection q with q; omega)
        have HKL3 := zH (hk.set_ 2 (.int .i64 (n3 : Int)))
        have hr1 := HRD.out.call hr ho
        have HRD3 := zH (hr1.set (i := 2) (u := .int .i64 (n3 : Int)) HBL.out hwe)
        have HON3 := zH (only_below (only_trans HON.out ho) ((Below.refl e w8).setCell (p := ⟨e, 2, none⟩) lR (.int .i64 (n3 : Int))) (by have := HE.out; omega))
        have y2 := hk.cell 2
        have f2 := hk.frozen 2
        clear hr ho hz K3 hk hr1 HKL HRD HON)
     | (go_at_call 37; refine (K4.out _ HRD3.out.r).mono ?_; rintro en w9 ⟨rfl, hr, ho, hz⟩
        clear y2 f2
        have hk := HKL3.out.grown ho (by intro q; injection q with q; omega)
        have HKL4 := zH (hk.set_ 4 (.int .i64 ((n4 : Int) - 1)))
        have hr1 := HRD3.out.call hr ho
        have HRD4 := zH (hr1.set (i := 4) (u := .int .i64 ((n4 : Int) - 1)) HBL.out hwe)
        have HON4 := zH (only_below (only_trans HON3.out ho) ((Below.refl e w9).setCell (p := ⟨e, 4, none⟩) lR (.int .i64 ((n4 : Int) - 1))) (by have := HE.out; omega))
        have y4 := hk.cell 4
        have f4 := hk.frozen 4
        clear hr ho hz K4 hk hr1 HKL3 HRD3 HON3)
     | (go_at_call 39; refine (K5.out _ HRD4.out.r).mono ?_; rintro en w10 ⟨A5, m5, c5, rfl, hv, hr, ho⟩; obtain rfl := own_len hv
        clear y4 f4
        have hv := own_of HRD4.out.size hv
        have hk := HKL4.out.grown ho (by intro q; injection q with q; omega)
        have HKL5 := zH (hk.set_ 3 (.slice A5 v.length c5))
        have hr1 := HRD4.out.call hr ho
        have HRD5 := zH (hr1.set (i := 3) (u := .slice A5 v.length c5) HBL.out hwe)
        have HON5 := zH (only_below (only_trans HON4.out ho) ((Below.refl e w10).setCell (p := ⟨e, 3, none⟩) lR (.slice A5 v.length c5)) (by have := HE.out; omega))
        have HV := zH (own_set_t (i := 3) (u := .slice A5 v.length c5) hv hk (by decide))
        have y3 := hk.cell 3
        have f3 := hk.frozen 3
        clear hv hr ho K5 hk hr1 HKL4 HRD4 HON4)
     | fail)
    generalize w10.setCell ⟨e, 3, none⟩ (.slice A5 v.length c5) = w11 at HKL5 HRD5 HON5 HV |-
    have HKL : Hid (Blk w11 e 79 #[.int .i64 (n1 : Int), .int .i64 (n2 : Int), .int .i64 (n3 : Int), .slice A5 v.length c5, .int .i64 ((n4 : Int) - 1)]) := zH (by simpa using HKL5.out)
    have HS3 := zH (HS2.out.call HBL.out hgb HRD5.out.r HON5.out)
    clear y3 f3 HKL5 HRD5 HON5 HS2
    have HOKS : Hid (okT (ls ++ [l]) = (okT ls && (decide (Tb.named (n1 : Int) (n2 : Int)) && (match ls.getLast? with | none => true | some p => decide (p.s < (n1 : Int)))))) := zH (by rw [okT_snoc, HL.out])
    obtain ⟨f0, hf0⟩ : ∃ x, (ok0 && okT ls) = x := ⟨_, rfl⟩
    have HF0 := zH hf0
    rw [hf0]
    clear hf0
    obtain ⟨nm, hnm⟩ : ∃ x, decide (Tb.named (n1 : Int) (n2 : Int)) = x := ⟨_, rfl⟩
    have CN := zH (fun w => refNamed_any w (n1 : Int) (n2 : Int))
    rw [hnm] at CN HOKS
    clear hnm
    cases f0 with
    | false =>
      have hb2 := HS3.out.blk
      unfold machC at hb2
      simp only at hb2
      have hbd : Below w11.heap.size w11 w11.drew := (Below.refl _ _).drew
      have HS : Hid ((fun w' => Blk w' g 31 #[.slice A0 reg.length c0, .slice A1 acc.length c1, .slice A2 lk.length c2, .slice A3 ps.length c3, .slice At ls.length ct] /\ Blk w' e 79 #[.int .i64 (n1 : Int), .int .i64 (n2 : Int), .int .i64 (n3 : Int), .slice A5 v.length c5, .int .i64 ((n4 : Int) - 1)]) w11.drew) := zH ⟨hb2.below hbd, HKL.out.below hbd⟩
      have HS4 := zH (HS3.out.below HBL.out hbd)
      have HV4 := zH (own_below HV.out hbd)
      refine wp_region_held_drew (S := fun w' => Blk w' g 31 #[.slice A0 reg.length c0, .slice A1 acc.length c1, .slice A2 lk.length c2, .slice A3 ps.length c3, .slice At ls.length ct] /\ Blk w' e 79 #[.int .i64 (n1 : Int), .int .i64 (n2 : Int), .int .i64 (n3 : Int), .slice A5 v.length c5, .int .i64 ((n4 : Int) - 1)]) (by kernel_rfl) HS.out (fun _ => ?_)
      clear hbd hb2 HS3 HV HKL
      generalize w11.drew = w12 at HS HS4 HV4 |-
      refine tkL (i := 0) (v := .bool false) rfl (fun w _ => by go_simp) HS.out ?_
      refine rdH (rs := [1]) ?_
      refine AllReadyH.cons rfl (fun K hK => ?_) AllReadyH.nil
      go_simp
      refine hK.out _ _ HS.out (fun _ => ?_)
      clear hK K
      refine tkR (i := 2) rfl HS.out ?_
      refine tkR (i := 3) rfl HS.out ?_
      refine tkR (i := 4) rfl HS.out ?_
      refine tkR (i := 5) rfl HS.out ?_
      refine tkR (i := 6) rfl HS.out ?_
      refine rdH (rs := [7]) ?_
      refine AllReadyH.cons rfl (fun K hK => ?_) AllReadyH.nil
      go_simp
      refine hK.out _ _ HS.out (fun _ => ?_)
      clear hK K
      refine rdH (rs := [8]) ?_
      refine AllReadyH.cons rfl (fun K hK => ?_) AllReadyH.nil
      go_simp
      refine hK.out _ _ HS.out (fun _ => ?_)
      clear hK K
      refine tkR (i := 9) rfl HS.out ?_
      refine tkR (i := 10) rfl HS.out ?_
      refine tkR (i := 11) rfl HS.out ?_
      refine tkR (i := 12) rfl HS.out ?_
      refine tkR (i := 13) rfl HS.out ?_
      refine tkR (i := 14) rfl HS.out ?_
      refine tkR (i := 15) rfl HS.out ?_
      refine tkR (i := 16) rfl HS.out ?_
      refine tkR (i := 17) rfl HS.out ?_
      refine tkR (i := 18) rfl HS.out ?_
      refine tkR (i := 19) rfl HS.out ?_
      refine tkR (i := 20) rfl HS.out ?_
      refine tkR (i := 21) rfl HS.out ?_
      refine tkR (i := 22) rfl HS.out ?_
      refine tkR (i := 23) rfl HS.out ?_
      refine tkR (i := 24) rfl HS.out ?_
      refine tkR (i := 25) rfl HS.out ?_
      refine tkR (i := 26) rfl HS.out ?_
      refine rdH (rs := [27]) ?_
      refine AllReadyH.cons rfl (fun K hK => ?_) AllReadyH.nil
      go_simp
      refine hK.out _ _ HS.out (fun _ => ?_)
      clear hK K
      refine rdH (rs := [28]) ?_
      refine AllReadyH.cons rfl (fun K hK => ?_) AllReadyH.nil
      go_simp
      refine hK.out _ _ HS.out (fun _ => ?_)
      clear hK K
      refine wpAnyH_done (by kernel_rfl) ?_ _
      obtain ⟨x0, x1, x2, x3, x4⟩ := five (t := 31) HS.out.1
      obtain ⟨y0, y1, y2, y3, y4⟩ := five (t := 79) HS.out.2
      have HSRC : Hid (Rd (w12.alloc (.cells #[.int .i64 (n1 : Int), .int .i64 (n2 : Int), .int .i64 (n3 : Int), .slice A5 v.length c5, .int .i64 ((n4 : Int) - 1)] 79)) (w12.heap.size + 1) (some ⟨w12.heap.size, 0, none⟩) (1 * 5) (lastC A5 c5 ⟨n1, n2, n3, v, (n4 : Int) - 1⟩)) := zH (Rd.made w12 #[.int .i64 (n1 : Int), .int .i64 (n2 : Int), .int .i64 (n3 : Int), .slice A5 v.length c5, .int .i64 ((n4 : Int) - 1)] 79 (0, 0) 5 rfl)
      have bb : Below w12.heap.size w12 (w12.alloc (.cells #[.int .i64 (n1 : Int), .int .i64 (n2 : Int), .int .i64 (n3 : Int), .slice A5 v.length c5, .int .i64 ((n4 : Int) - 1)] 79)) := (Below.refl _ _).alloc lR _
      have hst := HS4.out.below HBL.out bb
      obtain ⟨vs, hq1, hq2⟩ := hst.own.t
      have hrow : (w12.alloc (.cells #[.int .i64 (n1 : Int), .int .i64 (n2 : Int), .int .i64 (n3 : Int), .slice A5 v.length c5, .int .i64 ((n4 : Int) - 1)] 79)).ownsRow w.heap.size 79 5 (.slice At ls.length ct) ls.length vs := hq1
      have hss := hst.rd.size
      have HSS := zH hss
      have HROW := zH hrow
      have HPOST : Hid (∀ A7 c7 w13, w13.ownsRow w.heap.size 79 5 (.slice A7 (ls.length + 1) c7) (ls.length + 1) (vs ++ lastC A5 c5 ⟨n1, n2, n3, v, (n4 : Int) - 1⟩) -> (w12.alloc (.cells #[.int .i64 (n1 : Int), .int .i64 (n2 : Int), .int .i64 (n3 : Int), .slice A5 v.length c5, .int .i64 ((n4 : Int) - 1)] 79)).grownBy w13 (Value.slice At ls.length ct).ownBlock -> Hid (Blk w13 g 31 #[.slice A0 reg.length c0, .slice A1 acc.length c1, .slice A2 lk.length c2, .slice A3 ps.length c3, .slice At ls.length ct]) /\ Hid (McSt w (w13.setCell ⟨g, 4, none⟩ (.slice A7 (ls.length + 1) c7)) B b g ⟨⟨A0, c0, A1, c1, A2, c2, A3, c3⟩, A7, c7⟩ ⟨⟨reg, acc, lk, ps⟩, ls ++ [l]⟩ t5)) := zH (by
       intro A7 c7 w13 ho7 hg7
       have hbw : Below w.heap.size (w12.alloc (.cells #[.int .i64 (n1 : Int), .int .i64 (n2 : Int), .int .i64 (n3 : Int), .slice A5 v.length c5, .int .i64 ((n4 : Int) - 1)] 79)) w13 := (Below.refl _ _).grown hg7 hss (fun k hk => (hrow.lt k hk).1)
       have hown : OwnM w w13 ⟨⟨A0, c0, A1, c1, A2, c2, A3, c3⟩, A7, c7⟩ ⟨⟨reg, acc, lk, ps⟩, ls ++ [l]⟩ := ⟨⟨own_grown_t hst.own.o.o0 hrow (by decide) hg7, hst.own.o.o1.grownL hrow hg7, own_grown_t hst.own.o.o2 hrow (by decide) hg7, hst.own.o.o3.grownL hrow hg7⟩, ⟨_, by rw [List.length_append]; exact ho7, by rw [HL.out]; exact OwnsL.grown (OwnsL.snoc hq2 (own_below HV4.out bb)) (by decide) hrow hg7⟩⟩
       have hres7 := hst.res.apart_own hrow (by decide) hg7
       have hblk7 := hst.blk.apart_own hrow (by decide) hg7
       have hrd7 := hst.rd.belowW hbw HBL.out
       exact ⟨zH hblk7, zH ⟨hres7.set_other (by omega), by have q := hblk7.set_ 4 (.slice A7 (ls.length + 1) c7); simpa [machC] using q, hown.set_t hblk7 (by decide) (by decide) (by decide) (by decide) (by decide), hrd7.set HBL.out (by omega)⟩⟩)
      clear bb hst hq1 hq2 hrow hss
      go_wp2_with (first
       | (at_builtin
          refine wpList_append_atS (w := w12.alloc (.cells #[.int .i64 (n1 : Int), .int .i64 (n2 : Int), .int .i64 (n3 : Int), .slice A5 v.length c5, .int .i64 ((n4 : Int) - 1)] 79)) (c' := 1) w.heap.size HSS.out cellL (.tmp 69) (.tmp 71) rfl (by rfl) rfl HROW.out rfl HSRC.out (lastC_one A5 c5 _) (by omega) (by omega) ?_
          intro A7 c7 w13 ho7 hg7
          obtain ⟨hb7, HFIN⟩ := HPOST.out A7 c7 w13 ho7 hg7
          clear x0 x1 x2 x3 x4 y0 y1 y2 y3 y4
          obtain ⟨x0, x1, x2, x3, x4⟩ := five (t := 31) hb7.out
          obtain ⟨f0', f1, f2, f3, f4⟩ := five_frozen hb7.out
          clear ho7 hg7 hb7 HPOST)
       | fail)
      go_roundw
      case rel => exact ⟨j, A7, c7, ls ++ [l], t5, by simp; omega, by go_num, congrArg Value.bool (by rw [HOKS.out]; have h := HF0.out; revert h; cases ok0 <;> cases okT ls <;> simp), HFIN, HQ2⟩
      case measure => simp only [intOf]; omega
    | true =>
      cases nm with
      | false =>
        have hb2 := HS3.out.blk
        unfold machC at hb2
        simp only at hb2
        have hbd : Below w11.heap.size w11 w11.drew := (Below.refl _ _).drew
        have HS : Hid ((fun w' => Blk w' g 31 #[.slice A0 reg.length c0, .slice A1 acc.length c1, .slice A2 lk.length c2, .slice A3 ps.length c3, .slice At ls.length ct] /\ Blk w' e 79 #[.int .i64 (n1 : Int), .int .i64 (n2 : Int), .int .i64 (n3 : Int), .slice A5 v.length c5, .int .i64 ((n4 : Int) - 1)]) w11.drew) := zH ⟨hb2.below hbd, HKL.out.below hbd⟩
        have HS4 := zH (HS3.out.below HBL.out hbd)
        have HV4 := zH (own_below HV.out hbd)
        refine wp_region_held_drew (S := fun w' => Blk w' g 31 #[.slice A0 reg.length c0, .slice A1 acc.length c1, .slice A2 lk.length c2, .slice A3 ps.length c3, .slice At ls.length ct] /\ Blk w' e 79 #[.int .i64 (n1 : Int), .int .i64 (n2 : Int), .int .i64 (n3 : Int), .slice A5 v.length c5, .int .i64 ((n4 : Int) - 1)]) (by kernel_rfl) HS.out (fun _ => ?_)
        clear hbd hb2 HS3 HV HKL
        generalize w11.drew = w12 at HS HS4 HV4 |-
        refine tkL (i := 0) (v := .bool true) rfl (fun w _ => by go_simp) HS.out ?_
        refine tkL (i := 1) (v := .bool true) rfl (fun w _ => by go_simp) HS.out ?_
        refine tkL (i := 2) (v := .pointer (some ⟨e, 0, none⟩)) rfl (fun w _ => by go_simp) HS.out ?_
        refine tkL (i := 3) (v := .int .i64 (n1 : Int)) rfl (fun w h => by obtain ⟨q0, q1, q2, q3, q4⟩ := five (t := 79) h.2; go_simp) HS.out ?_
        refine tkL (i := 4) (v := .pointer (some ⟨e, 1, none⟩)) rfl (fun w _ => by go_simp) HS.out ?_
        refine tkL (i := 5) (v := .int .i64 (n2 : Int)) rfl (fun w h => by obtain ⟨q0, q1, q2, q3, q4⟩ := five (t := 79) h.2; go_simp) HS.out ?_
        refine rdH (rs := [6]) ?_
        refine AllReadyH.cons rfl (fun K hK => ?_) AllReadyH.nil
        go_simp
        refine (CN.out _).mono ?_
        rintro en w13 ⟨rfl, rfl⟩
        go_simp
        refine hK.out _ _ HS.out (fun _ => ?_)
        clear hK K
        refine rdH (rs := [7]) ?_
        refine AllReadyH.cons rfl (fun K hK => ?_) AllReadyH.nil
        go_simp
        refine hK.out _ _ HS.out (fun _ => ?_)
        clear hK K
        refine rdH (rs := [8]) ?_
        refine AllReadyH.cons rfl (fun K hK => ?_) AllReadyH.nil
        go_simp
        refine hK.out _ _ HS.out (fun _ => ?_)
        clear hK K
        refine tkR (i := 9) rfl HS.out ?_
        refine tkR (i := 10) rfl HS.out ?_
        refine tkR (i := 11) rfl HS.out ?_
        refine tkR (i := 12) rfl HS.out ?_
        refine tkR (i := 13) rfl HS.out ?_
        refine tkR (i := 14) rfl HS.out ?_
        refine tkR (i := 15) rfl HS.out ?_
        refine tkR (i := 16) rfl HS.out ?_
        refine tkR (i := 17) rfl HS.out ?_
        refine tkR (i := 18) rfl HS.out ?_
        refine tkR (i := 19) rfl HS.out ?_
        refine tkR (i := 20) rfl HS.out ?_
        refine tkR (i := 21) rfl HS.out ?_
        refine tkR (i := 22) rfl HS.out ?_
        refine tkR (i := 23) rfl HS.out ?_
        refine tkR (i := 24) rfl HS.out ?_
        refine tkR (i := 25) rfl HS.out ?_
        refine tkR (i := 26) rfl HS.out ?_
        refine rdH (rs := [27]) ?_
        refine AllReadyH.cons rfl (fun K hK => ?_) AllReadyH.nil
        go_simp
        refine hK.out _ _ HS.out (fun _ => ?_)
        clear hK K
        refine rdH (rs := [28]) ?_
        refine AllReadyH.cons rfl (fun K hK => ?_) AllReadyH.nil
        go_simp
        refine hK.out _ _ HS.out (fun _ => ?_)
        clear hK K
        refine wpAnyH_done (by kernel_rfl) ?_ _
        obtain ⟨x0, x1, x2, x3, x4⟩ := five (t := 31) HS.out.1
        obtain ⟨y0, y1, y2, y3, y4⟩ := five (t := 79) HS.out.2
        have HSRC : Hid (Rd (w12.alloc (.cells #[.int .i64 (n1 : Int), .int .i64 (n2 : Int), .int .i64 (n3 : Int), .slice A5 v.length c5, .int .i64 ((n4 : Int) - 1)] 79)) (w12.heap.size + 1) (some ⟨w12.heap.size, 0, none⟩) (1 * 5) (lastC A5 c5 ⟨n1, n2, n3, v, (n4 : Int) - 1⟩)) := zH (Rd.made w12 #[.int .i64 (n1 : Int), .int .i64 (n2 : Int), .int .i64 (n3 : Int), .slice A5 v.length c5, .int .i64 ((n4 : Int) - 1)] 79 (0, 0) 5 rfl)
        have bb : Below w12.heap.size w12 (w12.alloc (.cells #[.int .i64 (n1 : Int), .int .i64 (n2 : Int), .int .i64 (n3 : Int), .slice A5 v.length c5, .int .i64 ((n4 : Int) - 1)] 79)) := (Below.refl _ _).alloc lR _
        have hst := HS4.out.below HBL.out bb
        obtain ⟨vs, hq1, hq2⟩ := hst.own.t
        have hrow : (w12.alloc (.cells #[.int .i64 (n1 : Int), .int .i64 (n2 : Int), .int .i64 (n3 : Int), .slice A5 v.length c5, .int .i64 ((n4 : Int) - 1)] 79)).ownsRow w.heap.size 79 5 (.slice At ls.length ct) ls.length vs := hq1
        have hss := hst.rd.size
        have HSS := zH hss
        have HROW := zH hrow
        have HPOST : Hid (∀ A7 c7 w13, w13.ownsRow w.heap.size 79 5 (.slice A7 (ls.length + 1) c7) (ls.length + 1) (vs ++ lastC A5 c5 ⟨n1, n2, n3, v, (n4 : Int) - 1⟩) -> (w12.alloc (.cells #[.int .i64 (n1 : Int), .int .i64 (n2 : Int), .int .i64 (n3 : Int), .slice A5 v.length c5, .int .i64 ((n4 : Int) - 1)] 79)).grownBy w13 (Value.slice At ls.length ct).ownBlock -> Hid (Blk w13 g 31 #[.slice A0 reg.length c0, .slice A1 acc.length c1, .slice A2 lk.length c2, .slice A3 ps.length c3, .slice At ls.length ct]) /\ Hid (McSt w (w13.setCell ⟨g, 4, none⟩ (.slice A7 (ls.length + 1) c7)) B b g ⟨⟨A0, c0, A1, c1, A2, c2, A3, c3⟩, A7, c7⟩ ⟨⟨reg, acc, lk, ps⟩, ls ++ [l]⟩ t5)) := zH (by
         intro A7 c7 w13 ho7 hg7
         have hbw : Below w.heap.size (w12.alloc (.cells #[.int .i64 (n1 : Int), .int .i64 (n2 : Int), .int .i64 (n3 : Int), .slice A5 v.length c5, .int .i64 ((n4 : Int) - 1)] 79)) w13 := (Below.refl _ _).grown hg7 hss (fun k hk => (hrow.lt k hk).1)
         have hown : OwnM w w13 ⟨⟨A0, c0, A1, c1, A2, c2, A3, c3⟩, A7, c7⟩ ⟨⟨reg, acc, lk, ps⟩, ls ++ [l]⟩ := ⟨⟨own_grown_t hst.own.o.o0 hrow (by decide) hg7, hst.own.o.o1.grownL hrow hg7, own_grown_t hst.own.o.o2 hrow (by decide) hg7, hst.own.o.o3.grownL hrow hg7⟩, ⟨_, by rw [List.length_append]; exact ho7, by rw [HL.out]; exact OwnsL.grown (OwnsL.snoc hq2 (own_below HV4.out bb)) (by decide) hrow hg7⟩⟩
         have hres7 := hst.res.apart_own hrow (by decide) hg7
         have hblk7 := hst.blk.apart_own hrow (by decide) hg7
         have hrd7 := hst.rd.belowW hbw HBL.out
         exact ⟨zH hblk7, zH ⟨hres7.set_other (by omega), by have q := hblk7.set_ 4 (.slice A7 (ls.length + 1) c7); simpa [machC] using q, hown.set_t hblk7 (by decide) (by decide) (by decide) (by decide) (by decide), hrd7.set HBL.out (by omega)⟩⟩)
        clear bb hst hq1 hq2 hrow hss
        go_wp2_with (first
         | (at_builtin
            refine wpList_append_atS (w := w12.alloc (.cells #[.int .i64 (n1 : Int), .int .i64 (n2 : Int), .int .i64 (n3 : Int), .slice A5 v.length c5, .int .i64 ((n4 : Int) - 1)] 79)) (c' := 1) w.heap.size HSS.out cellL (.tmp 69) (.tmp 71) rfl (by rfl) rfl HROW.out rfl HSRC.out (lastC_one A5 c5 _) (by omega) (by omega) ?_
            intro A7 c7 w13 ho7 hg7
            obtain ⟨hb7, HFIN⟩ := HPOST.out A7 c7 w13 ho7 hg7
            clear x0 x1 x2 x3 x4 y0 y1 y2 y3 y4
            obtain ⟨x0, x1, x2, x3, x4⟩ := five (t := 31) hb7.out
            obtain ⟨f0', f1, f2, f3, f4⟩ := five_frozen hb7.out
            clear ho7 hg7 hb7 HPOST)
         | fail)
        go_roundw
        case rel => exact ⟨j, A7, c7, ls ++ [l], t5, by simp; omega, by go_num, congrArg Value.bool (by rw [HOKS.out]; have h := HF0.out; revert h; cases ok0 <;> cases okT ls <;> simp), HFIN, HQ2⟩
        case measure => simp only [intOf]; omega
      | true =>
        by_cases hps : ls.length = 0
        · have hpi : ((ls.length : Int) == 0) = true := by simpa using hps
          have HGL : Hid (ls.getLast? = none) := zH (by rw [List.length_eq_zero_iff.1 hps]; rfl)
          clear hps
          have hb2 := HS3.out.blk
          unfold machC at hb2
          simp only at hb2
          have hbd : Below w11.heap.size w11 w11.drew := (Below.refl _ _).drew
          have HS : Hid ((fun w' => Blk w' g 31 #[.slice A0 reg.length c0, .slice A1 acc.length c1, .slice A2 lk.length c2, .slice A3 ps.length c3, .slice At ls.length ct] /\ Blk w' e 79 #[.int .i64 (n1 : Int), .int .i64 (n2 : Int), .int .i64 (n3 : Int), .slice A5 v.length c5, .int .i64 ((n4 : Int) - 1)]) w11.drew) := zH ⟨hb2.below hbd, HKL.out.below hbd⟩
          have HS4 := zH (HS3.out.below HBL.out hbd)
          have HV4 := zH (own_below HV.out hbd)
          refine wp_region_held_drew (S := fun w' => Blk w' g 31 #[.slice A0 reg.length c0, .slice A1 acc.length c1, .slice A2 lk.length c2, .slice A3 ps.length c3, .slice At ls.length ct] /\ Blk w' e 79 #[.int .i64 (n1 : Int), .int .i64 (n2 : Int), .int .i64 (n3 : Int), .slice A5 v.length c5, .int .i64 ((n4 : Int) - 1)]) (by kernel_rfl) HS.out (fun _ => ?_)
          clear hbd hb2 HS3 HV HKL
          generalize w11.drew = w12 at HS HS4 HV4 |-
          refine tkL (i := 0) (v := .bool true) rfl (fun w _ => by go_simp) HS.out ?_
          refine tkL (i := 1) (v := .bool true) rfl (fun w _ => by go_simp) HS.out ?_
          refine tkL (i := 2) (v := .pointer (some ⟨e, 0, none⟩)) rfl (fun w _ => by go_simp) HS.out ?_
          refine tkL (i := 3) (v := .int .i64 (n1 : Int)) rfl (fun w h => by obtain ⟨q0, q1, q2, q3, q4⟩ := five (t := 79) h.2; go_simp) HS.out ?_
          refine tkL (i := 4) (v := .pointer (some ⟨e, 1, none⟩)) rfl (fun w _ => by go_simp) HS.out ?_
          refine tkL (i := 5) (v := .int .i64 (n2 : Int)) rfl (fun w h => by obtain ⟨q0, q1, q2, q3, q4⟩ := five (t := 79) h.2; go_simp) HS.out ?_
          refine rdH (rs := [6]) ?_
          refine AllReadyH.cons rfl (fun K hK => ?_) AllReadyH.nil
          go_simp
          refine (CN.out _).mono ?_
          rintro en w13 ⟨rfl, rfl⟩
          go_simp
          refine hK.out _ _ HS.out (fun _ => ?_)
          clear hK K
          refine tkL (i := 7) (v := .bool true) rfl (fun w _ => by go_simp) HS.out ?_
          refine tkL (i := 8) (v := .bool true) rfl (fun w _ => by go_simp) HS.out ?_
          refine tkL (i := 9) (v := .pointer (some ⟨g, 4, none⟩)) rfl (fun w _ => by go_simp) HS.out ?_
          refine tkL (i := 10) (v := .slice At ls.length ct) rfl (fun w h => by obtain ⟨q0, q1, q2, q3, q4⟩ := five (t := 31) h.1; go_simp) HS.out ?_
          refine tkL (i := 11) (v := .int .i64 (ls.length : Int)) rfl (fun w _ => by go_simp) HS.out ?_
          refine tkL (i := 12) (v := .bool true) rfl (fun w _ => by go_simp) HS.out ?_
          refine rdH (rs := [13]) ?_
          refine AllReadyH.cons rfl (fun K hK => ?_) AllReadyH.nil
          go_simp
          refine hK.out _ _ HS.out (fun _ => ?_)
          clear hK K
          refine tkR (i := 14) rfl HS.out ?_
          refine tkR (i := 15) rfl HS.out ?_
          refine tkR (i := 16) rfl HS.out ?_
          refine tkR (i := 17) rfl HS.out ?_
          refine tkR (i := 18) rfl HS.out ?_
          refine tkR (i := 19) rfl HS.out ?_
          refine tkR (i := 20) rfl HS.out ?_
          refine tkR (i := 21) rfl HS.out ?_
          refine tkR (i := 22) rfl HS.out ?_
          refine tkR (i := 23) rfl HS.out ?_
          refine tkR (i := 24) rfl HS.out ?_
          refine tkR (i := 25) rfl HS.out ?_
          refine rdH (rs := [26]) ?_
          refine AllReadyH.cons rfl (fun K hK => ?_) AllReadyH.nil
          go_simp
          refine hK.out _ _ HS.out (fun _ => ?_)
          clear hK K
          refine rdH (rs := [27]) ?_
          refine AllReadyH.cons rfl (fun K hK => ?_) AllReadyH.nil
          go_simp
          refine hK.out _ _ HS.out (fun _ => ?_)
          clear hK K
          refine rdH (rs := [28]) ?_
          refine AllReadyH.cons rfl (fun K hK => ?_) AllReadyH.nil
          go_simp
          refine hK.out _ _ HS.out (fun _ => ?_)
          clear hK K
          refine wpAnyH_done (by kernel_rfl) ?_ _
          obtain ⟨x0, x1, x2, x3, x4⟩ := five (t := 31) HS.out.1
          obtain ⟨y0, y1, y2, y3, y4⟩ := five (t := 79) HS.out.2
          have HSRC : Hid (Rd (w12.alloc (.cells #[.int .i64 (n1 : Int), .int .i64 (n2 : Int), .int .i64 (n3 : Int), .slice A5 v.length c5, .int .i64 ((n4 : Int) - 1)] 79)) (w12.heap.size + 1) (some ⟨w12.heap.size, 0, none⟩) (1 * 5) (lastC A5 c5 ⟨n1, n2, n3, v, (n4 : Int) - 1⟩)) := zH (Rd.made w12 #[.int .i64 (n1 : Int), .int .i64 (n2 : Int), .int .i64 (n3 : Int), .slice A5 v.length c5, .int .i64 ((n4 : Int) - 1)] 79 (0, 0) 5 rfl)
          have bb : Below w12.heap.size w12 (w12.alloc (.cells #[.int .i64 (n1 : Int), .int .i64 (n2 : Int), .int .i64 (n3 : Int), .slice A5 v.length c5, .int .i64 ((n4 : Int) - 1)] 79)) := (Below.refl _ _).alloc lR _
          have hst := HS4.out.below HBL.out bb
          obtain ⟨vs, hq1, hq2⟩ := hst.own.t
          have hrow : (w12.alloc (.cells #[.int .i64 (n1 : Int), .int .i64 (n2 : Int), .int .i64 (n3 : Int), .slice A5 v.length c5, .int .i64 ((n4 : Int) - 1)] 79)).ownsRow w.heap.size 79 5 (.slice At ls.length ct) ls.length vs := hq1
          have hss := hst.rd.size
          have HSS := zH hss
          have HROW := zH hrow
          have HPOST : Hid (∀ A7 c7 w13, w13.ownsRow w.heap.size 79 5 (.slice A7 (ls.length + 1) c7) (ls.length + 1) (vs ++ lastC A5 c5 ⟨n1, n2, n3, v, (n4 : Int) - 1⟩) -> (w12.alloc (.cells #[.int .i64 (n1 : Int), .int .i64 (n2 : Int), .int .i64 (n3 : Int), .slice A5 v.length c5, .int .i64 ((n4 : Int) - 1)] 79)).grownBy w13 (Value.slice At ls.length ct).ownBlock -> Hid (Blk w13 g 31 #[.slice A0 reg.length c0, .slice A1 acc.length c1, .slice A2 lk.length c2, .slice A3 ps.length c3, .slice At ls.length ct]) /\ Hid (McSt w (w13.setCell ⟨g, 4, none⟩ (.slice A7 (ls.length + 1) c7)) B b g ⟨⟨A0, c0, A1, c1, A2, c2, A3, c3⟩, A7, c7⟩ ⟨⟨reg, acc, lk, ps⟩, ls ++ [l]⟩ t5)) := zH (by
           intro A7 c7 w13 ho7 hg7
           have hbw : Below w.heap.size (w12.alloc (.cells #[.int .i64 (n1 : Int), .int .i64 (n2 : Int), .int .i64 (n3 : Int), .slice A5 v.length c5, .int .i64 ((n4 : Int) - 1)] 79)) w13 := (Below.refl _ _).grown hg7 hss (fun k hk => (hrow.lt k hk).1)
           have hown : OwnM w w13 ⟨⟨A0, c0, A1, c1, A2, c2, A3, c3⟩, A7, c7⟩ ⟨⟨reg, acc, lk, ps⟩, ls ++ [l]⟩ := ⟨⟨own_grown_t hst.own.o.o0 hrow (by decide) hg7, hst.own.o.o1.grownL hrow hg7, own_grown_t hst.own.o.o2 hrow (by decide) hg7, hst.own.o.o3.grownL hrow hg7⟩, ⟨_, by rw [List.length_append]; exact ho7, by rw [HL.out]; exact OwnsL.grown (OwnsL.snoc hq2 (own_below HV4.out bb)) (by decide) hrow hg7⟩⟩
           have hres7 := hst.res.apart_own hrow (by decide) hg7
           have hblk7 := hst.blk.apart_own hrow (by decide) hg7
           have hrd7 := hst.rd.belowW hbw HBL.out
           exact ⟨zH hblk7, zH ⟨hres7.set_other (by omega), by have q := hblk7.set_ 4 (.slice A7 (ls.length + 1) c7); simpa [machC] using q, hown.set_t hblk7 (by decide) (by decide) (by decide) (by decide) (by decide), hrd7.set HBL.out (by omega)⟩⟩)
          clear bb hst hq1 hq2 hrow hss
          go_wp2_with (first
           | (at_builtin
              refine wpList_append_atS (w := w12.alloc (.cells #[.int .i64 (n1 : Int), .int .i64 (n2 : Int), .int .i64 (n3 : Int), .slice A5 v.length c5, .int .i64 ((n4 : Int) - 1)] 79)) (c' := 1) w.heap.size HSS.out cellL (.tmp 69) (.tmp 71) rfl (by rfl) rfl HROW.out rfl HSRC.out (lastC_one A5 c5 _) (by omega) (by omega) ?_
              intro A7 c7 w13 ho7 hg7
              obtain ⟨hb7, HFIN⟩ := HPOST.out A7 c7 w13 ho7 hg7
              clear x0 x1 x2 x3 x4 y0 y1 y2 y3 y4
              obtain ⟨x0, x1, x2, x3, x4⟩ := five (t := 31) hb7.out
              obtain ⟨f0', f1, f2, f3, f4⟩ := five_frozen hb7.out
              clear ho7 hg7 hb7 HPOST)
           | fail)
          go_roundw
          case rel => exact ⟨j, A7, c7, ls ++ [l], t5, by simp; omega, by go_num, congrArg Value.bool (by rw [HOKS.out, HGL.out]; have h := HF0.out; revert h; cases ok0 <;> cases okT ls <;> simp), HFIN, HQ2⟩
          case measure => simp only [intOf]; omega
        · obtain ⟨m, hm⟩ : ∃ m, ls.length = m + 1 := ⟨ls.length - 1, by omega⟩
          obtain ⟨b3, pl, A8, c8, hA, hpl, _, _, hcl1, _⟩ := HS3.out.own.t.at (k := m) (show m < ls.length by omega)
          have hA : At = some ⟨b3, 0, none⟩ := hA
          subst hA
          have hpl : ls[m]? = some pl := hpl
          have HGL : Hid (ls.getLast? = some pl) := zH (by rw [List.getLast?_eq_getElem?, hm]; exact hpl)
          have hpi : ((ls.length : Int) == 0) = false := by rw [hm]; simp; omega
          have hsub : IntKind.i64.wrap ((ls.length : Int) - 1) = (m : Int) := by rw [hm, show ((m + 1 : Nat) : Int) - 1 = (m : Int) by omega]; exact IntWalk.i64_in _ (by omega)
          have hml : (m : Int) < (ls.length : Int) := by omega
          have hm0 : (0 : Int) <= (m : Int) := by omega
          by_cases hlt : pl.s < (n1 : Int)
          · have HLT : Hid (decide (pl.s < (n1 : Int)) = true) := zH (decide_eq_true hlt)
            have hb2 := HS3.out.blk
            unfold machC at hb2
            simp only at hb2
            have hbd : Below w11.heap.size w11 w11.drew := (Below.refl _ _).drew
            have HS : Hid ((fun w' => Blk w' g 31 #[.slice A0 reg.length c0, .slice A1 acc.length c1, .slice A2 lk.length c2, .slice A3 ps.length c3, .slice (some ⟨b3, 0, none⟩) ls.length ct] /\ Blk w' e 79 #[.int .i64 (n1 : Int), .int .i64 (n2 : Int), .int .i64 (n3 : Int), .slice A5 v.length c5, .int .i64 ((n4 : Int) - 1)] /\ w'.cell? ⟨b3, m * 5, none⟩ = some (.int .i64 pl.s)) w11.drew) := zH ⟨hb2.below hbd, HKL.out.below hbd, (hbd.cell (p := ⟨b3, m * 5, none⟩) (World.block_lt_of_cell? _ _ hcl1)).trans hcl1⟩
            have HS4 := zH (HS3.out.below HBL.out hbd)
            have HV4 := zH (own_below HV.out hbd)
            refine wp_region_held_drew (S := fun w' => Blk w' g 31 #[.slice A0 reg.length c0, .slice A1 acc.length c1, .slice A2 lk.length c2, .slice A3 ps.length c3, .slice (some ⟨b3, 0, none⟩) ls.length ct] /\ Blk w' e 79 #[.int .i64 (n1 : Int), .int .i64 (n2 : Int), .int .i64 (n3 : Int), .slice A5 v.length c5, .int .i64 ((n4 : Int) - 1)] /\ w'.cell? ⟨b3, m * 5, none⟩ = some (.int .i64 pl.s)) (by kernel_rfl) HS.out (fun _ => ?_)
            clear hbd hb2 HS3 HV HKL hps hpl hcl1 hm
            generalize w11.drew = w12 at HS HS4 HV4 |-
            refine tkL (i := 0) (v := .bool true) rfl (fun w _ => by go_simp) HS.out ?_
            refine tkL (i := 1) (v := .bool true) rfl (fun w _ => by go_simp) HS.out ?_
            refine tkL (i := 2) (v := .pointer (some ⟨e, 0, none⟩)) rfl (fun w _ => by go_simp) HS.out ?_
            refine tkL (i := 3) (v := .int .i64 (n1 : Int)) rfl (fun w h => by obtain ⟨q0, q1, q2, q3, q4⟩ := five (t := 79) h.2.1; go_simp) HS.out ?_
            refine tkL (i := 4) (v := .pointer (some ⟨e, 1, none⟩)) rfl (fun w _ => by go_simp) HS.out ?_
            refine tkL (i := 5) (v := .int .i64 (n2 : Int)) rfl (fun w h => by obtain ⟨q0, q1, q2, q3, q4⟩ := five (t := 79) h.2.1; go_simp) HS.out ?_
            refine rdH (rs := [6]) ?_
            refine AllReadyH.cons rfl (fun K hK => ?_) AllReadyH.nil
            go_simp
            refine (CN.out _).mono ?_
            rintro en w13 ⟨rfl, rfl⟩
            go_simp
            refine hK.out _ _ HS.out (fun _ => ?_)
            clear hK K
            refine tkL (i := 7) (v := .bool true) rfl (fun w _ => by go_simp) HS.out ?_
            refine tkL (i := 8) (v := .bool true) rfl (fun w _ => by go_simp) HS.out ?_
            refine tkL (i := 9) (v := .pointer (some ⟨g, 4, none⟩)) rfl (fun w _ => by go_simp) HS.out ?_
            refine tkL (i := 10) (v := .slice (some ⟨b3, 0, none⟩) ls.length ct) rfl (fun w h => by obtain ⟨q0, q1, q2, q3, q4⟩ := five (t := 31) h.1; go_simp) HS.out ?_
            refine tkL (i := 11) (v := .int .i64 (ls.length : Int)) rfl (fun w _ => by go_simp) HS.out ?_
            refine tkL (i := 12) (v := .bool false) rfl (fun w _ => by go_simp) HS.out ?_
            refine rdH (rs := [13]) ?_
            refine AllReadyH.cons rfl (fun K hK => ?_) AllReadyH.nil
            go_simp
            refine hK.out _ _ HS.out (fun _ => ?_)
            clear hK K
            refine tkL (i := 14) (v := .pointer (some ⟨g, 4, none⟩)) rfl (fun w _ => by go_simp) HS.out ?_
            refine tkL (i := 16) (v := .pointer (some ⟨g, 4, none⟩)) rfl (fun w _ => by go_simp) HS.out ?_
            refine tkL (i := 15) (v := .slice (some ⟨b3, 0, none⟩) ls.length ct) rfl (fun w h => by obtain ⟨q0, q1, q2, q3, q4⟩ := five (t := 31) h.1; go_simp) HS.out ?_
            refine tkL (i := 17) (v := .slice (some ⟨b3, 0, none⟩) ls.length ct) rfl (fun w h => by obtain ⟨q0, q1, q2, q3, q4⟩ := five (t := 31) h.1; go_simp) HS.out ?_
            refine tkL (i := 18) (v := .int .i64 (ls.length : Int)) rfl (fun w _ => by go_simp) HS.out ?_
            refine tkL (i := 19) (v := .int .i64 (m : Int)) rfl (fun w _ => by go_simp) HS.out ?_
            refine tkL (i := 20) (v := .pointer (some ⟨b3, m * 5, none⟩)) rfl (fun w _ => by go_simp) HS.out ?_
            refine tkL (i := 21) (v := .pointer (some ⟨b3, m * 5, none⟩)) rfl (fun w _ => by go_simp) HS.out ?_
            refine tkL (i := 22) (v := .int .i64 pl.s) rfl (fun w h => by have q := h.2.2; go_simp) HS.out ?_
            refine tkL (i := 23) (v := .pointer (some ⟨e, 0, none⟩)) rfl (fun w _ => by go_simp) HS.out ?_
            refine tkL (i := 24) (v := .int .i64 (n1 : Int)) rfl (fun w h => by obtain ⟨q0, q1, q2, q3, q4⟩ := five (t := 79) h.2.1; go_simp) HS.out ?_
            refine tkL (i := 25) (v := .bool true) rfl (fun w _ => by go_simp) HS.out ?_
            refine rdH (rs := [26]) ?_
            refine AllReadyH.cons rfl (fun K hK => ?_) AllReadyH.nil
            go_simp
            refine hK.out _ _ HS.out (fun _ => ?_)
            clear hK K
            refine rdH (rs := [27]) ?_
            refine AllReadyH.cons rfl (fun K hK => ?_) AllReadyH.nil
            go_simp
            refine hK.out _ _ HS.out (fun _ => ?_)
            clear hK K
            refine rdH (rs := [28]) ?_
            refine AllReadyH.cons rfl (fun K hK => ?_) AllReadyH.nil
            go_simp
            refine hK.out _ _ HS.out (fun _ => ?_)
            clear hK K
            refine wpAnyH_done (by kernel_rfl) ?_ _
            obtain ⟨x0, x1, x2, x3, x4⟩ := five (t := 31) HS.out.1
            obtain ⟨y0, y1, y2, y3, y4⟩ := five (t := 79) HS.out.2.1
            have HSRC : Hid (Rd (w12.alloc (.cells #[.int .i64 (n1 : Int), .int .i64 (n2 : Int), .int .i64 (n3 : Int), .slice A5 v.length c5, .int .i64 ((n4 : Int) - 1)] 79)) (w12.heap.size + 1) (some ⟨w12.heap.size, 0, none⟩) (1 * 5) (lastC A5 c5 ⟨n1, n2, n3, v, (n4 : Int) - 1⟩)) := zH (Rd.made w12 #[.int .i64 (n1 : Int), .int .i64 (n2 : Int), .int .i64 (n3 : Int), .slice A5 v.length c5, .int .i64 ((n4 : Int) - 1)] 79 (0, 0) 5 rfl)
            have bb : Below w12.heap.size w12 (w12.alloc (.cells #[.int .i64 (n1 : Int), .int .i64 (n2 : Int), .int .i64 (n3 : Int), .slice A5 v.length c5, .int .i64 ((n4 : Int) - 1)] 79)) := (Below.refl _ _).alloc lR _
            have hst := HS4.out.below HBL.out bb
            obtain ⟨vs, hq1, hq2⟩ := hst.own.t
            have hrow : (w12.alloc (.cells #[.int .i64 (n1 : Int), .int .i64 (n2 : Int), .int .i64 (n3 : Int), .slice A5 v.length c5, .int .i64 ((n4 : Int) - 1)] 79)).ownsRow w.heap.size 79 5 (.slice (some ⟨b3, 0, none⟩) ls.length ct) ls.length vs := hq1
            have hss := hst.rd.size
            have HSS := zH hss
            have HROW := zH hrow
            have HPOST : Hid (∀ A7 c7 w13, w13.ownsRow w.heap.size 79 5 (.slice A7 (ls.length + 1) c7) (ls.length + 1) (vs ++ lastC A5 c5 ⟨n1, n2, n3, v, (n4 : Int) - 1⟩) -> (w12.alloc (.cells #[.int .i64 (n1 : Int), .int .i64 (n2 : Int), .int .i64 (n3 : Int), .slice A5 v.length c5, .int .i64 ((n4 : Int) - 1)] 79)).grownBy w13 (Value.slice (some ⟨b3, 0, none⟩) ls.length ct).ownBlock -> Hid (Blk w13 g 31 #[.slice A0 reg.length c0, .slice A1 acc.length c1, .slice A2 lk.length c2, .slice A3 ps.length c3, .slice (some ⟨b3, 0, none⟩) ls.length ct]) /\ Hid (McSt w (w13.setCell ⟨g, 4, none⟩ (.slice A7 (ls.length + 1) c7)) B b g ⟨⟨A0, c0, A1, c1, A2, c2, A3, c3⟩, A7, c7⟩ ⟨⟨reg, acc, lk, ps⟩, ls ++ [l]⟩ t5)) := zH (by
             intro A7 c7 w13 ho7 hg7
             have hbw : Below w.heap.size (w12.alloc (.cells #[.int .i64 (n1 : Int), .int .i64 (n2 : Int), .int .i64 (n3 : Int), .slice A5 v.length c5, .int .i64 ((n4 : Int) - 1)] 79)) w13 := (Below.refl _ _).grown hg7 hss (fun k hk => (hrow.lt k hk).1)
             have hown : OwnM w w13 ⟨⟨A0, c0, A1, c1, A2, c2, A3, c3⟩, A7, c7⟩ ⟨⟨reg, acc, lk, ps⟩, ls ++ [l]⟩ := ⟨⟨own_grown_t hst.own.o.o0 hrow (by decide) hg7, hst.own.o.o1.grownL hrow hg7, own_grown_t hst.own.o.o2 hrow (by decide) hg7, hst.own.o.o3.grownL hrow hg7⟩, ⟨_, by rw [List.length_append]; exact ho7, by rw [HL.out]; exact OwnsL.grown (OwnsL.snoc hq2 (own_below HV4.out bb)) (by decide) hrow hg7⟩⟩
             have hres7 := hst.res.apart_own hrow (by decide) hg7
             have hblk7 := hst.blk.apart_own hrow (by decide) hg7
             have hrd7 := hst.rd.belowW hbw HBL.out
             exact ⟨zH hblk7, zH ⟨hres7.set_other (by omega), by have q := hblk7.set_ 4 (.slice A7 (ls.length + 1) c7); simpa [machC] using q, hown.set_t hblk7 (by decide) (by decide) (by decide) (by decide) (by decide), hrd7.set HBL.out (by omega)⟩⟩)
            clear bb hst hq1 hq2 hrow hss
            go_wp2_with (first
             | (at_builtin
                refine wpList_append_atS (w := w12.alloc (.cells #[.int .i64 (n1 : Int), .int .i64 (n2 : Int), .int .i64 (n3 : Int), .slice A5 v.length c5, .int .i64 ((n4 : Int) - 1)] 79)) (c' := 1) w.heap.size HSS.out cellL (.tmp 69) (.tmp 71) rfl (by rfl) rfl HROW.out rfl HSRC.out (lastC_one A5 c5 _) (by omega) (by omega) ?_
                intro A7 c7 w13 ho7 hg7
                obtain ⟨hb7, HFIN⟩ := HPOST.out A7 c7 w13 ho7 hg7
                clear x0 x1 x2 x3 x4 y0 y1 y2 y3 y4
                obtain ⟨x0, x1, x2, x3, x4⟩ := five (t := 31) hb7.out
                obtain ⟨f0', f1, f2, f3, f4⟩ := five_frozen hb7.out
                clear ho7 hg7 hb7 HPOST)
             | fail)
            go_roundw
            case rel => exact ⟨j, A7, c7, ls ++ [l], t5, by simp; omega, by go_num, congrArg Value.bool (by rw [HOKS.out, HGL.out]; have h := HF0.out; simp only [HLT.out]; revert h; cases ok0 <;> cases okT ls <;> simp), HFIN, HQ2⟩
            case measure => simp only [intOf]; omega
          · have HLT : Hid (decide (pl.s < (n1 : Int)) = false) := zH (decide_eq_false hlt)
            have hb2 := HS3.out.blk
            unfold machC at hb2
            simp only at hb2
            have hbd : Below w11.heap.size w11 w11.drew := (Below.refl _ _).drew
            have HS : Hid ((fun w' => Blk w' g 31 #[.slice A0 reg.length c0, .slice A1 acc.length c1, .slice A2 lk.length c2, .slice A3 ps.length c3, .slice (some ⟨b3, 0, none⟩) ls.length ct] /\ Blk w' e 79 #[.int .i64 (n1 : Int), .int .i64 (n2 : Int), .int .i64 (n3 : Int), .slice A5 v.length c5, .int .i64 ((n4 : Int) - 1)] /\ w'.cell? ⟨b3, m * 5, none⟩ = some (.int .i64 pl.s)) w11.drew) := zH ⟨hb2.below hbd, HKL.out.below hbd, (hbd.cell (p := ⟨b3, m * 5, none⟩) (World.block_lt_of_cell? _ _ hcl1)).trans hcl1⟩
            have HS4 := zH (HS3.out.below HBL.out hbd)
            have HV4 := zH (own_below HV.out hbd)
            refine wp_region_held_drew (S := fun w' => Blk w' g 31 #[.slice A0 reg.length c0, .slice A1 acc.length c1, .slice A2 lk.length c2, .slice A3 ps.length c3, .slice (some ⟨b3, 0, none⟩) ls.length ct] /\ Blk w' e 79 #[.int .i64 (n1 : Int), .int .i64 (n2 : Int), .int .i64 (n3 : Int), .slice A5 v.length c5, .int .i64 ((n4 : Int) - 1)] /\ w'.cell? ⟨b3, m * 5, none⟩ = some (.int .i64 pl.s)) (by kernel_rfl) HS.out (fun _ => ?_)
            clear hbd hb2 HS3 HV HKL hps hpl hcl1 hm
            generalize w11.drew = w12 at HS HS4 HV4 |-
            refine tkL (i := 0) (v := .bool true) rfl (fun w _ => by go_simp) HS.out ?_
            refine tkL (i := 1) (v := .bool true) rfl (fun w _ => by go_simp) HS.out ?_
            refine tkL (i := 2) (v := .pointer (some ⟨e, 0, none⟩)) rfl (fun w _ => by go_simp) HS.out ?_
            refine tkL (i := 3) (v := .int .i64 (n1 : Int)) rfl (fun w h => by obtain ⟨q0, q1, q2, q3, q4⟩ := five (t := 79) h.2.1; go_simp) HS.out ?_
            refine tkL (i := 4) (v := .pointer (some ⟨e, 1, none⟩)) rfl (fun w _ => by go_simp) HS.out ?_
            refine tkL (i := 5) (v := .int .i64 (n2 : Int)) rfl (fun w h => by obtain ⟨q0, q1, q2, q3, q4⟩ := five (t := 79) h.2.1; go_simp) HS.out ?_
            refine rdH (rs := [6]) ?_
            refine AllReadyH.cons rfl (fun K hK => ?_) AllReadyH.nil
            go_simp
            refine (CN.out _).mono ?_
            rintro en w13 ⟨rfl, rfl⟩
            go_simp
            refine hK.out _ _ HS.out (fun _ => ?_)
            clear hK K
            refine tkL (i := 7) (v := .bool true) rfl (fun w _ => by go_simp) HS.out ?_
            refine tkL (i := 8) (v := .bool true) rfl (fun w _ => by go_simp) HS.out ?_
            refine tkL (i := 9) (v := .pointer (some ⟨g, 4, none⟩)) rfl (fun w _ => by go_simp) HS.out ?_
            refine tkL (i := 10) (v := .slice (some ⟨b3, 0, none⟩) ls.length ct) rfl (fun w h => by obtain ⟨q0, q1, q2, q3, q4⟩ := five (t := 31) h.1; go_simp) HS.out ?_
            refine tkL (i := 11) (v := .int .i64 (ls.length : Int)) rfl (fun w _ => by go_simp) HS.out ?_
            refine tkL (i := 12) (v := .bool false) rfl (fun w _ => by go_simp) HS.out ?_
            refine rdH (rs := [13]) ?_
            refine AllReadyH.cons rfl (fun K hK => ?_) AllReadyH.nil
            go_simp
            refine hK.out _ _ HS.out (fun _ => ?_)
            clear hK K
            refine tkL (i := 14) (v := .pointer (some ⟨g, 4, none⟩)) rfl (fun w _ => by go_simp) HS.out ?_
            refine tkL (i := 16) (v := .pointer (some ⟨g, 4, none⟩)) rfl (fun w _ => by go_simp) HS.out ?_
            refine tkL (i := 15) (v := .slice (some ⟨b3, 0, none⟩) ls.length ct) rfl (fun w h => by obtain ⟨q0, q1, q2, q3, q4⟩ := five (t := 31) h.1; go_simp) HS.out ?_
            refine tkL (i := 17) (v := .slice (some ⟨b3, 0, none⟩) ls.length ct) rfl (fun w h => by obtain ⟨q0, q1, q2, q3, q4⟩ := five (t := 31) h.1; go_simp) HS.out ?_
            refine tkL (i := 18) (v := .int .i64 (ls.length : Int)) rfl (fun w _ => by go_simp) HS.out ?_
            refine tkL (i := 19) (v := .int .i64 (m : Int)) rfl (fun w _ => by go_simp) HS.out ?_
            refine tkL (i := 20) (v := .pointer (some ⟨b3, m * 5, none⟩)) rfl (fun w _ => by go_simp) HS.out ?_
            refine tkL (i := 21) (v := .pointer (some ⟨b3, m * 5, none⟩)) rfl (fun w _ => by go_simp) HS.out ?_
            refine tkL (i := 22) (v := .int .i64 pl.s) rfl (fun w h => by have q := h.2.2; go_simp) HS.out ?_
            refine tkL (i := 23) (v := .pointer (some ⟨e, 0, none⟩)) rfl (fun w _ => by go_simp) HS.out ?_
            refine tkL (i := 24) (v := .int .i64 (n1 : Int)) rfl (fun w h => by obtain ⟨q0, q1, q2, q3, q4⟩ := five (t := 79) h.2.1; go_simp) HS.out ?_
            refine tkL (i := 25) (v := .bool false) rfl (fun w _ => by go_simp) HS.out ?_
            refine rdH (rs := [26]) ?_
            refine AllReadyH.cons rfl (fun K hK => ?_) AllReadyH.nil
            go_simp
            refine hK.out _ _ HS.out (fun _ => ?_)
            clear hK K
            refine rdH (rs := [27]) ?_
            refine AllReadyH.cons rfl (fun K hK => ?_) AllReadyH.nil
            go_simp
            refine hK.out _ _ HS.out (fun _ => ?_)
            clear hK K
            refine rdH (rs := [28]) ?_
            refine AllReadyH.cons rfl (fun K hK => ?_) AllReadyH.nil
            go_simp
            refine hK.out _ _ HS.out (fun _ => ?_)
            clear hK K
            refine wpAnyH_done (by kernel_rfl) ?_ _
            obtain ⟨x0, x1, x2, x3, x4⟩ := five (t := 31) HS.out.1
            obtain ⟨y0, y1, y2, y3, y4⟩ := five (t := 79) HS.out.2.1
            have HSRC : Hid (Rd (w12.alloc (.cells #[.int .i64 (n1 : Int), .int .i64 (n2 : Int), .int .i64 (n3 : Int), .slice A5 v.length c5, .int .i64 ((n4 : Int) - 1)] 79)) (w12.heap.size + 1) (some ⟨w12.heap.size, 0, none⟩) (1 * 5) (lastC A5 c5 ⟨n1, n2, n3, v, (n4 : Int) - 1⟩)) := zH (Rd.made w12 #[.int .i64 (n1 : Int), .int .i64 (n2 : Int), .int .i64 (n3 : Int), .slice A5 v.length c5, .int .i64 ((n4 : Int) - 1)] 79 (0, 0) 5 rfl)
            have bb : Below w12.heap.size w12 (w12.alloc (.cells #[.int .i64 (n1 : Int), .int .i64 (n2 : Int), .int .i64 (n3 : Int), .slice A5 v.length c5, .int .i64 ((n4 : Int) - 1)] 79)) := (Below.refl _ _).alloc lR _
            have hst := HS4.out.below HBL.out bb
            obtain ⟨vs, hq1, hq2⟩ := hst.own.t
            have hrow : (w12.alloc (.cells #[.int .i64 (n1 : Int), .int .i64 (n2 : Int), .int .i64 (n3 : Int), .slice A5 v.length c5, .int .i64 ((n4 : Int) - 1)] 79)).ownsRow w.heap.size 79 5 (.slice (some ⟨b3, 0, none⟩) ls.length ct) ls.length vs := hq1
            have hss := hst.rd.size
            have HSS := zH hss
            have HROW := zH hrow
            have HPOST : Hid (∀ A7 c7 w13, w13.ownsRow w.heap.size 79 5 (.slice A7 (ls.length + 1) c7) (ls.length + 1) (vs ++ lastC A5 c5 ⟨n1, n2, n3, v, (n4 : Int) - 1⟩) -> (w12.alloc (.cells #[.int .i64 (n1 : Int), .int .i64 (n2 : Int), .int .i64 (n3 : Int), .slice A5 v.length c5, .int .i64 ((n4 : Int) - 1)] 79)).grownBy w13 (Value.slice (some ⟨b3, 0, none⟩) ls.length ct).ownBlock -> Hid (Blk w13 g 31 #[.slice A0 reg.length c0, .slice A1 acc.length c1, .slice A2 lk.length c2, .slice A3 ps.length c3, .slice (some ⟨b3, 0, none⟩) ls.length ct]) /\ Hid (McSt w (w13.setCell ⟨g, 4, none⟩ (.slice A7 (ls.length + 1) c7)) B b g ⟨⟨A0, c0, A1, c1, A2, c2, A3, c3⟩, A7, c7⟩ ⟨⟨reg, acc, lk, ps⟩, ls ++ [l]⟩ t5)) := zH (by
             intro A7 c7 w13 ho7 hg7
             have hbw : Below w.heap.size (w12.alloc (.cells #[.int .i64 (n1 : Int), .int .i64 (n2 : Int), .int .i64 (n3 : Int), .slice A5 v.length c5, .int .i64 ((n4 : Int) - 1)] 79)) w13 := (Below.refl _ _).grown hg7 hss (fun k hk => (hrow.lt k hk).1)
             have hown : OwnM w w13 ⟨⟨A0, c0, A1, c1, A2, c2, A3, c3⟩, A7, c7⟩ ⟨⟨reg, acc, lk, ps⟩, ls ++ [l]⟩ := ⟨⟨own_grown_t hst.own.o.o0 hrow (by decide) hg7, hst.own.o.o1.grownL hrow hg7, own_grown_t hst.own.o.o2 hrow (by decide) hg7, hst.own.o.o3.grownL hrow hg7⟩, ⟨_, by rw [List.length_append]; exact ho7, by rw [HL.out]; exact OwnsL.grown (OwnsL.snoc hq2 (own_below HV4.out bb)) (by decide) hrow hg7⟩⟩
             have hres7 := hst.res.apart_own hrow (by decide) hg7
             have hblk7 := hst.blk.apart_own hrow (by decide) hg7
             have hrd7 := hst.rd.belowW hbw HBL.out
             exact ⟨zH hblk7, zH ⟨hres7.set_other (by omega), by have q := hblk7.set_ 4 (.slice A7 (ls.length + 1) c7); simpa [machC] using q, hown.set_t hblk7 (by decide) (by decide) (by decide) (by decide) (by decide), hrd7.set HBL.out (by omega)⟩⟩)
            clear bb hst hq1 hq2 hrow hss
            go_wp2_with (first
             | (at_builtin
                refine wpList_append_atS (w := w12.alloc (.cells #[.int .i64 (n1 : Int), .int .i64 (n2 : Int), .int .i64 (n3 : Int), .slice A5 v.length c5, .int .i64 ((n4 : Int) - 1)] 79)) (c' := 1) w.heap.size HSS.out cellL (.tmp 69) (.tmp 71) rfl (by rfl) rfl HROW.out rfl HSRC.out (lastC_one A5 c5 _) (by omega) (by omega) ?_
                intro A7 c7 w13 ho7 hg7
                obtain ⟨hb7, HFIN⟩ := HPOST.out A7 c7 w13 ho7 hg7
                clear x0 x1 x2 x3 x4 y0 y1 y2 y3 y4
                obtain ⟨x0, x1, x2, x3, x4⟩ := five (t := 31) hb7.out
                obtain ⟨f0', f1, f2, f3, f4⟩ := five_frozen hb7.out
                clear ho7 hg7 hb7 HPOST)
             | fail)
            go_roundw
            case rel => exact ⟨j, A7, c7, ls ++ [l], t5, by simp; omega, by go_num, congrArg Value.bool (by rw [HOKS.out, HGL.out]; have h := HF0.out; simp only [HLT.out]; revert h; cases ok0 <;> cases okT ls <;> simp), HFIN, HQ2⟩
            case measure => simp only [intOf]; omega
  | zero =>
    have HPF : Hid (R = (⟨⟨reg, acc, lk, ps⟩, ls⟩, sj)) := zH (by
     rw [HRR.out]
     unfold stT
     try simp only
     rw [HE2.out, HE3.out, HQ.out]
     simp [getT])
    obtain ⟨okf, hokf⟩ : ∃ x, (ok0 && okT ls) = x := ⟨_, rfl⟩
    have HOKF := zH hokf
    rw [hokf]
    clear hokf HQ
    obtain ⟨Ar, nr, cr, hbr, _⟩ := HST.out.rd.r
    obtain ⟨bad, hbad⟩ : ∃ x, sj.isNone = x := ⟨_, rfl⟩
    rw [hbad] at hbr
    have HBAD := zH hbad
    have HBR := zH hbr
    clear hbad hbr
    go_upto_region 12 with fail
    have hb2 := HST.out.blk
    unfold machC at hb2
    simp only at hb2
    have hbd : Below wr.heap.size wr wr.drew := (Below.refl _ _).drew
    have HS : Hid ((fun w' => Blk w' g 31 #[.slice A0 reg.length c0, .slice A1 acc.length c1, .slice A2 lk.length c2, .slice A3 ps.length c3, .slice At ls.length ct] /\ Blk w' b 68 #[.slice Ar nr cr, .bool bad]) wr.drew) := zH ⟨hb2.below hbd, HBR.out.below hbd⟩
    have HS3 := zH (HST.out.below HBL.out hbd)
    refine wp_region_held_drew (S := fun w' => Blk w' g 31 #[.slice A0 reg.length c0, .slice A1 acc.length c1, .slice A2 lk.length c2, .slice A3 ps.length c3, .slice At ls.length ct] /\ Blk w' b 68 #[.slice Ar nr cr, .bool bad]) (by kernel_rfl) HS.out (fun _ => ?_)
    clear hbd hb2 HST HBR
    generalize wr.drew = w6 at HS HS3 |-
    have r0 := HS3.out.res
    obtain ⟨k1, k2, k3, k4, k5⟩ := put5 r0 (.slice A0 reg.length c0) (.slice A1 acc.length c1) (.slice A2 lk.length c2) (.slice A3 ps.length c3) (.slice At ls.length ct)
    have HS5 := zH (And.intro (k5 g _ _ (by omega) HS.out.1) (k5 b _ _ (by omega) HS.out.2))
    have ho5 := k3 w _ _ HS3.out.own (by decide) (by decide) (by decide) (by decide) (by decide)
    have hr5 := ((((HS3.out.rd.set (i := 0) (u := .slice A0 reg.length c0) HBL.out lR).set (i := 1) (u := .slice A1 acc.length c1) HBL.out lR).set (i := 2) (u := .slice A2 lk.length c2) HBL.out lR).set (i := 3) (u := .slice A3 ps.length c3) HBL.out lR).set (i := 4) (u := .slice At ls.length ct) HBL.out lR
    have HEND := zH (And.intro k1 (And.intro ho5 hr5))
    obtain ⟨x0, x1, x2, x3, x4⟩ := five (t := 31) r0
    obtain ⟨f0, f1, f2, f3, f4⟩ := five_frozen r0
    clear r0 k1 k2 k3 k4 k5 ho5 hr5
    cases okf with
    | false =>
      refine tkL (i := 0) (v := .agg #[.slice A0 reg.length c0, .slice A1 acc.length c1, .slice A2 lk.length c2, .slice A3 ps.length c3, .slice At ls.length ct]) rfl (fun w h => by obtain ⟨q0, q1, q2, q3, q4⟩ := five (t := 31) h.1; go_simp) HS.out ?_
      refine tkL (i := 1) (v := .bool false) rfl (fun w _ => by go_simp) HS.out ?_
      refine rdH (rs := [2]) ?_
      refine AllReadyH.cons rfl (fun K hK => ?_) AllReadyH.nil
      go_simp
      refine hK.out _ _ HS.out (fun _ => ?_)
      clear hK K
      refine tkR (i := 3) rfl HS.out ?_
      refine tkR (i := 4) rfl HS.out ?_
      refine tkR (i := 5) rfl HS.out ?_
      refine tkR (i := 6) rfl HS.out ?_
      refine tkR (i := 7) rfl HS.out ?_
      refine tkL (i := 8) (v := .bool false) rfl (fun w _ => by go_simp) HS.out ?_
      refine rdH (rs := [9]) ?_
      refine AllReadyH.cons rfl (fun K hK => ?_) AllReadyH.nil
      go_simp
      refine hK.out _ _ HS5.out (fun _ => ?_)
      clear hK K
      refine rdH (rs := [10]) ?_
      refine AllReadyH.cons rfl (fun K hK => ?_) AllReadyH.nil
      go_simp
      refine hK.out _ _ HS5.out (fun _ => ?_)
      clear hK K
      refine wpAnyH_done (by kernel_rfl) ?_ _
      go_wp2_with fail
      refine bodyPost_ret (results_cell_tmp rfl _ _ _ _ _ _ rfl HEND.out.1 Tryz.underlying31 rfl (by kernel_rfl)) rfl ?_
      have hR := HPF.out
      subst hR
      refine ⟨⟨⟨A0, c0, A1, c1, A2, c2, A3, c3⟩, At, ct⟩, ?_, HEND.out.2.1, HEND.out.2.2.r, HEND.out.2.2.only⟩
      have hwf : Mc.wf ⟨⟨reg, acc, lk, ps⟩, ls⟩ = false := by unfold Mc.wf; rw [<- HOKF.out, <- HOK0.out]
      have hso : sj.isSome = !bad := by rw [<- HBAD.out]; cases sj <;> rfl
      simp only [hwf, hso]
      cases bad <;> rfl
    | true =>
      refine tkL (i := 0) (v := .agg #[.slice A0 reg.length c0, .slice A1 acc.length c1, .slice A2 lk.length c2, .slice A3 ps.length c3, .slice At ls.length ct]) rfl (fun w h => by obtain ⟨q0, q1, q2, q3, q4⟩ := five (t := 31) h.1; go_simp) HS.out ?_
      refine tkL (i := 1) (v := .bool true) rfl (fun w _ => by go_simp) HS.out ?_
      refine rdH (rs := [2]) ?_
      refine AllReadyH.cons rfl (fun K hK => ?_) AllReadyH.nil
      go_simp
      refine hK.out _ _ HS.out (fun _ => ?_)
      clear hK K
      refine tkL (i := 3) (v := .pointer (some ⟨b, 0, none⟩)) rfl (fun w _ => by go_simp) HS.out ?_
      refine tkL (i := 4) (v := .pointer (some ⟨b, 0, none⟩)) rfl (fun w _ => by go_simp) HS.out ?_
      refine tkL (i := 5) (v := .pointer (some ⟨b, 1, none⟩)) rfl (fun w _ => by go_simp) HS.out ?_
      refine tkL (i := 6) (v := .bool bad) rfl (fun w h => by have q := h.2.cell 1; have q1 : w.cell? ⟨b, 1, none⟩ = some (.bool bad) := q; go_simp) HS.out ?_
      refine tkL (i := 7) (v := .bool (!bad)) rfl (fun w _ => by go_simp) HS.out ?_
      refine tkL (i := 8) (v := .bool (!bad)) rfl (fun w _ => by go_simp) HS.out ?_
      refine rdH (rs := [9]) ?_
      refine AllReadyH.cons rfl (fun K hK => ?_) AllReadyH.nil
      go_simp
      refine hK.out _ _ HS5.out (fun _ => ?_)
      clear hK K
      refine rdH (rs := [10]) ?_
      refine AllReadyH.cons rfl (fun K hK => ?_) AllReadyH.nil
      go_simp
      refine hK.out _ _ HS5.out (fun _ => ?_)
      clear hK K
      refine wpAnyH_done (by kernel_rfl) ?_ _
      go_wp2_with fail
      refine bodyPost_ret (results_cell_tmp rfl _ _ _ _ _ _ rfl HEND.out.1 Tryz.underlying31 rfl (by kernel_rfl)) rfl ?_
      have hR := HPF.out
      subst hR
      refine ⟨⟨⟨A0, c0, A1, c1, A2, c2, A3, c3⟩, At, ct⟩, ?_, HEND.out.2.1, HEND.out.2.2.r, HEND.out.2.2.only⟩
      have hwf : Mc.wf ⟨⟨reg, acc, lk, ps⟩, ls⟩ = true := by unfold Mc.wf; rw [<- HOKF.out, <- HOK0.out]
      have hso : sj.isSome = !bad := by rw [<- HBAD.out]; cases sj <;> rfl
      simp only [hwf, hso]
      cases bad <;> rfl
set_option maxHeartbeats 2000000 in
set_option maxRecDepth 100000 in
theorem getEachQ_any (w : World) (b : Nat) (s : Pk.St) {most : Int} (hm0 : 0 <= most) (hm : most <= 100) (h : RdrAt w b s) {R : List (List Nat)} {s' : Pk.St} (hR : (getQ (Pk.numV s most) (Pk.numS s most)).1 = R) (hs' : (getQ (Pk.numV s most) (Pk.numS s most)).2 = s') :
 Calls Tryz.prog 55 #[.pointer (some ⟨b, 0, none⟩), .int .i64 most, .func (.func 54) #[] #[]] w fun en w' => ∃ A c, en = .returned (.slice A R.length c) /\ OwnQ w w' A R.length c R /\ RdrAt w' b s' /\ Only b w w' := by
 have hbl := h.lt
 have HBL := zH hbl
 obtain ⟨n, hn⟩ : ∃ x, Pk.numV s most = x := ⟨_, rfl⟩
 obtain ⟨s1, hs1⟩ : ∃ x, Pk.numS s most = x := ⟨_, rfl⟩
 have hn100 : n <= 100 := by have := numV_le s hm0; omega
 have HC := zH (rnum_is w b s most h n s1 hn hs1)
 rw [hn, hs1] at hR hs'
 have HG : Hid (getQ n s1 = (R, s')) := zH (by rw [<- hR, <- hs'])
 have H0 : Hid (RgSt w w b s) := zH ⟨h, only_refl b w⟩
 clear hR hs' hn hs1 h
 go_enter Tryz.func55, Tryz.ntmps55
 go_wp2_with (first
  | (go_at_call 25; refine HC.out.mono ?_; rintro en w1 ⟨rfl, hr1, hb1⟩; have HS1 := zH (H0.out.call hr1 hb1); clear hr1 hb1 HC)
  | fail)
 go_loopw [7, 11] (fun s7 s11 wr => ∃ (k : Nat) (A1 : Option Addr) (c1 : Nat) (acc : List (List Nat)) (sk : Pk.St), k <= n /\ s11 = .int .i64 (k : Int) /\ s7 = .slice A1 k c1 /\ Hid (RgSt w wr b sk) /\ Hid (OwnQ w wr A1 k c1 acc) /\ Hid (getQ n s1 = (acc ++ (getQ (n - k) sk).1, (getQ (n - k) sk).2))) (fun _ s11 _ => n - (intOf s11).toNat)
 case atStart => exact ⟨0, none, 0, [], s1, Nat.zero_le _, rfl, rfl, HS1, zH (OwnQ.nil _ _), zH (by simp)⟩
 case round =>
  clear HS1 H0
  obtain ⟨k, A1, c1, acc, sk, hk, rfl, rfl, HS, HO, HQ⟩ := hrel
  by_cases hlt : k < n
  · obtain ⟨m, hm1⟩ : ∃ m, n - k = m + 1 := ⟨n - k - 1, by omega⟩
    have hstep : getQ (m + 1) sk = (Pk.bytV sk 16 :: (getQ m (Pk.bytS sk 16)).1, (getQ m (Pk.bytS sk 16)).2) := rfl
    have hq := HQ.out
    rw [hm1, hstep] at hq
    obtain ⟨x, ex⟩ : ∃ x, Pk.bytV sk 16 = x := ⟨_, rfl⟩
    obtain ⟨t, et⟩ : ∃ x, Pk.bytS sk 16 = x := ⟨_, rfl⟩
    rw [ex, et] at hq
    have HC := zH (getVal_any wr b sk HS.out.r ex et)
    have hmk : n - (k + 1) = m := by omega
    have HQN : Hid (getQ n s1 = ((acc ++ [x]) ++ (getQ (n - (k + 1)) t).1, (getQ (n - (k + 1)) t).2)) := zH (by rw [hmk, hq]; simp)
    clear hq hstep ex et hm1 hmk HQ
    go_wp2_with (first
     | (go_at_call 54; refine HC.out.mono ?_; rintro en w1 ⟨A2, c2, rfl, ho2, hr2, hb2⟩
        have b1 : Below w1.heap.size w1 (w1.alloc (.cells #[.slice A2 x.length c2] 23)) := (Below.refl _ _).alloc lR _
        have HS2 := zH ((HS.out.call hr2 hb2).below b1)
        obtain ⟨vs, hv1, hv2⟩ := (HO.out.old hb2 (Old.some HBL.out)).below b1
        have HO2 := zH (own_below (own_of HS.out.size ho2) b1)
        have hsz : w.heap.size <= (w1.alloc (.cells #[.slice A2 x.length c2] 23)).heap.size := HS2.out.size)
     | (at_builtin
        refine wpList_append_at w.heap.size hsz cellQ (.tmp 13) (.tmp 17) rfl (by rfl) rfl hv1 rfl (Rd.oneV _ _ _) (by intro u hu; simp at hu; subst hu; rfl) (by omega) (by omega) ?_
        intro A3 c3 w3 hown3 hg3)
     | fail)
    go_roundw
    case rel =>
     refine ⟨k + 1, A3, c3, acc ++ [x], t, by omega, by go_num, rfl, zH (HS2.out.row hv1 (by decide) (by decide) hg3), zH ?_, HQN⟩
     refine ⟨vs ++ [.slice A2 x.length c2], hown3, (hv2.snoc HO2.out).grown hv1 hg3⟩
    case measure => simp only [intOf]; omega
  · have hq := HQ.out
    have hnk : n - k = 0 := by omega
    rw [hnk, show getQ 0 sk = ([], sk) from rfl, List.append_nil, HG.out] at hq
    injection hq with h1 h2
    subst h1 h2
    have hlen : R.length = k := HO.out.length
    subst hlen
    go_wp2_with fail
    go_ret
    exact ⟨A1, c1, rfl, HO.out, HS.out.r, HS.out.only⟩
set_option maxHeartbeats 2000000 in
set_option maxRecDepth 100000 in
theorem getEachI_any (w : World) (b : Nat) (s : Pk.St) {most : Int} (hm0 : 0 <= most) (hm : most <= 100) (h : RdrAt w b s) {R : List Int} {s' : Pk.St} (hR : (getI (Pk.numV s most) (Pk.numS s most)).1 = R) (hs' : (getI (Pk.numV s most) (Pk.numS s most)).2 = s') :
 Calls Tryz.prog 56 #[.pointer (some ⟨b, 0, none⟩), .int .i64 most, .func (.func 57) #[] #[]] w fun en w' => ∃ A c, en = .returned (.slice A R.length c) /\ OwnI w w' A R.length c R /\ RdrAt w' b s' /\ Only b w w' := by
 have hbl := h.lt
 have HBL := zH hbl
 obtain ⟨n, hn⟩ : ∃ x, Pk.numV s most = x := ⟨_, rfl⟩
 obtain ⟨s1, hs1⟩ : ∃ x, Pk.numS s most = x := ⟨_, rfl⟩
 have hn100 : n <= 100 := by have := numV_le s hm0; omega
 have HC := zH (rnum_is w b s most h n s1 hn hs1)
 rw [hn, hs1] at hR hs'
 have HG : Hid (getI n s1 = (R, s')) := zH (by rw [<- hR, <- hs'])
 have H0 : Hid (RgSt w w b s) := zH ⟨h, only_refl b w⟩
 clear hR hs' hn hs1 h
 go_enter Tryz.func56, Tryz.ntmps56
 go_wp2_with (first
  | (go_at_call 25; refine HC.out.mono ?_; rintro en w1 ⟨rfl, hr1, hb1⟩; have HS1 := zH (H0.out.call hr1 hb1); clear hr1 hb1 HC)
  | fail)
 go_loopw [7, 11] (fun s7 s11 wr => ∃ (k : Nat) (A1 : Option Addr) (c1 : Nat) (acc : List Int) (sk : Pk.St), k <= n /\ s11 = .int .i64 (k : Int) /\ s7 = .slice A1 k c1 /\ Hid (RgSt w wr b sk) /\ Hid (OwnI w wr A1 k c1 acc) /\ Hid (getI n s1 = (acc ++ (getI (n - k) sk).1, (getI (n - k) sk).2))) (fun _ s11 _ => n - (intOf s11).toNat)
 case atStart => exact ⟨0, none, 0, [], s1, Nat.zero_le _, rfl, rfl, HS1, zH (ownI_nil _ _), zH (by simp)⟩
 case round =>
  clear HS1 H0
  obtain ⟨k, A1, c1, acc, sk, hk, rfl, rfl, HS, HO, HQ⟩ := hrel
  by_cases hlt : k < n
  · obtain ⟨m, hm1⟩ : ∃ m, n - k = m + 1 := ⟨n - k - 1, by omega⟩
    have hstep : getI (m + 1) sk = ((Pk.numV sk 999 : Int) :: (getI m (Pk.numS sk 999)).1, (getI m (Pk.numS sk 999)).2) := rfl
    have hq := HQ.out
    rw [hm1, hstep] at hq
    obtain ⟨x, ex⟩ : ∃ x, Pk.numV sk 999 = x := ⟨_, rfl⟩
    obtain ⟨t, et⟩ : ∃ x, Pk.numS sk 999 = x := ⟨_, rfl⟩
    rw [ex, et] at hq
    have HC := zH (getWho_any wr b sk HS.out.r ex et)
    have hmk : n - (k + 1) = m := by omega
    have HQN : Hid (getI n s1 = ((acc ++ [(x : Int)]) ++ (getI (n - (k + 1)) t).1, (getI (n - (k + 1)) t).2)) := zH (by rw [hmk, hq]; simp)
    clear hq hstep ex et hm1 hmk HQ
    go_wp2_with (first
     | (go_at_call 57; refine HC.out.mono ?_; rintro en w1 ⟨rfl, hr2, hb2⟩
        have b1 : Below w1.heap.size w1 (w1.alloc (.cells #[.int .i64 (x : Int)] 3)) := (Below.refl _ _).alloc lR _
        have HS2 := zH ((HS.out.call hr2 hb2).below b1)
        have hv1 := ownsRow_below (own_old HO.out hb2 (Old.some HBL.out)) b1
        have hsz : w.heap.size <= (w1.alloc (.cells #[.int .i64 (x : Int)] 3)).heap.size := HS2.out.size)
     | (at_builtin
        refine wpList_append_at w.heap.size hsz cellI (.tmp 13) (.tmp 17) rfl (by rfl) rfl hv1 rfl (Rd.oneV _ _ _) (by intro u hu; simp at hu; subst hu; rfl) (by omega) (by omega) ?_
        intro A3 c3 w3 hown3 hg3)
     | fail)
    go_roundw
    case rel =>
     refine ⟨k + 1, A3, c3, acc ++ [(x : Int)], t, by omega, by go_num, rfl, zH (HS2.out.row hv1 (by decide) (by decide) hg3), zH ?_, HQN⟩
     unfold OwnI
     rw [iv_snocO]
     exact hown3
    case measure => simp only [intOf]; omega
  · have hq := HQ.out
    have hnk : n - k = 0 := by omega
    rw [hnk, show getI 0 sk = ([], sk) from rfl, List.append_nil, HG.out] at hq
    injection hq with h1 h2
    subst h1 h2
    have hlen : R.length = k := ownI_len HO.out
    subst hlen
    go_wp2_with fail
    go_ret
    exact ⟨A1, c1, rfl, HO.out, HS.out.r, HS.out.only⟩
set_option maxHeartbeats 2000000 in
set_option maxRecDepth 100000 in
theorem getEachP_any (w : World) (b : Nat) (s : Pk.St) {most : Int} (hm0 : 0 <= most) (hm : most <= 100) (h : RdrAt w b s) {R : List Pr} {s' : Pk.St} (hR : (getP (Pk.numV s most) (Pk.numS s most)).1 = R) (hs' : (getP (Pk.numV s most) (Pk.numS s most)).2 = s') :
 Calls Tryz.prog 58 #[.pointer (some ⟨b, 0, none⟩), .int .i64 most, .func (.func 59) #[] #[]] w fun en w' => ∃ A c, en = .returned (.slice A R.length c) /\ OwnP w w' A R.length c R /\ RdrAt w' b s' /\ Only b w w' := by
 have hbl := h.lt
 have HBL := zH hbl
 obtain ⟨n, hn⟩ : ∃ x, Pk.numV s most = x := ⟨_, rfl⟩
 obtain ⟨s1, hs1⟩ : ∃ x, Pk.numS s most = x := ⟨_, rfl⟩
 have hn100 : n <= 100 := by have := numV_le s hm0; omega
 have HC := zH (rnum_is w b s most h n s1 hn hs1)
 rw [hn, hs1] at hR hs'
 have HG : Hid (getP n s1 = (R, s')) := zH (by rw [<- hR, <- hs'])
 have H0 : Hid (RgSt w w b s) := zH ⟨h, only_refl b w⟩
 clear hR hs' hn hs1 h
 go_enter Tryz.func58, Tryz.ntmps58
 go_wp2_with (first
  | (go_at_call 25; refine HC.out.mono ?_; rintro en w1 ⟨rfl, hr1, hb1⟩; have HS1 := zH (H0.out.call hr1 hb1); clear hr1 hb1 HC)
  | fail)
 go_loopw [7, 11] (fun s7 s11 wr => ∃ (k : Nat) (A1 : Option Addr) (c1 : Nat) (acc : List Pr) (sk : Pk.St), k <= n /\ s11 = .int .i64 (k : Int) /\ s7 = .slice A1 k c1 /\ Hid (RgSt w wr b sk) /\ Hid (OwnP w wr A1 k c1 acc) /\ Hid (getP n s1 = (acc ++ (getP (n - k) sk).1, (getP (n - k) sk).2))) (fun _ s11 _ => n - (intOf s11).toNat)
 case atStart => exact ⟨0, none, 0, [], s1, Nat.zero_le _, rfl, rfl, HS1, zH (OwnP.nil _ _), zH (by simp)⟩
 case round =>
  clear HS1 H0
  obtain ⟨k, A1, c1, acc, sk, hk, rfl, rfl, HS, HO, HQ⟩ := hrel
  by_cases hlt : k < n
  · obtain ⟨m, hm1⟩ : ∃ m, n - k = m + 1 := ⟨n - k - 1, by omega⟩
    have hstep : getP (m + 1) sk = ((getP1 sk).1 :: (getP m (getP1 sk).2).1, (getP m (getP1 sk).2).2) := rfl
    have hq := HQ.out
    rw [hm1, hstep] at hq
    obtain ⟨x, ex⟩ : ∃ x, (getP1 sk).1 = x := ⟨_, rfl⟩
    obtain ⟨t, et⟩ : ∃ x, (getP1 sk).2 = x := ⟨_, rfl⟩
    rw [ex, et] at hq
    have HC := zH (getPair_any wr b sk HS.out.r)
    rw [ex, et] at HC
    have hmk : n - (k + 1) = m := by omega
    have HQN : Hid (getP n s1 = ((acc ++ [x]) ++ (getP (n - (k + 1)) t).1, (getP (n - (k + 1)) t).2)) := zH (by rw [hmk, hq]; simp)
    clear hq hstep ex et hm1 hmk HQ
    go_wp2_with (first
     | (go_at_call 59; refine HC.out.mono ?_; rintro en w1 ⟨A2, c2, A4, c4, rfl, ho2, ho4, hr2, hb2⟩
        have b1 : Below w1.heap.size w1 (w1.alloc (.cells #[.slice A2 x.1.length c2, .slice A4 x.2.length c4] 74)) := (Below.refl _ _).alloc lR _
        have HS2 := zH ((HS.out.call hr2 hb2).below b1)
        obtain ⟨vs, hv1, hv2⟩ := (HO.out.old hb2 (Old.some HBL.out)).below b1
        have HO2 := zH (own_below (own_of HS.out.size ho2) b1)
        have HO4 := zH (own_below (own_of HS.out.size ho4) b1)
        have hsz : w.heap.size <= (w1.alloc (.cells #[.slice A2 x.1.length c2, .slice A4 x.2.length c4] 74)).heap.size := HS2.out.size)
     | (at_builtin
        refine wpList_append_atS w.heap.size hsz cellP (.tmp 13) (.tmp 17) rfl (by rfl) rfl hv1 rfl (Rd.twoAt _ _ _ _ rfl) (by intro u hu; simp at hu; rcases hu with rfl | rfl <;> rfl) (by omega) (by omega) ?_
        intro A3 c3 w3 hown3 hg3)
     | fail)
    go_roundw
    case rel =>
     refine ⟨k + 1, A3, c3, acc ++ [x], t, by omega, by go_num, rfl, zH (HS2.out.row hv1 (by decide) (by decide) hg3), zH ?_, HQN⟩
     refine ⟨vs ++ [.slice A2 x.1.length c2, .slice A4 x.2.length c4], hown3, ?_⟩
     rw [flat_append]
     exact (hv2.two HO2.out HO4.out).grownP hv1 hg3
    case measure => simp only [intOf]; omega
  · have hq := HQ.out
    have hnk : n - k = 0 := by omega
    rw [hnk, show getP 0 sk = ([], sk) from rfl, List.append_nil, HG.out] at hq
    injection hq with h1 h2
    subst h1 h2
    have hlen : R.length = k := HO.out.length
    subst hlen
    go_wp2_with fail
    go_ret
    exact ⟨A1, c1, rfl, HO.out, HS.out.r, HS.out.only⟩
set_option maxHeartbeats 2000000 in
set_option maxRecDepth 100000 in
theorem getEachT_any (w : World) (b : Nat) (s : Pk.St) {most : Int} (hm0 : 0 <= most) (hm : most <= 100) (h : RdrAt w b s) {R : List Ls} {s' : Pk.St} (hR : (getT (Pk.numV s most) (Pk.numS s most)).1 = R) (hs' : (getT (Pk.numV s most) (Pk.numS s most)).2 = s') :
 Calls Tryz.prog 60 #[.pointer (some ⟨b, 0, none⟩), .int .i64 most, .func (.func 61) #[] #[]] w fun en w' => ∃ A c, en = .returned (.slice A R.length c) /\ OwnL w w' A R.length c R /\ RdrAt w' b s' /\ Only b w w' := by
 have hbl := h.lt
 have HBL := zH hbl
 obtain ⟨n, hn⟩ : ∃ x, Pk.numV s most = x := ⟨_, rfl⟩
 obtain ⟨s1, hs1⟩ : ∃ x, Pk.numS s most = x := ⟨_, rfl⟩
 have hn100 : n <= 100 := by have := numV_le s hm0; omega
 have HC := zH (rnum_is w b s most h n s1 hn hs1)
 rw [hn, hs1] at hR hs'
 have HG : Hid (getT n s1 = (R, s')) := zH (by rw [<- hR, <- hs'])
 have H0 : Hid (RgSt w w b s) := zH ⟨h, only_refl b w⟩
 clear hR hs' hn hs1 h
 go_enter Tryz.func60, Tryz.ntmps60
 go_wp2_with (first
  | (go_at_call 25; refine HC.out.mono ?_; rintro en w1 ⟨rfl, hr1, hb1⟩; have HS1 := zH (H0.out.call hr1 hb1); clear hr1 hb1 HC)
  | fail)
 go_loopw [7, 11] (fun s7 s11 wr => ∃ (k : Nat) (A1 : Option Addr) (c1 : Nat) (acc : List Ls) (sk : Pk.St), k <= n /\ s11 = .int .i64 (k : Int) /\ s7 = .slice A1 k c1 /\ Hid (RgSt w wr b sk) /\ Hid (OwnL w wr A1 k c1 acc) /\ Hid (getT n s1 = (acc ++ (getT (n - k) sk).1, (getT (n - k) sk).2))) (fun _ s11 _ => n - (intOf s11).toNat)
 case atStart => exact ⟨0, none, 0, [], s1, Nat.zero_le _, rfl, rfl, HS1, zH (OwnL.nil _ _), zH (by simp)⟩
 case round =>
  clear HS1 H0
  obtain ⟨k, A1, c1, acc, sk, hk, rfl, rfl, HS, HO, HQ⟩ := hrel
  by_cases hlt : k < n
  · obtain ⟨m, hm1⟩ : ∃ m, n - k = m + 1 := ⟨n - k - 1, by omega⟩
    have hstep : getT (m + 1) sk = ((getT1 sk).1 :: (getT m (getT1 sk).2).1, (getT m (getT1 sk).2).2) := rfl
    have hq := HQ.out
    rw [hm1, hstep] at hq
    obtain ⟨x, ex⟩ : ∃ x, (getT1 sk).1 = x := ⟨_, rfl⟩
    obtain ⟨t, et⟩ : ∃ x, (getT1 sk).2 = x := ⟨_, rfl⟩
    rw [ex, et] at hq
    have HC := zH (getLast_any wr b sk HS.out.r)
    rw [ex, et] at HC
    have hmk : n - (k + 1) = m := by omega
    have HQN : Hid (getT n s1 = ((acc ++ [x]) ++ (getT (n - (k + 1)) t).1, (getT (n - (k + 1)) t).2)) := zH (by rw [hmk, hq]; simp)
    clear hq hstep ex et hm1 hmk HQ
    go_wp2_with (first
     | (go_at_call 61; refine HC.out.mono ?_; rintro en w1 ⟨A2, c2, rfl, ho2, hr2, hb2⟩
        have b1 : Below w1.heap.size w1 (w1.alloc (.cells #[.int .i64 x.s, .int .i64 x.q, .int .i64 x.e, .slice A2 x.v.length c2, .int .i64 x.n] 79)) := (Below.refl _ _).alloc lR _
        have HS2 := zH ((HS.out.call hr2 hb2).below b1)
        obtain ⟨vs, hv1, hv2⟩ := (HO.out.old hb2 (Old.some HBL.out)).below b1
        have HO2 := zH (own_below (own_of HS.out.size ho2) b1)
        have hsz : w.heap.size <= (w1.alloc (.cells #[.int .i64 x.s, .int .i64 x.q, .int .i64 x.e, .slice A2 x.v.length c2, .int .i64 x.n] 79)).heap.size := HS2.out.size)
     | (at_builtin
        refine wpList_append_atS w.heap.size hsz cellL (.tmp 13) (.tmp 17) rfl (by rfl) rfl hv1 rfl (Rd.lastAt _ A2 c2 x _ rfl) (lastC_one _ _ _) (by omega) (by omega) ?_
        intro A3 c3 w3 hown3 hg3)
     | fail)
    go_roundw
    case rel =>
     refine ⟨k + 1, A3, c3, acc ++ [x], t, by omega, by go_num, rfl, zH (HS2.out.row hv1 (by decide) (by decide) hg3), zH ?_, HQN⟩
     refine ⟨vs ++ lastC A2 c2 x, hown3, (hv2.snoc HO2.out).grown (by decide) hv1 hg3⟩
    case measure => simp only [intOf]; omega
  · have hq := HQ.out
    have hnk : n - k = 0 := by omega
    rw [hnk, show getT 0 sk = ([], sk) from rfl, List.append_nil, HG.out] at hq
    injection hq with h1 h2
    subst h1 h2
    have hlen : R.length = k := HO.out.length
    subst hlen
    go_wp2_with fail
    go_ret
    exact ⟨A1, c1, rfl, HO.out, HS.out.r, HS.out.only⟩
end Go.Proofs.YtmekamgohonffaaGreat
