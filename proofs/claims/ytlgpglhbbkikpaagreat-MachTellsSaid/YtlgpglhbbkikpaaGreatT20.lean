/- MachTellsCore -/
import Derived.Test.YtlgpglhbbkikpaaGreatT0H
import Derived.Test.YtlgpglhbbkikpaaGreatT00
import Derived.Test.YtlgpglhbbkikpaaGreatT10
import Derived.Test.YtlgpglhbbkikpaaGreatT11
import Derived.Test.YtlgpglhbbkikpaaGreatT13
import Derived.Test.YtlgpglhbbkikpaaGreatT14
import Derived.Test.YtlgpglhbbkikpaaGreatT17
import Derived.Test.YtlgpglhbbkikpaaGreatT19
import Derived.Deep.CutBlock
import Derived.Deep.RegionHeld3
import Derived.Deep.RegionLaw
namespace Go.Proofs.YtlgpglhbbkikpaaGreat
open Go.RowKit
set_option linter.unusedVariables false
set_option maxHeartbeats 20000000 in
set_option maxRecDepth 100000 in
theorem machTells_core (hS : StepC10) (hE : EncodeC10) (hD : DecodeC10) (hM : SameC10) (hN : SameEC10) (hA : AwakeC10) {A A1 A2 : Option Addr} {n c n1 c1 n2 c2 B : Nat} {zs : List Int} {rs : List En} {bs : List Nat} (at_ : Int) (y : Nat) (hy : y < 256)
 (hn : n <= maxLen) (hn1 : n1 <= maxLen) (hc2 : n2 <= c2 /\ c2 <= maxLen) (w : World) (h : Rd w B A n (iv zs)) (hr : RdE w w.heap.size A1 n1 rs) (hrb : ∀ e ∈ rs, (∀ x ∈ e.c.key, x < 256) /\ (∀ x ∈ e.c.val, x < 256) /\ ∀ x ∈ e.c.old, x < 256)
 (hb : Rd w w.heap.size A2 n2 (bv bs)) (hbb : ∀ x ∈ bs, x < 256) :
 Calls Tryz.prog 3 #[.slice A n c, .slice A1 n1 c1, .slice A2 n2 c2, .int .i64 at_, .int .u8 (y : Int)] w fun e w' => e = .returned (.bool true) /\ Below w.heap.size w w' := by
 have hlen : zs.length = n := by have := h.1; rwa [iv_length] at this
 have hbl := hb.length
 have HR := zH h.fit
 have HRE := zH hr
 have HRB := zH hrb
 have HBR := zH hb
 have HBB := zH hbb
 have HCB := zH hc2
 have HRL := zH hr.length
 have hnn : n <= 9223372036854775807 := by unfold maxLen at hn; omega
 have hnn1 : n1 <= 9223372036854775807 := by unfold maxLen at hn1; omega
 clear h hr hrb hb hbb hc2 hn hn1
 by_cases h300 : 300 < n2
 · have h3i : (300 : Int) < (n2 : Int) := by omega
   go_enter Tryz.func3, Tryz.ntmps3
   go_wp2_with (first
    | (go_at_call 4; refine (hA _).mono ?_; rintro en w5 ⟨rfl, hb5⟩; have HB5 := zH hb5; clear hb5)
    | fail)
   go_ret
   exact ⟨rfl, HB5.out⟩
 have h3i : ¬ (300 : Int) < (n2 : Int) := by omega
 go_enter Tryz.func3, Tryz.ntmps3
 go_wp2_with fail
 go_loopw [38] (fun s38 wr => ∃ (k : Nat), k <= n1 /\ s38 = .int .i64 (k : Int) /\ Hid (∀ i e, i < k -> rs[i]? = some e -> e.c.key.length <= 60 /\ e.c.val.length <= 60 /\ e.c.old.length <= 60) /\ Hid (Below w.heap.size w wr)) (fun s38 _ => n1 - (intOf s38).toNat)
 case atStart => exact ⟨0, Nat.zero_le _, rfl, zH (fun i e hi => absurd hi (by omega)), zH (Below.refl _ _)⟩
 case round =>
  obtain ⟨k, hk, rfl, HSH, HB⟩ := hrel
  by_cases hlt : k < n1
  · obtain ⟨b, o, e, ca, rfl, he, ⟨z0, z1, z2, z3, z4, z5, z6⟩, hrc⟩ := HRE.out.at hlt
    have y2 := cell_of HB.out z2
    have y3 := cell_of HB.out z3
    have y4 := cell_of HB.out z4
    have y5 := cell_of HB.out z5
    have y6 := cell_of HB.out z6
    have HEE := zH he
    have hki : (k : Int) < (n1 : Int) := by omega
    have hwk : IntKind.i64.wrap ((k : Int) + 1) = (k : Int) + 1 := IntWalk.i64_in _ (by omega)
    have bb : Below wr.heap.size wr (wr.alloc (.cells #[.int .i64 e.c.kind, .int .i64 e.c.who, .slice ca.Ak e.c.key.length ca.ck, .slice ca.Av e.c.val.length ca.cv, .slice ca.Ao e.c.old.length ca.co] 27)) := (Below.refl _ _).alloc lR _
    have HB1 := zH (HB.out.trans (bb.mono HB.out.size))
    have HKC := zH (Blk.new wr 27 #[.int .i64 e.c.kind, .int .i64 e.c.who, .slice ca.Ak e.c.key.length ca.ck, .slice ca.Av e.c.val.length ca.cv, .slice ca.Ao e.c.old.length ca.co])
    clear z0 z1 z2 z3 z4 z5 z6 hrc he bb
    go_upto_region 7 with fail
    generalize wr.alloc (.cells #[.int .i64 e.c.kind, .int .i64 e.c.who, .slice ca.Ak e.c.key.length ca.ck, .slice ca.Av e.c.val.length ca.cv, .slice ca.Ao e.c.old.length ca.co] 27) = wa at HB1 HKC |-
    obtain ⟨x0, x1, x2, x3, x4⟩ := five HKC.out
    by_cases hk60 : 60 < e.c.key.length
    · have hki60 : (60 : Int) < (e.c.key.length : Int) := by omega
      go_wp2_with (first
       | (go_at_call 4; refine (hA _).mono ?_; rintro en w5 ⟨rfl, hb5⟩; have HB5 := zH hb5; clear hb5)
       | fail)
      go_ret
      exact ⟨rfl, HB1.out.trans (HB5.out.mono HB1.out.size)⟩
    have hki60 : ¬ (60 : Int) < (e.c.key.length : Int) := by omega
    by_cases hv60 : 60 < e.c.val.length
    · have hvi60 : (60 : Int) < (e.c.val.length : Int) := by omega
      go_wp2_with (first
       | (go_at_call 4; refine (hA _).mono ?_; rintro en w5 ⟨rfl, hb5⟩; have HB5 := zH hb5; clear hb5)
       | fail)
      go_ret
      exact ⟨rfl, HB1.out.trans (HB5.out.mono HB1.out.size)⟩
    have hvi60 : ¬ (60 : Int) < (e.c.val.length : Int) := by omega
    by_cases ho60 : 60 < e.c.old.length
    · have hoi60 : (60 : Int) < (e.c.old.length : Int) := by omega
      go_wp2_with (first
       | (go_at_call 4; refine (hA _).mono ?_; rintro en w5 ⟨rfl, hb5⟩; have HB5 := zH hb5; clear hb5)
       | fail)
      go_ret
      exact ⟨rfl, HB1.out.trans (HB5.out.mono HB1.out.size)⟩
    have hoi60 : ¬ (60 : Int) < (e.c.old.length : Int) := by omega
    have HSN : Hid (∀ i e, i < k + 1 -> rs[i]? = some e -> e.c.key.length <= 60 /\ e.c.val.length <= 60 /\ e.c.old.length <= 60) := zH (fun i e' hi he' => by
     rcases Nat.lt_or_ge i k with h1 | h1
     · exact HSH.out i e' h1 he'
     · obtain rfl : i = k := by omega
       rw [HEE.out] at he'
       injection he' with he'
       subst he'
       omega)
    go_wp2_with fail
    go_roundw
    case rel => exact ⟨k + 1, by omega, by go_num, HSN, HB1⟩
    case measure => simp only [intOf]; omega
  · have hki : ¬ (k : Int) < (n1 : Int) := by omega
    have HRF : Hid (∀ (i : Nat) (e : En), rs[i]? = some e -> e.c.Fits) := zH (fun i e he => by
     have h1 := HSH.out i e (by have := (List.getElem?_eq_some_iff.1 he).1; have := HRL.out; omega) he
     obtain ⟨h2, h3, h4⟩ := HRB.out e (List.mem_of_getElem? he)
     exact ⟨⟨by omega, h2⟩, ⟨by omega, h3⟩, ⟨by omega, h4⟩⟩)
    rename World => w0
    have HR0 := zH ((HR.out.below HB.out).fit)
    have HRE0 := zH ((HRE.out.below HB.out).fit)
    have HBR0 := zH ((HBR.out.below HB.out).fit)
    clear HR HRE HBR HSH HRB hlt
    go_wp2_with fail
    have bx : Below w0.heap.size w0 ((w0.alloc (.cells #[.slice none 0 0, .slice none 0 0, .slice none 0 0, .slice none 0 0, .slice none 0 0] 36)).alloc (.cells #[.slice none 0 0, .slice none 0 0, .slice none 0 0, .slice none 0 0, .slice none 0 0] 36)) := ((Below.refl _ _).alloc lR _).alloc (by simp) _
    obtain ⟨g, hg⟩ : ∃ x, w0.heap.size = x := ⟨_, rfl⟩
    have HK1 := (Blk.newAt w0 36 #[.slice none 0 0, .slice none 0 0, .slice none 0 0, .slice none 0 0, .slice none 0 0] hg).alloc (.cells #[.slice none 0 0, .slice none 0 0, .slice none 0 0, .slice none 0 0, .slice none 0 0] 36)
    have HK2 := Blk.new (w0.alloc (.cells #[.slice none 0 0, .slice none 0 0, .slice none 0 0, .slice none 0 0, .slice none 0 0] 36)) 36 #[.slice none 0 0, .slice none 0 0, .slice none 0 0, .slice none 0 0, .slice none 0 0]
    rw [World.size_alloc, hg] at HK2
    have HT0 : Hid (Two10 w0 ((w0.alloc (.cells #[.slice none 0 0, .slice none 0 0, .slice none 0 0, .slice none 0 0, .slice none 0 0] 36)).alloc (.cells #[.slice none 0 0, .slice none 0 0, .slice none 0 0, .slice none 0 0, .slice none 0 0] 36)) g ⟨⟨none, 0, none, 0, none, 0, none, 0⟩, none, 0⟩ ⟨⟨none, 0, none, 0, none, 0, none, 0⟩, none, 0⟩ Mc.zero) := zH ⟨HK1, HK2, OwnM.zero _ _, OwnM.zero _ _, bx⟩
    simp only [hg]
    have HG : Hid (w0.heap.size <= g) := zH (by omega)
    clear HK1 HK2 bx hg
    generalize (w0.alloc (.cells #[.slice none 0 0, .slice none 0 0, .slice none 0 0, .slice none 0 0, .slice none 0 0] 36)).alloc (.cells #[.slice none 0 0, .slice none 0 0, .slice none 0 0, .slice none 0 0, .slice none 0 0] 36) = wb at HT0 |-
    go_loopw [15] (fun s15 wr => ∃ (i : Nat) (a a' : MA) (M : Mc), i <= n /\ i <= 50 /\ s15 = .int .i64 (i : Int) /\ Hid (M.Ok) /\ Hid (Two10 w0 wr g a a' M)) (fun s15 _ => n - (intOf s15).toNat)
    case atStart => exact ⟨0, _, _, Mc.zero, Nat.zero_le _, by omega, rfl, zH Mc.Ok.zero, HT0⟩
    case round =>
     clear HT0
     obtain ⟨i, a, a2, M, hi, hi50, rfl, HOK, HT⟩ := hrel
     by_cases hin : i < n
     · by_cases hi5 : i < 50
       · obtain ⟨z, hz⟩ : ∃ z, zs[i]? = some z := ⟨_, List.getElem?_eq_getElem (by omega)⟩
         have hcell : ∃ b o, A = some ⟨b, o, none⟩ /\ ∀ wx, Below w0.heap.size w0 wx -> wx.cell? ⟨b, o + i, none⟩ = some (.int .i64 z) := by
          obtain ⟨b, o, e, _⟩ := HR0.out.int_at hin
          subst e
          exact ⟨b, o, rfl, fun wx hb => cell_of hb (HR0.out.int_cell hin hz)⟩
         obtain ⟨b, o, rfl, hcz⟩ := hcell
         have HCZ := zH hcz
         have hc0 := hcz _ HT.out.bel
         have hii : (i : Int) < (n : Int) := by omega
         have hi5i : (i : Int) < 50 := by omega
         have hi0 : (0 : Int) <= (i : Int) := by omega
         have hwi : IntKind.i64.wrap ((i : Int) + 1) = (i : Int) + 1 := IntWalk.i64_in _ (by omega)
         clear hz hcz
         go_upto_region 15 with (first
          | (go_at_call 5; refine (entry_any z i (by omega) _).mono ?_; rintro en w1 ⟨ca, e, rfl, hf, hrc, hb⟩
             unfold entV entC)
          | fail)
         have bb : Below w1.heap.size w1 (w1.alloc (.cells #[.int .i64 e.s, .int .i64 e.q, .int .i64 e.c.kind, .int .i64 e.c.who, .slice ca.Ak e.c.key.length ca.ck, .slice ca.Av e.c.val.length ca.cv, .slice ca.Ao e.c.old.length ca.co] 29)) := (Below.refl _ _).alloc lR _
         obtain ⟨h16, hh16⟩ : ∃ x, w1.heap.size = x := ⟨_, rfl⟩
         have HEV : Hid (EntV (w1.alloc (.cells #[.int .i64 e.s, .int .i64 e.q, .int .i64 e.c.kind, .int .i64 e.c.who, .slice ca.Ak e.c.key.length ca.ck, .slice ca.Av e.c.val.length ca.cv, .slice ca.Ao e.c.old.length ca.co] 29)) h16 ca e) := zH ⟨Blk.newAt w1 29 #[.int .i64 e.s, .int .i64 e.q, .int .i64 e.c.kind, .int .i64 e.c.who, .slice ca.Ak e.c.key.length ca.ck, .slice ca.Av e.c.val.length ca.cv, .slice ca.Ao e.c.old.length ca.co] hh16, hrc.below' bb⟩
         have HFE := zH hf
         have HL16 : Hid (w0.heap.size <= h16) := zH (by have := HT.out.bel.size; have := hb.size; omega)
         have HT := zH (HT.out.below (hb.trans (bb.mono hb.size)))
         rw [hh16]
         clear hrc hf hb bb hh16 hc0
         generalize w1.alloc (.cells #[.int .i64 e.s, .int .i64 e.q, .int .i64 e.c.kind, .int .i64 e.c.who, .slice ca.Ak e.c.key.length ca.ck, .slice ca.Av e.c.val.length ca.cv, .slice ca.Ao e.c.old.length ca.co] 29) = wa at HEV HT |-
         obtain ⟨bit, hbit⟩ : ∃ bit : Bool, (bits .and .i64 (z / 536870912) 1 == 1) = bit := ⟨_, rfl⟩
         have hc0 := HCZ.out _ HT.out.bel
         go_cut [92] from 80 to 92 (fun s92 wx => ∃ bo : Bool, s92 = .bool bo /\ Hid (bo = true -> i < n1) /\ wx = wa)
         case first =>
          cases bit with
          | false =>
            go_wp2_with fail
            go_meet
            exact ⟨false, rfl, zH (fun h => by cases h), rfl⟩
          | true =>
            by_cases hi1 : i < n1
            · have hi1i : (i : Int) < (n1 : Int) := by omega
              go_wp2_with fail
              go_meet
              exact ⟨true, rfl, zH (fun _ => hi1), rfl⟩
            · have hi1i : ¬ (i : Int) < (n1 : Int) := by omega
              go_wp2_with fail
              go_meet
              exact ⟨false, rfl, zH (fun h => by cases h), rfl⟩
         case rest =>
         obtain ⟨bo, rfl, HBO, hwx⟩ := hcut
         subst hwx
         rename World => wa
         clear hbit hc0 bit
         go_upto_if 92 with fail
         go_cut [] from 93 to 96 (fun wx => ∃ (ca : CA) (e : En), Hid (e.c.Fits) /\ Hid (EntV wx h16 ca e) /\ Hid (Two10 w0 wx g a a2 M))
         case first =>
          cases bo with
          | false =>
            go_wp2_with fail
            go_meet
            exact ⟨ca, e, HFE, HEV, HT⟩
          | true =>
            have hi1 := HBO.out rfl
            obtain ⟨b1, o1, e1, ca1, rfl, he1, ⟨z0, z1, z2, z3, z4, z5, z6⟩, hrc1⟩ := HRE0.out.at hi1
            have y0 := cell_of HT.out.bel z0
            have y1 := cell_of HT.out.bel z1
            have y2 := cell_of HT.out.bel z2
            have y3 := cell_of HT.out.bel z3
            have y4 := cell_of HT.out.bel z4
            have y5 := cell_of HT.out.bel z5
            have y6 := cell_of HT.out.bel z6
            have hi1i : (i : Int) < (n1 : Int) := by omega
            have hk := HEV.out.k
            unfold entC at hk
            obtain ⟨u0, u1, u2, u3, u4, u5, u6⟩ := seven hk
            have f0 := hk.frozen 0
            have f1 := hk.frozen 1
            have f2 := hk.frozen 2
            have f3 := hk.frozen 3
            have f4 := hk.frozen 4
            have f5 := hk.frozen 5
            have f6 := hk.frozen 6
            obtain ⟨p1, p2, p3⟩ := put7 hk ca1 e1 (hrc1.below HT.out.bel)
            have s0 := HT.out.set (i := 0) (u := .int .i64 e1.s) hk HL16.out (by decide) (by decide) (by decide) (by decide) (by decide) (by decide)
            have k1 := hk.set_ 0 (.int .i64 e1.s)
            have s1 := s0.set (i := 1) (u := .int .i64 e1.q) k1 HL16.out (by decide) (by decide) (by decide) (by decide) (by decide) (by decide)
            have k2 := k1.set_ 1 (.int .i64 e1.q)
            have s2 := s1.set (i := 2) (u := .int .i64 e1.c.kind) k2 HL16.out (by decide) (by decide) (by decide) (by decide) (by decide) (by decide)
            have k3 := k2.set_ 2 (.int .i64 e1.c.kind)
            have s3 := s2.set (i := 3) (u := .int .i64 e1.c.who) k3 HL16.out (by decide) (by decide) (by decide) (by decide) (by decide) (by decide)
            have k4 := k3.set_ 3 (.int .i64 e1.c.who)
            have s4 := s3.set (i := 4) (u := .slice ca1.Ak e1.c.key.length ca1.ck) k4 HL16.out (by decide) (by decide) (by decide) (by decide) (by decide) (by decide)
            have k5 := k4.set_ 4 (.slice ca1.Ak e1.c.key.length ca1.ck)
            have s5 := s4.set (i := 5) (u := .slice ca1.Av e1.c.val.length ca1.cv) k5 HL16.out (by decide) (by decide) (by decide) (by decide) (by decide) (by decide)
            have k6 := k5.set_ 5 (.slice ca1.Av e1.c.val.length ca1.cv)
            have s6 := s5.set (i := 6) (u := .slice ca1.Ao e1.c.old.length ca1.co) k6 HL16.out (by decide) (by decide) (by decide) (by decide) (by decide) (by decide)
            have HS6 := zH s6
            have HP1 := zH p1
            have HP2 := zH p2
            clear z0 z1 z2 z3 z4 z5 z6 s0 s1 s2 s3 s4 s5 s6 k1 k2 k3 k4 k5 k6 p1 p2 p3 hrc1 hk
            go_wp2_with fail
            go_meet
            exact ⟨ca1, e1, zH (HRF.out i e1 he1), zH ⟨HP1.out, HP2.out⟩, HS6⟩
         case rest =>
         obtain ⟨ca, e, HFE, HEV, HT⟩ := hcut
         clear HBO
         rename World => wc
         have hka := HT.out.k1
         have hkb := HT.out.k2
         have hke := HEV.out.k
         unfold machC at hka hkb
         unfold entC at hke
         obtain ⟨r, hr⟩ : ∃ r, M.step e = r := ⟨_, rfl⟩
         have HOKN : Hid (r.m.Ok) := zH (by rw [<- hr]; exact HOK.out.step HFE.out)
         have HVB : Hid (∀ x ∈ r.v, x < 256) := zH (by rw [<- hr]; exact (Mc.step_v HOK.out).2)
         have C1 := zH (hS.is (W := w0) (w := wc) (a := a) (ca := ca) hr HOK.out HFE.out HT.out.o1.rd HEV.out.r HT.out.bel)
         have C2 : Hid (∀ wx, Below wc.heap.size wc wx -> Calls Tryz.prog 7 #[machV a2 M, entV ca e] wx (GotM w0 wx r)) := zH (fun wx hb => by
          have h1 := refStep_any (W := w0) (w := wx) (a := a2) (ca := ca) (e := e) HOK.out HFE.out (HT.out.o2.rd.below hb) (HEV.out.r.below hb) (HT.out.bel.trans (hb.mono HT.out.bel.size))
          rw [hr] at h1
          exact h1)
         have HF : Hid (∀ wx, Below wc.heap.size wc wx -> Two10 w0 wx g a a2 M /\ EntV wx h16 ca e) := zH (fun wx hb => ⟨HT.out.below hb, HEV.out.below hb⟩)
         have HLC : Hid (w0.heap.size <= wc.heap.size) := zH HT.out.bel.size
         clear hr
         obtain ⟨x0, x1, x2, x3, x4⟩ := five hka
         obtain ⟨u0, u1, u2, u3, u4, u5, u6⟩ := seven hke
         clear hka hkb hke HT HEV
         unfold machV machC entV entC at C1 C2
         go_upto_region 18 with (first
          | (go_at_call 6; refine C1.out.mono ?_; rintro en w1 ⟨a3, A3, c3, rfl, ho3, hv3, hB3, hb3⟩; unfold machV machC resV)
          | fail)
         have b1 : Below w1.heap.size w1 ((w1.alloc (.cells #[.slice a3.o.A0 r.m.o.reg.length a3.o.c0, .slice a3.o.A1 r.m.o.q.length a3.o.c1, .slice a3.o.A2 r.m.o.lk.length a3.o.c2, .slice a3.o.A3 r.m.o.mp.length a3.o.c3, .slice a3.At r.m.t.length a3.ct] 36)).alloc (.cells #[.int .i64 r.e, .slice A3 r.v.length c3, .int .i64 r.n] 41)) := ((Below.refl _ _).alloc lR _).alloc (by simp) _
         obtain ⟨h17, hh17⟩ : ∃ x, w1.heap.size = x := ⟨_, rfl⟩
         have HK17 := zH ((Blk.newAt w1 36 #[.slice a3.o.A0 r.m.o.reg.length a3.o.c0, .slice a3.o.A1 r.m.o.q.length a3.o.c1, .slice a3.o.A2 r.m.o.lk.length a3.o.c2, .slice a3.o.A3 r.m.o.mp.length a3.o.c3, .slice a3.At r.m.t.length a3.ct] hh17).alloc (.cells #[.int .i64 r.e, .slice A3 r.v.length c3, .int .i64 r.n] 41))
         have HK18 := zH (Blk.new (w1.alloc (.cells #[.slice a3.o.A0 r.m.o.reg.length a3.o.c0, .slice a3.o.A1 r.m.o.q.length a3.o.c1, .slice a3.o.A2 r.m.o.lk.length a3.o.c2, .slice a3.o.A3 r.m.o.mp.length a3.o.c3, .slice a3.At r.m.t.length a3.ct] 36)) 41 #[.int .i64 r.e, .slice A3 r.v.length c3, .int .i64 r.n])
         rw [World.size_alloc, hh17] at HK18
         have HL17 : Hid (w0.heap.size <= h17 /\ g + 1 < h17 /\ h16 < h17) := zH (by
          have q1 := ((HF.out _ (Below.refl _ _)).1.k2).lt
          have q2 := ((HF.out _ (Below.refl _ _)).2.k).lt
          have q3 := hb3.size
          have q4 := HLC.out
          omega)
         have HBC1 : Hid (Below wc.heap.size wc ((w1.alloc (.cells #[.slice a3.o.A0 r.m.o.reg.length a3.o.c0, .slice a3.o.A1 r.m.o.q.length a3.o.c1, .slice a3.o.A2 r.m.o.lk.length a3.o.c2, .slice a3.o.A3 r.m.o.mp.length a3.o.c3, .slice a3.At r.m.t.length a3.ct] 36)).alloc (.cells #[.int .i64 r.e, .slice A3 r.v.length c3, .int .i64 r.n] 41))) := zH (hb3.trans (b1.mono hb3.size))
         have HO3 := zH (ho3.below b1)
         have HV3 := zH (own_below hv3 b1)
         simp only [hh17]
         clear ho3 hv3 hB3 hb3 b1 hh17 x0 x1 x2 x3 x4 u0 u1 u2 u3 u4 u5 u6 C1
         generalize (w1.alloc (.cells #[.slice a3.o.A0 r.m.o.reg.length a3.o.c0, .slice a3.o.A1 r.m.o.q.length a3.o.c1, .slice a3.o.A2 r.m.o.lk.length a3.o.c2, .slice a3.o.A3 r.m.o.mp.length a3.o.c3, .slice a3.At r.m.t.length a3.ct] 36)).alloc (.cells #[.int .i64 r.e, .slice A3 r.v.length c3, .int .i64 r.n] 41) = wd at HK17 HK18 HBC1 HO3 HV3 |-
         have hkb := (HF.out wd HBC1.out).1.k2
         have hke := (HF.out wd HBC1.out).2.k
         unfold machC at hkb
         unfold entC at hke
         obtain ⟨x0, x1, x2, x3, x4⟩ := five hkb
         obtain ⟨u0, u1, u2, u3, u4, u5, u6⟩ := seven hke
         clear hkb hke
         go_upto_region 19 with (first
          | (go_at_call 7; refine (C2.out wd HBC1.out).mono ?_; rintro en w2 ⟨a4, A4, c4, rfl, ho4, hv4, hB4, hb4⟩; unfold machV machC resV)
          | fail)
         have b1 : Below w2.heap.size w2 ((w2.alloc (.cells #[.slice a4.o.A0 r.m.o.reg.length a4.o.c0, .slice a4.o.A1 r.m.o.q.length a4.o.c1, .slice a4.o.A2 r.m.o.lk.length a4.o.c2, .slice a4.o.A3 r.m.o.mp.length a4.o.c3, .slice a4.At r.m.t.length a4.ct] 36)).alloc (.cells #[.int .i64 r.e, .slice A4 r.v.length c4, .int .i64 r.n] 41)) := ((Below.refl _ _).alloc lR _).alloc (by simp) _
         obtain ⟨h19, hh19⟩ : ∃ x, w2.heap.size = x := ⟨_, rfl⟩
         have bc := hb4.trans (b1.mono hb4.size)
         have HK19 := zH ((Blk.newAt w2 36 #[.slice a4.o.A0 r.m.o.reg.length a4.o.c0, .slice a4.o.A1 r.m.o.q.length a4.o.c1, .slice a4.o.A2 r.m.o.lk.length a4.o.c2, .slice a4.o.A3 r.m.o.mp.length a4.o.c3, .slice a4.At r.m.t.length a4.ct] hh19).alloc (.cells #[.int .i64 r.e, .slice A4 r.v.length c4, .int .i64 r.n] 41))
         have HK20 := zH (Blk.new (w2.alloc (.cells #[.slice a4.o.A0 r.m.o.reg.length a4.o.c0, .slice a4.o.A1 r.m.o.q.length a4.o.c1, .slice a4.o.A2 r.m.o.lk.length a4.o.c2, .slice a4.o.A3 r.m.o.mp.length a4.o.c3, .slice a4.At r.m.t.length a4.ct] 36)) 41 #[.int .i64 r.e, .slice A4 r.v.length c4, .int .i64 r.n])
         rw [World.size_alloc, hh19] at HK20
         have HL19 : Hid (h17 + 1 < h19) := zH (by have q1 := HK18.out.lt; have q3 := hb4.size; omega)
         have HBC2 : Hid (Below wc.heap.size wc ((w2.alloc (.cells #[.slice a4.o.A0 r.m.o.reg.length a4.o.c0, .slice a4.o.A1 r.m.o.q.length a4.o.c1, .slice a4.o.A2 r.m.o.lk.length a4.o.c2, .slice a4.o.A3 r.m.o.mp.length a4.o.c3, .slice a4.At r.m.t.length a4.ct] 36)).alloc (.cells #[.int .i64 r.e, .slice A4 r.v.length c4, .int .i64 r.n] 41))) := zH (HBC1.out.trans (bc.mono HBC1.out.size))
         have HO4 := zH (ho4.below b1)
         have HV4 := zH (own_below hv4 b1)
         have HK17 := zH (HK17.out.below bc)
         have HK18 := zH (HK18.out.below bc)
         have HO3 := zH (HO3.out.below bc)
         have HV3 := zH (own_below HV3.out bc)
         simp only [hh19]
         clear ho4 hv4 hB4 hb4 b1 bc hh19 x0 x1 x2 x3 x4 u0 u1 u2 u3 u4 u5 u6 C2 HBC1
         generalize (w2.alloc (.cells #[.slice a4.o.A0 r.m.o.reg.length a4.o.c0, .slice a4.o.A1 r.m.o.q.length a4.o.c1, .slice a4.o.A2 r.m.o.lk.length a4.o.c2, .slice a4.o.A3 r.m.o.mp.length a4.o.c3, .slice a4.At r.m.t.length a4.ct] 36)).alloc (.cells #[.int .i64 r.e, .slice A4 r.v.length c4, .int .i64 r.n] 41) = we at HK17 HK18 HK19 HK20 HBC2 HO3 HV3 HO4 HV4 |-
         have HTW := zH (HF.out we HBC2.out)
         clear HF HBC2 HLC
         have HFB : Hid (∀ wx, Below we.heap.size we wx -> (Blk wx h17 36 #[.slice a3.o.A0 r.m.o.reg.length a3.o.c0, .slice a3.o.A1 r.m.o.q.length a3.o.c1, .slice a3.o.A2 r.m.o.lk.length a3.o.c2, .slice a3.o.A3 r.m.o.mp.length a3.o.c3, .slice a3.At r.m.t.length a3.ct] /\ Blk wx (h17 + 1) 41 #[.int .i64 r.e, .slice A3 r.v.length c3, .int .i64 r.n] /\ Blk wx h19 36 #[.slice a4.o.A0 r.m.o.reg.length a4.o.c0, .slice a4.o.A1 r.m.o.q.length a4.o.c1, .slice a4.o.A2 r.m.o.lk.length a4.o.c2, .slice a4.o.A3 r.m.o.mp.length a4.o.c3, .slice a4.At r.m.t.length a4.ct] /\ Blk wx (h19 + 1) 41 #[.int .i64 r.e, .slice A4 r.v.length c4, .int .i64 r.n] /\ Blk wx g 36 #[.slice a.o.A0 M.o.reg.length a.o.c0, .slice a.o.A1 M.o.q.length a.o.c1, .slice a.o.A2 M.o.lk.length a.o.c2, .slice a.o.A3 M.o.mp.length a.o.c3, .slice a.At M.t.length a.ct] /\ Blk wx (g + 1) 36 #[.slice a2.o.A0 M.o.reg.length a2.o.c0, .slice a2.o.A1 M.o.q.length a2.o.c1, .slice a2.o.A2 M.o.lk.length a2.o.c2, .slice a2.o.A3 M.o.mp.length a2.o.c3, .slice a2.At M.t.length a2.ct])) := zH (fun wx hb => ⟨HK17.out.below hb, HK18.out.below hb, HK19.out.below hb, HK20.out.below hb, HTW.out.1.k1.below hb, HTW.out.1.k2.below hb⟩)
         obtain ⟨D, hD⟩ : ∃ D : Bool, decide (M = r.m) = D := ⟨_, rfl⟩
         have S1 : Hid (∀ wx, Below we.heap.size we wx -> Calls Tryz.prog 8 #[.agg #[.slice a3.o.A0 r.m.o.reg.length a3.o.c0, .slice a3.o.A1 r.m.o.q.length a3.o.c1, .slice a3.o.A2 r.m.o.lk.length a3.o.c2, .slice a3.o.A3 r.m.o.mp.length a3.o.c3, .slice a3.At r.m.t.length a3.ct], .agg #[.slice a4.o.A0 r.m.o.reg.length a4.o.c0, .slice a4.o.A1 r.m.o.q.length a4.o.c1, .slice a4.o.A2 r.m.o.lk.length a4.o.c2, .slice a4.o.A3 r.m.o.mp.length a4.o.c3, .slice a4.At r.m.t.length a4.ct]] wx fun e w' => e = .returned (.bool true) /\ Below wx.heap.size wx w') := zH (fun wx hb => by
          have h1 := refSame_any wx (a := a3) (a' := a4) HOKN.out HOKN.out (HO3.out.rd.below hb) (HO4.out.rd.below hb)
          rw [decide_eq_true rfl] at h1
          exact h1)
         have S2 : Hid (∀ wx, Below we.heap.size we wx -> Calls Tryz.prog 9 #[.agg #[.int .i64 r.e, .slice A3 r.v.length c3, .int .i64 r.n], .agg #[.int .i64 r.e, .slice A4 r.v.length c4, .int .i64 r.n]] wx fun e w' => e = .returned (.bool true) /\ Below wx.heap.size wx w') := zH (fun wx hb => by
          have h1 := sameR_any wx (n := r.v.length) (n' := r.v.length) (c := c3) (c' := c4) r.e r.e r.n r.n HVB.out HVB.out (Rd.below (Rd.own_ HV3.out) hb) (Rd.below (Rd.own_ HV4.out) hb)
          rw [decide_eq_true rfl, decide_eq_true rfl, decide_eq_true rfl] at h1
          exact h1)
         have S3 : Hid (∀ wx, Below we.heap.size we wx -> Calls Tryz.prog 10 #[.agg #[.slice a.o.A0 M.o.reg.length a.o.c0, .slice a.o.A1 M.o.q.length a.o.c1, .slice a.o.A2 M.o.lk.length a.o.c2, .slice a.o.A3 M.o.mp.length a.o.c3, .slice a.At M.t.length a.ct], .agg #[.slice a3.o.A0 r.m.o.reg.length a3.o.c0, .slice a3.o.A1 r.m.o.q.length a3.o.c1, .slice a3.o.A2 r.m.o.lk.length a3.o.c2, .slice a3.o.A3 r.m.o.mp.length a3.o.c3, .slice a3.At r.m.t.length a3.ct]] wx fun e w' => e = .returned (.bool D) /\ Below wx.heap.size wx w') := zH (fun wx hb => hM.is wx (a := a) (a' := a3) hD HOK.out HOKN.out (HTW.out.1.o1.rd.below hb) (HO3.out.rd.below hb))
         have S4 : Hid (∀ wx, Below we.heap.size we wx -> Calls Tryz.prog 8 #[.agg #[.slice a2.o.A0 M.o.reg.length a2.o.c0, .slice a2.o.A1 M.o.q.length a2.o.c1, .slice a2.o.A2 M.o.lk.length a2.o.c2, .slice a2.o.A3 M.o.mp.length a2.o.c3, .slice a2.At M.t.length a2.ct], .agg #[.slice a4.o.A0 r.m.o.reg.length a4.o.c0, .slice a4.o.A1 r.m.o.q.length a4.o.c1, .slice a4.o.A2 r.m.o.lk.length a4.o.c2, .slice a4.o.A3 r.m.o.mp.length a4.o.c3, .slice a4.At r.m.t.length a4.ct]] wx fun e w' => e = .returned (.bool D) /\ Below wx.heap.size wx w') := zH (fun wx hb => by
          have h1 := refSame_any wx (a := a2) (a' := a4) HOK.out HOKN.out (HTW.out.1.o2.rd.below hb) (HO4.out.rd.below hb)
          rw [hD] at h1
          exact h1)
         have hDD : (D != D) = false := by simp
         clear hD
         go_cut [127] from 109 to 127 (fun s127 wx => s127 = .bool false /\ Hid (Below we.heap.size we wx))
         case first =>
          have hS0 : Below we.heap.size we we.drew := (Below.refl _ _).drew
          refine wp_region_held_drew (S := fun w' => Below we.heap.size we w') (by kernel_rfl) hS0 (fun _ => ?_)
          have hS := zH hS0
          clear hS0
          generalize we.drew = q0 at hS |-
          refine tkL (i := 0) (v := .agg #[.slice a3.o.A0 r.m.o.reg.length a3.o.c0, .slice a3.o.A1 r.m.o.q.length a3.o.c1, .slice a3.o.A2 r.m.o.lk.length a3.o.c2, .slice a3.o.A3 r.m.o.mp.length a3.o.c3, .slice a3.At r.m.t.length a3.ct]) rfl (fun w h => by obtain ⟨k1, k2, k3, k4, k5, k6⟩ := HFB.out w h; obtain ⟨q0, q1, q2, q3, q4⟩ := five k1; go_simp) hS.out ?_
          refine tkL (i := 1) (v := .agg #[.slice a4.o.A0 r.m.o.reg.length a4.o.c0, .slice a4.o.A1 r.m.o.q.length a4.o.c1, .slice a4.o.A2 r.m.o.lk.length a4.o.c2, .slice a4.o.A3 r.m.o.mp.length a4.o.c3, .slice a4.At r.m.t.length a4.ct]) rfl (fun w h => by obtain ⟨k1, k2, k3, k4, k5, k6⟩ := HFB.out w h; obtain ⟨q0, q1, q2, q3, q4⟩ := five k3; go_simp) hS.out ?_
          refine rdH (rs := [2]) ?_
          refine AllReadyH.cons rfl (fun K hK => ?_) AllReadyH.nil
          go_simp
          refine (S1.out _ hS.out).mono ?_
          rintro en wq ⟨rfl, hbq⟩
          have hS := zH (hS.out.trans (hbq.mono hS.out.size))
          clear hbq
          go_simp
          refine hK.out _ _ hS.out (fun _ => ?_)
          clear hK K
          refine tkL (i := 3) (v := .bool false) rfl (fun w _ => by go_simp) hS.out ?_
          refine tkL (i := 4) (v := .bool false) rfl (fun w _ => by go_simp) hS.out ?_
          refine tkL (i := 5) (v := .agg #[.int .i64 r.e, .slice A3 r.v.length c3, .int .i64 r.n]) rfl (fun w h => by obtain ⟨k1, k2, k3, k4, k5, k6⟩ := HFB.out w h; obtain ⟨q0, q1, q2, _, _, _⟩ := three k2; go_simp) hS.out ?_
          refine tkL (i := 6) (v := .agg #[.int .i64 r.e, .slice A4 r.v.length c4, .int .i64 r.n]) rfl (fun w h => by obtain ⟨k1, k2, k3, k4, k5, k6⟩ := HFB.out w h; obtain ⟨q0, q1, q2, _, _, _⟩ := three k4; go_simp) hS.out ?_
          refine rdH (rs := [7]) ?_
          refine AllReadyH.cons rfl (fun K hK => ?_) AllReadyH.nil
          go_simp
          refine (S2.out _ hS.out).mono ?_
          rintro en wq ⟨rfl, hbq⟩
          have hS := zH (hS.out.trans (hbq.mono hS.out.size))
          clear hbq
          go_simp
          refine hK.out _ _ hS.out (fun _ => ?_)
          clear hK K
          refine tkL (i := 8) (v := .bool false) rfl (fun w _ => by go_simp) hS.out ?_
          refine tkL (i := 9) (v := .bool false) rfl (fun w _ => by go_simp) hS.out ?_
          refine tkL (i := 10) (v := .bool false) rfl (fun w _ => by go_simp) hS.out ?_
          refine tkL (i := 11) (v := .agg #[.slice a.o.A0 M.o.reg.length a.o.c0, .slice a.o.A1 M.o.q.length a.o.c1, .slice a.o.A2 M.o.lk.length a.o.c2, .slice a.o.A3 M.o.mp.length a.o.c3, .slice a.At M.t.length a.ct]) rfl (fun w h => by obtain ⟨k1, k2, k3, k4, k5, k6⟩ := HFB.out w h; obtain ⟨q0, q1, q2, q3, q4⟩ := five k5; go_simp) hS.out ?_
          refine tkL (i := 12) (v := .agg #[.slice a3.o.A0 r.m.o.reg.length a3.o.c0, .slice a3.o.A1 r.m.o.q.length a3.o.c1, .slice a3.o.A2 r.m.o.lk.length a3.o.c2, .slice a3.o.A3 r.m.o.mp.length a3.o.c3, .slice a3.At r.m.t.length a3.ct]) rfl (fun w h => by obtain ⟨k1, k2, k3, k4, k5, k6⟩ := HFB.out w h; obtain ⟨q0, q1, q2, q3, q4⟩ := five k1; go_simp) hS.out ?_
          refine tkL (i := 14) (v := .agg #[.slice a2.o.A0 M.o.reg.length a2.o.c0, .slice a2.o.A1 M.o.q.length a2.o.c1, .slice a2.o.A2 M.o.lk.length a2.o.c2, .slice a2.o.A3 M.o.mp.length a2.o.c3, .slice a2.At M.t.length a2.ct]) rfl (fun w h => by obtain ⟨k1, k2, k3, k4, k5, k6⟩ := HFB.out w h; obtain ⟨q0, q1, q2, q3, q4⟩ := five k6; go_simp) hS.out ?_
          refine tkL (i := 15) (v := .agg #[.slice a4.o.A0 r.m.o.reg.length a4.o.c0, .slice a4.o.A1 r.m.o.q.length a4.o.c1, .slice a4.o.A2 r.m.o.lk.length a4.o.c2, .slice a4.o.A3 r.m.o.mp.length a4.o.c3, .slice a4.At r.m.t.length a4.ct]) rfl (fun w h => by obtain ⟨k1, k2, k3, k4, k5, k6⟩ := HFB.out w h; obtain ⟨q0, q1, q2, q3, q4⟩ := five k3; go_simp) hS.out ?_
          refine rdH (rs := [13]) ?_
          refine AllReadyH.cons rfl (fun K hK => ?_) AllReadyH.nil
          go_simp
          refine (S3.out _ hS.out).mono ?_
          rintro en wq ⟨rfl, hbq⟩
          have hS := zH (hS.out.trans (hbq.mono hS.out.size))
          clear hbq
          go_simp
          refine hK.out _ _ hS.out (fun _ => ?_)
          clear hK K
          refine rdH (rs := [16]) ?_
          refine AllReadyH.cons rfl (fun K hK => ?_) AllReadyH.nil
          go_simp
          refine (S4.out _ hS.out).mono ?_
          rintro en wq ⟨rfl, hbq⟩
          have hS := zH (hS.out.trans (hbq.mono hS.out.size))
          clear hbq
          go_simp
          refine hK.out _ _ hS.out (fun _ => ?_)
          clear hK K
          refine tkL (i := 17) (v := .bool false) rfl (fun w _ => by go_simp) hS.out ?_
          refine tkL (i := 18) (v := .bool false) rfl (fun w _ => by go_simp) hS.out ?_
          refine wpAnyH_done (by kernel_rfl) ?_ _
          go_wp2_with fail
          go_meet
          exact ⟨rfl, hS⟩
         case rest =>
         obtain ⟨rfl, HBE⟩ := hcut
         rename World => wf
         have HTW := zH (And.intro (HTW.out.1.below HBE.out) (HTW.out.2.below HBE.out))
         have HK17 := zH (HK17.out.below HBE.out)
         have HK19 := zH (HK19.out.below HBE.out)
         have HO3 := zH (HO3.out.below HBE.out)
         have HO4 := zH (HO4.out.below HBE.out)
         clear HFB S1 S2 S3 S4 hDD HK18 HK20 HV3 HV4 HBE
         go_upto_region 21 with fail
         have hbd : Below wf.heap.size wf wf.drew := (Below.refl _ _).drew
         have HTD := zH (And.intro (HTW.out.1.below hbd) (HTW.out.2.below hbd))
         have HK17 := zH (HK17.out.below hbd)
         have HK19 := zH (HK19.out.below hbd)
         have HO3 := zH (HO3.out.below hbd)
         have HO4 := zH (HO4.out.below hbd)
         have hS := zH (And.intro HK17.out HK19.out)
         refine wp_region_held_drew (S := fun w' => Blk w' h17 36 #[.slice a3.o.A0 r.m.o.reg.length a3.o.c0, .slice a3.o.A1 r.m.o.q.length a3.o.c1, .slice a3.o.A2 r.m.o.lk.length a3.o.c2, .slice a3.o.A3 r.m.o.mp.length a3.o.c3, .slice a3.At r.m.t.length a3.ct] /\ Blk w' h19 36 #[.slice a4.o.A0 r.m.o.reg.length a4.o.c0, .slice a4.o.A1 r.m.o.q.length a4.o.c1, .slice a4.o.A2 r.m.o.lk.length a4.o.c2, .slice a4.o.A3 r.m.o.mp.length a4.o.c3, .slice a4.At r.m.t.length a4.ct]) (by kernel_rfl) hS.out (fun _ => ?_)
         clear hbd HTW
         generalize wf.drew = wg at HTD HK17 HK19 HO3 HO4 hS |-
         refine tkL (i := 0) (v := .agg #[.slice a3.o.A0 r.m.o.reg.length a3.o.c0, .slice a3.o.A1 r.m.o.q.length a3.o.c1, .slice a3.o.A2 r.m.o.lk.length a3.o.c2, .slice a3.o.A3 r.m.o.mp.length a3.o.c3, .slice a3.At r.m.t.length a3.ct]) rfl (fun w h => by obtain ⟨q0, q1, q2, q3, q4⟩ := five h.1; go_simp) hS.out ?_
         refine tkL (i := 1) (v := .agg #[.slice a4.o.A0 r.m.o.reg.length a4.o.c0, .slice a4.o.A1 r.m.o.q.length a4.o.c1, .slice a4.o.A2 r.m.o.lk.length a4.o.c2, .slice a4.o.A3 r.m.o.mp.length a4.o.c3, .slice a4.At r.m.t.length a4.ct]) rfl (fun w h => by obtain ⟨q0, q1, q2, q3, q4⟩ := five h.2; go_simp) hS.out ?_
         obtain ⟨t1, t2, t3, t4⟩ := HTD.out.1.turn HTD.out.2 HG.out HO3.out HO4.out
         have q1 := HL17.out
         have q2 := HL19.out
         have HS9 := zH (And.intro (t1 h17 _ _ (by omega) hS.out.1) (t1 h19 _ _ (by omega) hS.out.2))
         have HS10 := zH (And.intro (t2 h17 _ _ (by omega) (by omega) hS.out.1) (t2 h19 _ _ (by omega) (by omega) hS.out.2))
         have HTN := zH (And.intro t3 t4)
         have hka := HTD.out.1.k1
         have hkb := t1 (g + 1) _ _ (by omega) HTD.out.1.k2
         unfold fiveM at HS9 HS10 HTN hkb
         unfold machC at hka hkb
         obtain ⟨x0, x1, x2, x3, x4⟩ := five hka
         obtain ⟨f0, f1, f2, f3, f4⟩ := five_frozen hka
         obtain ⟨y0, y1, y2, y3, y4⟩ := five hkb
         obtain ⟨d0, d1, d2, d3, d4⟩ := five_frozen hkb
         clear hka hkb t1 t2 t3 t4 q1 q2
         refine rdH (rs := [2]) ?_
         refine AllReadyH.cons rfl (fun K hK => ?_) AllReadyH.nil
         go_simp
         refine hK.out _ _ HS9.out (fun _ => ?_)
         clear hK K
         clear x0 x1 x2 x3 x4 f0 f1 f2 f3 f4
         generalize (((((wg.setCell ⟨g, 0, none⟩ (.slice a3.o.A0 r.m.o.reg.length a3.o.c0)).setCell ⟨g, 1, none⟩ (.slice a3.o.A1 r.m.o.q.length a3.o.c1)).setCell ⟨g, 2, none⟩ (.slice a3.o.A2 r.m.o.lk.length a3.o.c2)).setCell ⟨g, 3, none⟩ (.slice a3.o.A3 r.m.o.mp.length a3.o.c3)).setCell ⟨g, 4, none⟩ (.slice a3.At r.m.t.length a3.ct)) = w9 at HTN HS9 HS10 y0 y1 y2 y3 y4 d0 d1 d2 d3 d4 |-
         refine rdH (rs := [3]) ?_
         refine AllReadyH.cons rfl (fun K hK => ?_) AllReadyH.nil
         go_simp
         refine hK.out _ _ HS10.out (fun _ => ?_)
         clear hK K
         clear y0 y1 y2 y3 y4 d0 d1 d2 d3 d4 HS9 HS10 hS HTD HK17 HK19 HO3 HO4
         refine wpAnyH_done (by kernel_rfl) ?_ _
         generalize (((((w9.setCell ⟨g + 1, 0, none⟩ (.slice a4.o.A0 r.m.o.reg.length a4.o.c0)).setCell ⟨g + 1, 1, none⟩ (.slice a4.o.A1 r.m.o.q.length a4.o.c1)).setCell ⟨g + 1, 2, none⟩ (.slice a4.o.A2 r.m.o.lk.length a4.o.c2)).setCell ⟨g + 1, 3, none⟩ (.slice a4.o.A3 r.m.o.mp.length a4.o.c3)).setCell ⟨g + 1, 4, none⟩ (.slice a4.At r.m.t.length a4.ct)) = wh at HTN |-
         have HWH := zH HTN.out.1.bel
         obtain ⟨eb, heb⟩ : ∃ x, e.enc = x := ⟨_, rfl⟩
         have HEB : Hid (eb.length <= 400 /\ ∀ x ∈ eb, x < 256) := zH (by rw [<- heb]; exact ⟨En.enc_len HFE.out, En.enc_lt256 HFE.out⟩)
         have HRF4 : Hid (∀ {W wx : World} {l : List Nat} {A : Option Addr} {n c B : Nat}, l.length <= 10000 -> Rd wx B A n (bv l) -> Below wh.heap.size wh wx -> Below W.heap.size W wx -> Calls Tryz.prog 11 #[.slice A n c, .agg #[.int .i64 e.s, .int .i64 e.q, .int .i64 e.c.kind, .int .i64 e.c.who, .slice ca.Ak e.c.key.length ca.ck, .slice ca.Av e.c.val.length ca.cv, .slice ca.Ao e.c.old.length ca.co]] wx (GotIn W wx (l ++ eb))) := zH (fun h1 h2 hb hB => by
          rw [<- heb]
          exact refPutEntry_any (ca := ca) (by omega) HFE.out h2 (HTN.out.2.r.below hb) hB)
         have HRF5 : Hid (∀ {W wx : World} {l : List Nat} {A : Option Addr} {n c B : Nat}, l.length <= 10000 -> Rd wx B A n (bv l) -> Below wh.heap.size wh wx -> Below W.heap.size W wx -> Calls Tryz.prog 13 #[.slice A n c, .agg #[.int .i64 e.s, .int .i64 e.q, .int .i64 e.c.kind, .int .i64 e.c.who, .slice ca.Ak e.c.key.length ca.ck, .slice ca.Av e.c.val.length ca.cv, .slice ca.Ao e.c.old.length ca.co]] wx (GotIn W wx (l ++ eb))) := zH (fun h1 h2 hb hB => by
          rw [<- heb]
          exact putEntry_any (ca := ca) h1 HFE.out h2 (HTN.out.2.r.below hb) hB)
         clear heb
         have hke := HTN.out.2.k
         unfold entC at hke
         obtain ⟨u0, u1, u2, u3, u4, u5, u6⟩ := seven hke
         clear hke
         go_upto_region 23 with (first
          | (go_at_call 11; refine (HRF4.out (W := wh) (l := []) (by simp) (Rd.none_ _ 0 none) (Below.refl _ _) (Below.refl _ _)).mono ?_; rintro en w1 ⟨A5, c5, rfl, ho5, hB5, hb5⟩
             rw [List.nil_append] at ho5
             simp only [List.nil_append])
          | fail)
         have b1 : Below w1.heap.size w1 (w1.alloc (.cells #[.slice A5 eb.length c5, .bool false] 49)) := (Below.refl _ _).alloc lR _
         obtain ⟨h21, hh21⟩ : ∃ x, w1.heap.size = x := ⟨_, rfl⟩
         have HRA : Hid (RefAt (w1.alloc (.cells #[.slice A5 eb.length c5, .bool false] 49)) h21 h21 (some eb)) := zH ⟨A5, _, c5, Blk.newAt _ _ _ hh21, (own_cap ho5).1, (own_cap ho5).2, by have := HEB.out.1; unfold Lim; omega, Nat.le_refl _, fun l' hl' => by
          injection hl' with hl'
          subst hl'
          exact ⟨by rw [<- hh21]; exact (Rd.own_ ho5).below b1, HEB.out.2⟩⟩
         have HL21 : Hid (wh.heap.size <= h21) := zH (by rw [<- hh21]; exact hb5.size)
         have HBI := zH (hb5.trans (b1.mono hb5.size))
         simp only [hh21]
         clear ho5 hB5 hb5 b1 hh21 u0 u1 u2 u3 u4 u5 u6
         generalize w1.alloc (.cells #[.slice A5 eb.length c5, .bool false] 49) = wi at HRA HBI |-
         have hke := (HTN.out.2.below HBI.out).k
         unfold entC at hke
         obtain ⟨u0, u1, u2, u3, u4, u5, u6⟩ := seven hke
         clear hke
         go_upto_region 24 with (first
          | (go_at_call 13; refine (HRF5.out (W := wi) (l := []) (by simp) (Rd.none_ _ 0 none) HBI.out (Below.refl _ _)).mono ?_; rintro en w2 ⟨A6, c6, rfl, ho6, hB6, hb6⟩
             rw [List.nil_append] at ho6
             simp only [List.nil_append]
             have HO6 := zH ho6
             have HB6 := zH hb6
             clear ho6 hb6 hB6)
          | (go_at_call 12; refine (read_in (W := wi) (l := eb) (by have := HEB.out.1; unfold Lim; omega) HEB.out.2 (Rd.own_ HO6.out) HB6.out).mono ?_; rintro en w3 ⟨h22, rfl, hrd, hle, hle2, hB7, hb7⟩)
          | fail)
         have HL22 : Hid (h21 < h22) := zH (Nat.lt_of_lt_of_le HRA.out.lt hle)
         have HRD := zH hrd
         have HRA := zH (HRA.out.below hB7)
         have HBJ := zH (HBI.out.trans (hB7.mono HBI.out.size))
         clear hrd hle hle2 hB7 hb7 HO6 HB6 HBI u0 u1 u2 u3 u4 u5 u6
         have HTJ := zH (And.intro (HTN.out.1.below HBJ.out) (HTN.out.2.below HBJ.out))
         have HLW : Hid (w0.heap.size <= h21) := zH (Nat.le_trans HTN.out.1.bel.size HL21.out)
         go_cut [167] from 137 to 167 (fun s167 wx => s167 = .bool false /\ Hid (Two10 w0 wx g a3 a4 r.m))
         case first =>
          have hbd : Below w3.heap.size w3 w3.drew := (Below.refl _ _).drew
          have hS := zH (HTJ.out.2.below hbd).k
          unfold entC at hS
          refine wp_region_held_drew (S := fun w' => Blk w' h16 29 #[.int .i64 e.s, .int .i64 e.q, .int .i64 e.c.kind, .int .i64 e.c.who, .slice ca.Ak e.c.key.length ca.ck, .slice ca.Av e.c.val.length ca.cv, .slice ca.Ao e.c.old.length ca.co]) (by kernel_rfl) hS.out (fun _ => ?_)
          have HP := zH (And.intro (HTJ.out.1.below hbd) (And.intro (HRD.out.below hbd) (HRA.out.below hbd)))
          have HBK := zH (HBJ.out.trans (hbd.mono HBJ.out.size))
          clear hbd HTJ HRD HRA HBJ HTN
          generalize w3.drew = q0 at hS HP HBK |-
          obtain ⟨L, hL⟩ : ∃ x, bs ++ eb = x := ⟨_, rfl⟩
          have hbn : bs.length <= 10000 := by have := HBR0.out.length; omega
          have h61 := strB_self L
          have h62 : ((strB L).toList == (strB L).toList) = true := by simp
          have C2 : Hid (∀ wx, Below wh.heap.size wh wx -> Calls Tryz.prog 13 #[.slice A2 n2 c2, .agg #[.int .i64 e.s, .int .i64 e.q, .int .i64 e.c.kind, .int .i64 e.c.who, .slice ca.Ak e.c.key.length ca.ck, .slice ca.Av e.c.val.length ca.cv, .slice ca.Ao e.c.old.length ca.co]] wx (GotIn w0 wx L)) := zH (fun wx hb => by
           have h0 := HWH.out.trans (hb.mono HWH.out.size)
           have h1 := HRF5.out (W := w0) (c := c2) hbn (HBR0.out.below h0) hb h0
           rwa [hL] at h1)
          have C6 : Hid (∀ wx, Below wh.heap.size wh wx -> Calls Tryz.prog 11 #[.slice A2 n2 c2, .agg #[.int .i64 e.s, .int .i64 e.q, .int .i64 e.c.kind, .int .i64 e.c.who, .slice ca.Ak e.c.key.length ca.ck, .slice ca.Av e.c.val.length ca.cv, .slice ca.Ao e.c.old.length ca.co]] wx (GotIn w0 wx L)) := zH (fun wx hb => by
           have h0 := HWH.out.trans (hb.mono HWH.out.size)
           have h1 := HRF4.out (W := w0) (c := c2) hbn (HBR0.out.below h0) hb h0
           rwa [hL] at h1)
          clear hL HRF4 HRF5
          refine tkL (i := 0) (v := .slice A2 n2 c2) rfl (fun w _ => by go_simp) hS.out ?_
          refine tkL (i := 4) (v := .slice A2 n2 c2) rfl (fun w _ => by go_simp) hS.out ?_
          refine tkL (i := 1) (v := .agg #[.int .i64 e.s, .int .i64 e.q, .int .i64 e.c.kind, .int .i64 e.c.who, .slice ca.Ak e.c.key.length ca.ck, .slice ca.Av e.c.val.length ca.cv, .slice ca.Ao e.c.old.length ca.co]) rfl (fun w h => by obtain ⟨q0, q1, q2, q3, q4, q5, q6⟩ := seven h; go_simp) hS.out ?_
          refine tkL (i := 5) (v := .agg #[.int .i64 e.s, .int .i64 e.q, .int .i64 e.c.kind, .int .i64 e.c.who, .slice ca.Ak e.c.key.length ca.ck, .slice ca.Av e.c.val.length ca.cv, .slice ca.Ao e.c.old.length ca.co]) rfl (fun w h => by obtain ⟨q0, q1, q2, q3, q4, q5, q6⟩ := seven h; go_simp) hS.out ?_
          refine rdH (rs := [2]) ?_
          refine AllReadyH.cons rfl (fun K hK => ?_) AllReadyH.nil
          go_simp
          refine (C2.out _ HBK.out).mono ?_
          rintro en q1 ⟨A7, c7, rfl, ho, hB, hb⟩
          have st7 := str_of (c := c7) (Rd.own_ ho)
          have HO7 := zH ho
          have HBK := zH (HBK.out.trans (hb.mono HBK.out.size))
          have hS := zH (hS.out.below hb)
          have HP := zH (And.intro (HP.out.1.below hb) (And.intro (HP.out.2.1.below hb) (HP.out.2.2.below hb)))
          clear ho hB hb
          go_simp
          refine hK.out _ _ hS.out (fun _ => ?_)
          clear hK K
          refine rdH (rs := [3, 6]) ?_
          refine AllReadyH.cons rfl (fun K hK => ?_) (AllReadyH.cons rfl (fun K hK => ?_) AllReadyH.nil)
          · go_simp
            refine hK.out _ _ hS.out (fun _ => ?_)
            clear hK K
            refine rdH (rs := [6]) ?_
            refine AllReadyH.cons rfl (fun K hK => ?_) AllReadyH.nil
            go_simp
            refine (C6.out _ HBK.out).mono ?_
            rintro en q2 ⟨A8, c8, rfl, ho, hB, hb⟩
            have st8 := str_of (c := c8) (Rd.own_ ho)
            have HBK := zH (HBK.out.trans (hb.mono HBK.out.size))
            have hS := zH (hS.out.below hb)
            have HP := zH (And.intro (HP.out.1.below hb) (And.intro (HP.out.2.1.below hb) (HP.out.2.2.below hb)))
            clear ho hB hb
            go_simp
            refine hK.out _ _ hS.out (fun _ => ?_)
            clear hK K
            refine rdH (rs := [7]) ?_
            refine AllReadyH.cons rfl (fun K hK => ?_) AllReadyH.nil
            go_simp
            refine hK.out _ _ hS.out (fun _ => ?_)
            clear hK K
            refine rdH (rs := [8]) ?_
            refine AllReadyH.cons rfl (fun K hK => ?_) AllReadyH.nil
            go_simp
            refine hK.out _ _ hS.out (fun _ => ?_)
            clear hK K
            refine tkL (i := 9) (v := .bool false) rfl (fun w _ => by go_simp) hS.out ?_
            refine tkL (i := 10) (v := .pointer (some ⟨h22, 0, none⟩)) rfl (fun w _ => by go_simp) hS.out ?_
            refine tkL (i := 11) (v := .bool false) rfl (fun w _ => by go_simp) hS.out ?_
            refine tkL (i := 12) (v := .bool false) rfl (fun w _ => by go_simp) hS.out ?_
            refine tkL (i := 13) (v := .bool false) rfl (fun w _ => by go_simp) hS.out ?_
            refine tkL (i := 14) (v := .pointer (some ⟨h22, 0, none⟩)) rfl (fun w _ => by go_simp) hS.out ?_
            refine tkL (i := 16) (v := .pointer (some ⟨h21, 0, none⟩)) rfl (fun w _ => by go_simp) hS.out ?_
            refine rdH (rs := [15]) ?_
            refine AllReadyH.cons rfl (fun K hK => ?_) AllReadyH.nil
            go_simp
            refine (getEntry_any _ h22 (some eb) HP.out.2.1).mono ?_
            rintro en q3 ⟨ca5, rfl, hc5, hr5, ho5⟩
            obtain ⟨cs5, hb5⟩ := HP.out.2.1.blk
            have n1 := HLW.out
            have n2' := HL22.out
            have hS := zH (hS.out.grown ho5 (fun he => by injection he with he; exact hS.out.apart hb5 (by decide) he))
            have HP := zH (And.intro (HP.out.1.onlyT hb5 (by omega) (by decide) (by decide) (by decide) (by decide) (by decide) (by decide) ho5) (And.intro hr5 (HP.out.2.2.only ho5 (by omega) (by omega))))
            have HC5 := zH hc5
            clear hc5 hr5 ho5 hb5 n1 n2'
            unfold entV entC
            go_simp
            refine hK.out _ _ hS.out (fun _ => ?_)
            clear hK K
            refine rdH (rs := [17]) ?_
            refine AllReadyH.cons rfl (fun K hK => ?_) AllReadyH.nil
            go_simp
            refine (refGetEntry_any _ h21 h21 (some eb) HP.out.2.2).mono ?_
            rintro en q4 ⟨ca6, rfl, hc6, hr6, ho6⟩
            obtain ⟨cs6, hb6⟩ := refAt_blk HP.out.2.2
            have n1 := HLW.out
            have n2' := HL22.out
            have hS := zH (hS.out.grown ho6 (fun he => by injection he with he; exact hS.out.apart hb6 (by decide) he))
            have HP := zH (And.intro (HP.out.1.onlyT hb6 (by omega) (by decide) (by decide) (by decide) (by decide) (by decide) (by decide) ho6) (And.intro (HP.out.2.1.grown ho6 hb6 (by decide) (by omega)) hr6))
            have C18 : Hid (Calls Tryz.prog 14 #[entV ca5 (En.read (some eb)), entV ca6 (En.read (some eb))] q4 fun en w' => en = .returned (.bool true) /\ Below q4.heap.size q4 w') := zH (by
             have h1 := refSameEntry_any q4 (En.read_fits (bytesSt_some HEB.out.2)).1 (En.read_fits (bytesSt_some HEB.out.2)).1 (HC5.out.onlyT hb6 (by decide) ho6).rd hc6.rd
             rw [decide_eq_true rfl] at h1
             exact h1)
            clear hc6 hr6 ho6 hb6 n1 n2' HC5
            unfold entV entC at C18
            unfold entV entC
            go_simp
            refine hK.out _ _ hS.out (fun _ => ?_)
            clear hK K
            refine rdH (rs := [18]) ?_
            refine AllReadyH.cons rfl (fun K hK => ?_) AllReadyH.nil
            go_simp
            refine C18.out.mono ?_
            rintro en q5 ⟨rfl, hb⟩
            have hS := zH (hS.out.below hb)
            have HP := zH (And.intro (HP.out.1.below hb) (And.intro (HP.out.2.1.below hb) (HP.out.2.2.below hb)))
            clear hb C18
            go_simp
            refine hK.out _ _ hS.out (fun _ => ?_)
            clear hK K
            obtain ⟨G, hG⟩ : ∃ x, (En.get (some eb)).2 = x := ⟨_, rfl⟩
            rw [hG] at HP
            clear hG
            have hfl := refAt_flag HP.out.2.2
            have hGG : G.isSome = !G.isNone := by cases G <;> rfl
            have C23 := zH (ok_any _ _ _ HP.out.2.1)
            rw [hGG] at C23
            obtain ⟨g2, hg2⟩ : ∃ x, G.isNone = x := ⟨_, rfl⟩
            rw [hg2] at C23 hfl
            clear hg2 hGG
            refine tkL (i := 19) (v := .bool false) rfl (fun w _ => by go_simp) hS.out ?_
            refine tkL (i := 20) (v := .bool false) rfl (fun w _ => by go_simp) hS.out ?_
            refine tkL (i := 21) (v := .bool false) rfl (fun w _ => by go_simp) hS.out ?_
            refine tkL (i := 22) (v := .pointer (some ⟨h22, 0, none⟩)) rfl (fun w _ => by go_simp) hS.out ?_
            refine tkL (i := 24) (v := .pointer (some ⟨h21, 0, none⟩)) rfl (fun w _ => by go_simp) hS.out ?_
            refine tkL (i := 25) (v := .pointer (some ⟨h21, 0, none⟩)) rfl (fun w _ => by go_simp) hS.out ?_
            refine tkL (i := 26) (v := .pointer (some ⟨h21, 1, none⟩)) rfl (fun w _ => by go_simp) hS.out ?_
            refine rdH (rs := [23, 27]) ?_
            refine AllReadyH.cons rfl (fun K hK => ?_) (AllReadyH.cons rfl (fun K hK => ?_) AllReadyH.nil)
            · go_simp
              refine C23.out.mono ?_
              rintro en wz ⟨rfl, rfl⟩
              go_simp
              refine hK.out _ _ hS.out (fun _ => ?_)
              clear hK K
              refine rdH (rs := [27]) ?_
              refine AllReadyH.cons rfl (fun K hK => ?_) AllReadyH.nil
              go_simp
              refine hK.out _ _ hS.out (fun _ => ?_)
              clear hK K
              refine tkL (i := 28) (v := .bool (!g2)) rfl (fun w _ => by go_simp) hS.out ?_
              refine tkL (i := 29) (v := .bool false) rfl (fun w _ => by go_simp) hS.out ?_
              refine tkL (i := 30) (v := .bool false) rfl (fun w _ => by go_simp) hS.out ?_
              refine wpAnyH_done (by kernel_rfl) ?_ _
              go_wp2_with fail
              go_meet
              exact ⟨rfl, zH HP.out.1⟩
            · go_simp
              refine hK.out _ _ hS.out (fun _ => ?_)
              clear hK K
              refine tkL (i := 28) (v := .bool (!g2)) rfl (fun w _ => by go_simp) hS.out ?_
              refine rdH (rs := [23]) ?_
              refine AllReadyH.cons rfl (fun K hK => ?_) AllReadyH.nil
              go_simp
              refine C23.out.mono ?_
              rintro en wz ⟨rfl, rfl⟩
              go_simp
              refine hK.out _ _ hS.out (fun _ => ?_)
              clear hK K
              refine tkL (i := 29) (v := .bool false) rfl (fun w _ => by go_simp) hS.out ?_
              refine tkL (i := 30) (v := .bool false) rfl (fun w _ => by go_simp) hS.out ?_
              refine wpAnyH_done (by kernel_rfl) ?_ _
              go_wp2_with fail
              go_meet
              exact ⟨rfl, zH HP.out.1⟩
          · go_simp
            refine (C6.out _ HBK.out).mono ?_
            rintro en q2 ⟨A8, c8, rfl, ho, hB, hb⟩
            have st8 := str_of (c := c8) (Rd.own_ ho)
            clear st7
            have st7 := str_of (c := c7) (Rd.own_ (own_below HO7.out hb))
            have HBK := zH (HBK.out.trans (hb.mono HBK.out.size))
            have hS := zH (hS.out.below hb)
            have HP := zH (And.intro (HP.out.1.below hb) (And.intro (HP.out.2.1.below hb) (HP.out.2.2.below hb)))
            clear ho hB hb
            go_simp
            refine hK.out _ _ hS.out (fun _ => ?_)
            clear hK K
            refine rdH (rs := [3, 7]) ?_
            refine AllReadyH.cons rfl (fun K hK => ?_) (AllReadyH.cons rfl (fun K hK => ?_) AllReadyH.nil)
            · go_simp
              refine hK.out _ _ hS.out (fun _ => ?_)
              clear hK K
              refine rdH (rs := [7]) ?_
              refine AllReadyH.cons rfl (fun K hK => ?_) AllReadyH.nil
              go_simp
              refine hK.out _ _ hS.out (fun _ => ?_)
              clear hK K
              refine rdH (rs := [8]) ?_
              refine AllReadyH.cons rfl (fun K hK => ?_) AllReadyH.nil
              go_simp
              refine hK.out _ _ hS.out (fun _ => ?_)
              clear hK K
              refine tkL (i := 9) (v := .bool false) rfl (fun w _ => by go_simp) hS.out ?_
              refine tkL (i := 10) (v := .pointer (some ⟨h22, 0, none⟩)) rfl (fun w _ => by go_simp) hS.out ?_
              refine tkL (i := 11) (v := .bool false) rfl (fun w _ => by go_simp) hS.out ?_
              refine tkL (i := 12) (v := .bool false) rfl (fun w _ => by go_simp) hS.out ?_
              refine tkL (i := 13) (v := .bool false) rfl (fun w _ => by go_simp) hS.out ?_
              refine tkL (i := 14) (v := .pointer (some ⟨h22, 0, none⟩)) rfl (fun w _ => by go_simp) hS.out ?_
              refine tkL (i := 16) (v := .pointer (some ⟨h21, 0, none⟩)) rfl (fun w _ => by go_simp) hS.out ?_
              refine rdH (rs := [15]) ?_
              refine AllReadyH.cons rfl (fun K hK => ?_) AllReadyH.nil
              go_simp
              refine (getEntry_any _ h22 (some eb) HP.out.2.1).mono ?_
              rintro en q3 ⟨ca5, rfl, hc5, hr5, ho5⟩
              obtain ⟨cs5, hb5⟩ := HP.out.2.1.blk
              have n1 := HLW.out
              have n2' := HL22.out
              have hS := zH (hS.out.grown ho5 (fun he => by injection he with he; exact hS.out.apart hb5 (by decide) he))
              have HP := zH (And.intro (HP.out.1.onlyT hb5 (by omega) (by decide) (by decide) (by decide) (by decide) (by decide) (by decide) ho5) (And.intro hr5 (HP.out.2.2.only ho5 (by omega) (by omega))))
              have HC5 := zH hc5
              clear hc5 hr5 ho5 hb5 n1 n2'
              unfold entV entC
              go_simp
              refine hK.out _ _ hS.out (fun _ => ?_)
              clear hK K
              refine rdH (rs := [17]) ?_
              refine AllReadyH.cons rfl (fun K hK => ?_) AllReadyH.nil
              go_simp
              refine (refGetEntry_any _ h21 h21 (some eb) HP.out.2.2).mono ?_
              rintro en q4 ⟨ca6, rfl, hc6, hr6, ho6⟩
              obtain ⟨cs6, hb6⟩ := refAt_blk HP.out.2.2
              have n1 := HLW.out
              have n2' := HL22.out
              have hS := zH (hS.out.grown ho6 (fun he => by injection he with he; exact hS.out.apart hb6 (by decide) he))
              have HP := zH (And.intro (HP.out.1.onlyT hb6 (by omega) (by decide) (by decide) (by decide) (by decide) (by decide) (by decide) ho6) (And.intro (HP.out.2.1.grown ho6 hb6 (by decide) (by omega)) hr6))
              have C18 : Hid (Calls Tryz.prog 14 #[entV ca5 (En.read (some eb)), entV ca6 (En.read (some eb))] q4 fun en w' => en = .returned (.bool true) /\ Below q4.heap.size q4 w') := zH (by
               have h1 := refSameEntry_any q4 (En.read_fits (bytesSt_some HEB.out.2)).1 (En.read_fits (bytesSt_some HEB.out.2)).1 (HC5.out.onlyT hb6 (by decide) ho6).rd hc6.rd
               rw [decide_eq_true rfl] at h1
               exact h1)
              clear hc6 hr6 ho6 hb6 n1 n2' HC5
              unfold entV entC at C18
              unfold entV entC
              go_simp
              refine hK.out _ _ hS.out (fun _ => ?_)
              clear hK K
              refine rdH (rs := [18]) ?_
              refine AllReadyH.cons rfl (fun K hK => ?_) AllReadyH.nil
              go_simp
              refine C18.out.mono ?_
              rintro en q5 ⟨rfl, hb⟩
              have hS := zH (hS.out.below hb)
              have HP := zH (And.intro (HP.out.1.below hb) (And.intro (HP.out.2.1.below hb) (HP.out.2.2.below hb)))
              clear hb C18
              go_simp
              refine hK.out _ _ hS.out (fun _ => ?_)
              clear hK K
              obtain ⟨G, hG⟩ : ∃ x, (En.get (some eb)).2 = x := ⟨_, rfl⟩
              rw [hG] at HP
              clear hG
              have hfl := refAt_flag HP.out.2.2
              have hGG : G.isSome = !G.isNone := by cases G <;> rfl
              have C23 := zH (ok_any _ _ _ HP.out.2.1)
              rw [hGG] at C23
              obtain ⟨g2, hg2⟩ : ∃ x, G.isNone = x := ⟨_, rfl⟩
              rw [hg2] at C23 hfl
              clear hg2 hGG
              refine tkL (i := 19) (v := .bool false) rfl (fun w _ => by go_simp) hS.out ?_
              refine tkL (i := 20) (v := .bool false) rfl (fun w _ => by go_simp) hS.out ?_
              refine tkL (i := 21) (v := .bool false) rfl (fun w _ => by go_simp) hS.out ?_
              refine tkL (i := 22) (v := .pointer (some ⟨h22, 0, none⟩)) rfl (fun w _ => by go_simp) hS.out ?_
              refine tkL (i := 24) (v := .pointer (some ⟨h21, 0, none⟩)) rfl (fun w _ => by go_simp) hS.out ?_
              refine tkL (i := 25) (v := .pointer (some ⟨h21, 0, none⟩)) rfl (fun w _ => by go_simp) hS.out ?_
              refine tkL (i := 26) (v := .pointer (some ⟨h21, 1, none⟩)) rfl (fun w _ => by go_simp) hS.out ?_
              refine rdH (rs := [23, 27]) ?_
              refine AllReadyH.cons rfl (fun K hK => ?_) (AllReadyH.cons rfl (fun K hK => ?_) AllReadyH.nil)
              · go_simp
                refine C23.out.mono ?_
                rintro en wz ⟨rfl, rfl⟩
                go_simp
                refine hK.out _ _ hS.out (fun _ => ?_)
                clear hK K
                refine rdH (rs := [27]) ?_
                refine AllReadyH.cons rfl (fun K hK => ?_) AllReadyH.nil
                go_simp
                refine hK.out _ _ hS.out (fun _ => ?_)
                clear hK K
                refine tkL (i := 28) (v := .bool (!g2)) rfl (fun w _ => by go_simp) hS.out ?_
                refine tkL (i := 29) (v := .bool false) rfl (fun w _ => by go_simp) hS.out ?_
                refine tkL (i := 30) (v := .bool false) rfl (fun w _ => by go_simp) hS.out ?_
                refine wpAnyH_done (by kernel_rfl) ?_ _
                go_wp2_with fail
                go_meet
                exact ⟨rfl, zH HP.out.1⟩
              · go_simp
                refine hK.out _ _ hS.out (fun _ => ?_)
                clear hK K
                refine tkL (i := 28) (v := .bool (!g2)) rfl (fun w _ => by go_simp) hS.out ?_
                refine rdH (rs := [23]) ?_
                refine AllReadyH.cons rfl (fun K hK => ?_) AllReadyH.nil
                go_simp
                refine C23.out.mono ?_
                rintro en wz ⟨rfl, rfl⟩
                go_simp
                refine hK.out _ _ hS.out (fun _ => ?_)
                clear hK K
                refine tkL (i := 29) (v := .bool false) rfl (fun w _ => by go_simp) hS.out ?_
                refine tkL (i := 30) (v := .bool false) rfl (fun w _ => by go_simp) hS.out ?_
                refine wpAnyH_done (by kernel_rfl) ?_ _
                go_wp2_with fail
                go_meet
                exact ⟨rfl, zH HP.out.1⟩
            · go_simp
              refine hK.out _ _ hS.out (fun _ => ?_)
              clear hK K
              refine rdH (rs := [3]) ?_
              refine AllReadyH.cons rfl (fun K hK => ?_) AllReadyH.nil
              go_simp
              refine hK.out _ _ hS.out (fun _ => ?_)
              clear hK K
              refine rdH (rs := [8]) ?_
              refine AllReadyH.cons rfl (fun K hK => ?_) AllReadyH.nil
              go_simp
              refine hK.out _ _ hS.out (fun _ => ?_)
              clear hK K
              refine tkL (i := 9) (v := .bool false) rfl (fun w _ => by go_simp) hS.out ?_
              refine tkL (i := 10) (v := .pointer (some ⟨h22, 0, none⟩)) rfl (fun w _ => by go_simp) hS.out ?_
              refine tkL (i := 11) (v := .bool false) rfl (fun w _ => by go_simp) hS.out ?_
              refine tkL (i := 12) (v := .bool false) rfl (fun w _ => by go_simp) hS.out ?_
              refine tkL (i := 13) (v := .bool false) rfl (fun w _ => by go_simp) hS.out ?_
              refine tkL (i := 14) (v := .pointer (some ⟨h22, 0, none⟩)) rfl (fun w _ => by go_simp) hS.out ?_
              refine tkL (i := 16) (v := .pointer (some ⟨h21, 0, none⟩)) rfl (fun w _ => by go_simp) hS.out ?_
              refine rdH (rs := [15]) ?_
              refine AllReadyH.cons rfl (fun K hK => ?_) AllReadyH.nil
              go_simp
              refine (getEntry_any _ h22 (some eb) HP.out.2.1).mono ?_
              rintro en q3 ⟨ca5, rfl, hc5, hr5, ho5⟩
              obtain ⟨cs5, hb5⟩ := HP.out.2.1.blk
              have n1 := HLW.out
              have n2' := HL22.out
              have hS := zH (hS.out.grown ho5 (fun he => by injection he with he; exact hS.out.apart hb5 (by decide) he))
              have HP := zH (And.intro (HP.out.1.onlyT hb5 (by omega) (by decide) (by decide) (by decide) (by decide) (by decide) (by decide) ho5) (And.intro hr5 (HP.out.2.2.only ho5 (by omega) (by omega))))
              have HC5 := zH hc5
              clear hc5 hr5 ho5 hb5 n1 n2'
              unfold entV entC
              go_simp
              refine hK.out _ _ hS.out (fun _ => ?_)
              clear hK K
              refine rdH (rs := [17]) ?_
              refine AllReadyH.cons rfl (fun K hK => ?_) AllReadyH.nil
              go_simp
              refine (refGetEntry_any _ h21 h21 (some eb) HP.out.2.2).mono ?_
              rintro en q4 ⟨ca6, rfl, hc6, hr6, ho6⟩
              obtain ⟨cs6, hb6⟩ := refAt_blk HP.out.2.2
              have n1 := HLW.out
              have n2' := HL22.out
              have hS := zH (hS.out.grown ho6 (fun he => by injection he with he; exact hS.out.apart hb6 (by decide) he))
              have HP := zH (And.intro (HP.out.1.onlyT hb6 (by omega) (by decide) (by decide) (by decide) (by decide) (by decide) (by decide) ho6) (And.intro (HP.out.2.1.grown ho6 hb6 (by decide) (by omega)) hr6))
              have C18 : Hid (Calls Tryz.prog 14 #[entV ca5 (En.read (some eb)), entV ca6 (En.read (some eb))] q4 fun en w' => en = .returned (.bool true) /\ Below q4.heap.size q4 w') := zH (by
               have h1 := refSameEntry_any q4 (En.read_fits (bytesSt_some HEB.out.2)).1 (En.read_fits (bytesSt_some HEB.out.2)).1 (HC5.out.onlyT hb6 (by decide) ho6).rd hc6.rd
               rw [decide_eq_true rfl] at h1
               exact h1)
              clear hc6 hr6 ho6 hb6 n1 n2' HC5
              unfold entV entC at C18
              unfold entV entC
              go_simp
              refine hK.out _ _ hS.out (fun _ => ?_)
              clear hK K
              refine rdH (rs := [18]) ?_
              refine AllReadyH.cons rfl (fun K hK => ?_) AllReadyH.nil
              go_simp
              refine C18.out.mono ?_
              rintro en q5 ⟨rfl, hb⟩
              have hS := zH (hS.out.below hb)
              have HP := zH (And.intro (HP.out.1.below hb) (And.intro (HP.out.2.1.below hb) (HP.out.2.2.below hb)))
              clear hb C18
              go_simp
              refine hK.out _ _ hS.out (fun _ => ?_)
              clear hK K
              obtain ⟨G, hG⟩ : ∃ x, (En.get (some eb)).2 = x := ⟨_, rfl⟩
              rw [hG] at HP
              clear hG
              have hfl := refAt_flag HP.out.2.2
              have hGG : G.isSome = !G.isNone := by cases G <;> rfl
              have C23 := zH (ok_any _ _ _ HP.out.2.1)
              rw [hGG] at C23
              obtain ⟨g2, hg2⟩ : ∃ x, G.isNone = x := ⟨_, rfl⟩
              rw [hg2] at C23 hfl
              clear hg2 hGG
              refine tkL (i := 19) (v := .bool false) rfl (fun w _ => by go_simp) hS.out ?_
              refine tkL (i := 20) (v := .bool false) rfl (fun w _ => by go_simp) hS.out ?_
              refine tkL (i := 21) (v := .bool false) rfl (fun w _ => by go_simp) hS.out ?_
              refine tkL (i := 22) (v := .pointer (some ⟨h22, 0, none⟩)) rfl (fun w _ => by go_simp) hS.out ?_
              refine tkL (i := 24) (v := .pointer (some ⟨h21, 0, none⟩)) rfl (fun w _ => by go_simp) hS.out ?_
              refine tkL (i := 25) (v := .pointer (some ⟨h21, 0, none⟩)) rfl (fun w _ => by go_simp) hS.out ?_
              refine tkL (i := 26) (v := .pointer (some ⟨h21, 1, none⟩)) rfl (fun w _ => by go_simp) hS.out ?_
              refine rdH (rs := [23, 27]) ?_
              refine AllReadyH.cons rfl (fun K hK => ?_) (AllReadyH.cons rfl (fun K hK => ?_) AllReadyH.nil)
              · go_simp
                refine C23.out.mono ?_
                rintro en wz ⟨rfl, rfl⟩
                go_simp
                refine hK.out _ _ hS.out (fun _ => ?_)
                clear hK K
                refine rdH (rs := [27]) ?_
                refine AllReadyH.cons rfl (fun K hK => ?_) AllReadyH.nil
                go_simp
                refine hK.out _ _ hS.out (fun _ => ?_)
                clear hK K
                refine tkL (i := 28) (v := .bool (!g2)) rfl (fun w _ => by go_simp) hS.out ?_
                refine tkL (i := 29) (v := .bool false) rfl (fun w _ => by go_simp) hS.out ?_
                refine tkL (i := 30) (v := .bool false) rfl (fun w _ => by go_simp) hS.out ?_
                refine wpAnyH_done (by kernel_rfl) ?_ _
                go_wp2_with fail
                go_meet
                exact ⟨rfl, zH HP.out.1⟩
              · go_simp
                refine hK.out _ _ hS.out (fun _ => ?_)
                clear hK K
                refine tkL (i := 28) (v := .bool (!g2)) rfl (fun w _ => by go_simp) hS.out ?_
                refine rdH (rs := [23]) ?_
                refine AllReadyH.cons rfl (fun K hK => ?_) AllReadyH.nil
                go_simp
                refine C23.out.mono ?_
                rintro en wz ⟨rfl, rfl⟩
                go_simp
                refine hK.out _ _ hS.out (fun _ => ?_)
                clear hK K
                refine tkL (i := 29) (v := .bool false) rfl (fun w _ => by go_simp) hS.out ?_
                refine tkL (i := 30) (v := .bool false) rfl (fun w _ => by go_simp) hS.out ?_
                refine wpAnyH_done (by kernel_rfl) ?_ _
                go_wp2_with fail
                go_meet
                exact ⟨rfl, zH HP.out.1⟩
         case rest =>
         obtain ⟨rfl, HTZ⟩ := hcut
         go_wp2_with fail
         go_roundw
         case rel => exact ⟨i + 1, a3, a4, r.m, by omega, by omega, by go_num, HOKN, HTZ⟩
         case measure => simp only [intOf]; omega
       · have hii : (i : Int) < (n : Int) := by omega
         have hi5i : ¬ (i : Int) < 50 := by omega
         rename World => wr
         have hkb := HT.out.k2
         unfold machC at hkb
         obtain ⟨x0, x1, x2, x3, x4⟩ := five hkb
         clear hkb
         obtain ⟨en0, hen0⟩ : ∃ x, M.enc = x := ⟨_, rfl⟩
         have HENL : Hid (en0.length <= 90000 /\ ∀ x ∈ en0, x < 256) := zH (by rw [<- hen0]; exact ⟨Nat.le_trans HOK.out.enc_length (by omega), HOK.out.enc_lt⟩)
         have hpos : 0 < en0.length := by rw [<- hen0]; exact Mc.enc_pos M
         have HEN := zH (refEncode_any (W := wr) (w := wr) (a := a2) HOK.out HT.out.o2.rd (Below.refl _ _))
         have HEN2 : Hid (∀ wx, Below wr.heap.size wr wx -> Calls Tryz.prog 21 #[machV a M] wx (GotIn wx wx en0)) := zH (fun wx hb => by
          have h1 := hE (W := wx) (w := wx) (a := a) HOK.out (HT.out.o1.rd.below hb) (Below.refl _ _)
          rwa [hen0] at h1)
         have HKA : Hid (∀ wx, Below wr.heap.size wr wx -> Blk wx g 36 #[.slice a.o.A0 M.o.reg.length a.o.c0, .slice a.o.A1 M.o.q.length a.o.c1, .slice a.o.A2 M.o.lk.length a.o.c2, .slice a.o.A3 M.o.mp.length a.o.c3, .slice a.At M.t.length a.ct]) := zH (fun wx hb => HT.out.k1.below hb)
         have HBW := zH HT.out.bel
         rw [hen0] at HEN
         unfold machV machC at HEN HEN2
         clear hen0
         have hlen9 : en0.length <= 90000 := HENL.out.1
         clear HT HOK
         go_upto_region 27 with (first
          | (go_at_call 18; refine HEN.out.mono ?_; rintro en w1 ⟨A5, c5, rfl, ho5, hB5, hb5⟩)
          | fail)
         have HO5 := zH ho5
         have HR5 := zH (Rd.own_ ho5)
         have HCAP5 := zH (own_cap ho5)
         have HB5 := zH hb5
         clear ho5 hB5 hb5 x0 x1 x2 x3 x4 HEN
         go_upto_region 28 with (first
          | (at_builtin
             refine wpList_append_bytes (W := w1) byteT (.tmp 170) (.tmp 171) rfl (by rfl) rfl (own_empty (Below.refl _ _) 5) rfl ((Rd.own_ HO5.out).alloc lR _) (by omega) ((Below.refl _ _).alloc lR _) ?_
             intro A6 c6 w2 ho6 hr6 hB6
             clear hr6
             rw [Nat.zero_add, List.nil_append] at ho6
             rw [Nat.zero_add]
             obtain ⟨gb, rfl, hgb, hgb2⟩ := own_addr ho6 hpos
             have HO6 := zH ho6
             have HB6 := zH hB6
             clear ho6 hB6)
          | fail)
         clear HO5
         obtain ⟨k, hk, hkl⟩ : ∃ k : Nat, (bits .and .i64 at_ 65535).tmod (en0.length : Int) = (k : Int) /\ k < en0.length := by
          rw [and_ffff]
          have h1 := Int.emod_nonneg at_ (show (65536 : Int) ≠ 0 by omega)
          rw [Int.tmod_eq_emod_of_nonneg h1]
          have h2 := Int.emod_nonneg (at_ % 65536) (show (en0.length : Int) ≠ 0 by omega)
          have h3 := Int.emod_lt_of_pos (at_ % 65536) (show (0 : Int) < (en0.length : Int) by omega)
          exact ⟨((at_ % 65536) % (en0.length : Int)).toNat, by omega, by omega⟩
         have hl0 : ¬ (en0.length : Int) = 0 := by omega
         have hl0b : ((en0.length : Int) == 0) = false := by simpa using hl0
         have hki : (k : Int) < (en0.length : Int) := by omega
         have hk0 : (0 : Int) <= (k : Int) := by omega
         have hcb := own_byte HO6.out hkl
         have hfb := own_frozenS HO6.out k
         have hset := own_set HO6.out k y
         go_upto_region 30 with fail
         have hbs : Below w1.heap.size w1 (w2.setCell ⟨gb, k, none⟩ (.int .u8 (y : Int))) := HB6.out.setCell (p := ⟨gb, k, none⟩) hgb _
         have HO5 := zH ((HR5.out.below hbs).fit)
         have HU := zH hset
         have HBC := zH (HB5.out.trans (hbs.mono HB5.out.size))
         have hcap5 := HCAP5.out
         obtain ⟨i9, hi1, hi2, hi3, hi4⟩ := info_parts byteT.info
         have hsl := run_slice_to (P := Tryz.prog) (t := 24) byteT.under hi1 A5 en0.length c5 k (by omega)
         clear hi1 hi2 hi3 hi4 hcb hfb hset HO6 HB6 HB5
         generalize w2.setCell ⟨gb, k, none⟩ (.int .u8 (y : Int)) = wc at hbs HO5 HU HBC |-
         clear hbs hgb hgb2
         go_cut [194, 195, 196] from 182 to 196 (fun s194 s195 s196 wx => ∃ (gx : Nat) (A7 : Option Addr) (c7 : Nat), s194 = .slice (some ⟨gx, 0, none⟩) 5 5 /\ s195 = .int .i64 5 /\ s196 = .int .i64 0 /\ Hid (Blk wx gx 24 #[.slice A2 n2 c2, .slice A5 en0.length c5, .slice (some ⟨gb, 0, none⟩) en0.length c6, .slice A5 k c5, .slice A7 (en0.length + 1) c7]) /\ Hid (Rd wx wx.heap.size A7 (en0.length + 1) (bv (en0 ++ [y]))) /\ Hid (en0.length + 1 <= c7 /\ c7 <= maxLen) /\ Hid (Below wc.heap.size wc wx))
         case first =>
          have hS0 : Below wc.heap.size wc wc.drew := (Below.refl _ _).drew
          refine wp_region_held_drew (S := fun w' => Below wc.heap.size wc w') (by kernel_rfl) hS0 (fun _ => ?_)
          have hS := zH hS0
          clear hS0
          generalize wc.drew = vd at hS |-
          refine tkL (i := 0) (v := .slice A2 n2 c2) rfl (fun w _ => by go_simp) hS.out ?_
          refine tkL (i := 1) (v := .slice A5 en0.length c5) rfl (fun w _ => by go_simp) hS.out ?_
          refine tkL (i := 2) (v := .slice (some ⟨gb, 0, none⟩) en0.length c6) rfl (fun w _ => by go_simp) hS.out ?_
          refine tkL (i := 3) (v := .slice A5 en0.length c5) rfl (fun w _ => by go_simp) hS.out ?_
          refine tkL (i := 4) (v := .int .i64 (k : Int)) rfl (fun w _ => by go_simp) hS.out ?_
          refine tkL (i := 5) (v := .slice A5 k c5) rfl (fun w _ => by go_simp) hS.out ?_
          refine tkL (i := 7) (v := .slice A5 en0.length c5) rfl (fun w _ => by go_simp) hS.out ?_
          refine tkL (i := 9) (v := .int .u8 (y : Int)) rfl (fun w _ => by go_simp) hS.out ?_
          refine tkL (i := 14) (v := .int .i64 0) rfl (fun w _ => by go_simp) hS.out ?_
          refine rdH (rs := [6, 10]) ?_
          refine AllReadyH.cons rfl (fun K hK => ?_) (AllReadyH.cons rfl (fun K hK => ?_) AllReadyH.nil)
          · go_simp
            refine hK.out _ _ (hS.out.alloc hS.out.size _) (fun _ => ?_)
            clear hK K
            obtain ⟨g0, hg0⟩ : ∃ x, vd.heap.size = x := ⟨_, rfl⟩
            have hown0 : (vd.alloc (.cells #[] 5)).ownsRow wc.heap.size 5 1 (.slice (some ⟨g0, 0, none⟩) 0 0) 0 [] := by rw [<- hg0]; exact own_empty (W := wc) hS.out 5
            have hb0 : Below vd.heap.size vd (vd.alloc (.cells #[] 5)) := (Below.refl _ _).alloc lR _
            have hS := zH (hS.out.trans (hb0.mono hS.out.size))
            rw [hg0]
            clear hg0
            generalize vd.alloc (.cells #[] 5) = v1 at hown0 hb0 hS |-
            clear hb0
            refine rdH (rs := [8, 10]) ?_
            refine AllReadyH.cons rfl (fun K hK => ?_) (AllReadyH.cons rfl (fun K hK => ?_) AllReadyH.nil)
            · refine step_append_BN (W := wc) (c' := c5) cellB (.tmp 188) (.tmp 189) rfl rfl (by kernel_rfl) hown0 (by kernel_rfl) (HO5.out.below hS.out) Rd.oneCell (N := en0.length) (by omega) (by omega) (by omega) hS.out ?_
              intro A4 c4 v2 hown1 hBn hgn
              have hS := zH hBn
              refine hK.out _ _ hS.out (fun _ => ?_)
              clear hK K hown0 hBn hgn
              refine rdH (rs := [10]) ?_
              refine AllReadyH.cons rfl (fun K hK => ?_) AllReadyH.nil
              go_simp
              refine hK.out _ _ (hS.out.alloc hS.out.size _) (fun _ => ?_)
              clear hK K
              obtain ⟨g1, hg1⟩ : ∃ x, v2.heap.size = x := ⟨_, rfl⟩
              have hent := (Rd.oneAt v2 (.int .u8 (y : Int)) 5 hg1).fit
              have hb0 : Below v2.heap.size v2 (v2.alloc (.cells #[.int .u8 (y : Int)] 5)) := (Below.refl _ _).alloc lR _
              have hS := zH (hS.out.trans (hb0.mono hS.out.size))
              have hown1 := ownsRow_below hown1 hb0
              rw [hg1]
              clear hg1
              generalize v2.alloc (.cells #[.int .u8 (y : Int)] 5) = v3 at hent hb0 hS hown1 |-
              clear hb0
              refine rdH (rs := [11]) ?_
              refine AllReadyH.cons rfl (fun K hK => ?_) AllReadyH.nil
              refine step_append_BN (W := wc) (c' := 1) cellB (.tmp 190) (.tmp 192) rfl rfl (by kernel_rfl) hown1 (by kernel_rfl) hent (by intro u hu; simp at hu; subst hu; rfl) (N := en0.length + 1) rfl (by omega) (by omega) hS.out ?_
              intro A7 c7 v11 hown2 hBn hgn
              have hS := zH hBn
              refine hK.out _ _ hS.out (fun _ => ?_)
              clear hK K hown1 hBn hgn hent
              refine rdH (rs := [12]) ?_
              refine AllReadyH.cons rfl (fun K hK => ?_) AllReadyH.nil
              go_simp
              refine hK.out _ _ (hS.out.alloc hS.out.size _) (fun _ => ?_)
              clear hK K
              obtain ⟨gx, hgx⟩ : ∃ x, v11.heap.size = x := ⟨_, rfl⟩
              have hbx := Blk.newAt v11 24 #[.slice A2 n2 c2, .slice A5 en0.length c5, .slice (some ⟨gb, 0, none⟩) en0.length c6, .slice A5 k c5, .slice A7 (en0.length + 1) c7] hgx
              have hb0 : Below v11.heap.size v11 (v11.alloc (.cells #[.slice A2 n2 c2, .slice A5 en0.length c5, .slice (some ⟨gb, 0, none⟩) en0.length c6, .slice A5 k c5, .slice A7 (en0.length + 1) c7] 24)) := (Below.refl _ _).alloc lR _
              have hS := zH (hS.out.trans (hb0.mono hS.out.size))
              have hr7 := ((Rd.own_ hown2).below hb0).fit
              have hc7 := own_cap hown2
              rw [hgx]
              clear hgx hown2
              generalize v11.alloc (.cells #[.slice A2 n2 c2, .slice A5 en0.length c5, .slice (some ⟨gb, 0, none⟩) en0.length c6, .slice A5 k c5, .slice A7 (en0.length + 1) c7] 24) = v12 at hbx hb0 hS hr7 |-
              clear hb0
              refine tkL (i := 13) (v := .int .i64 5) rfl (fun w _ => by go_simp) hS.out ?_
              refine wpAnyH_done (by kernel_rfl) ?_ _
              go_wp2_with fail
              go_meet
              exact ⟨gx, A7, c7, rfl, rfl, rfl, zH hbx, zH (by simpa [bv] using hr7), zH hc7, hS⟩
            · go_simp
              refine hK.out _ _ (hS.out.alloc hS.out.size _) (fun _ => ?_)
              clear hK K
              obtain ⟨g1, hg1⟩ : ∃ x, v1.heap.size = x := ⟨_, rfl⟩
              have hent := (Rd.oneAt v1 (.int .u8 (y : Int)) 5 hg1).fit
              have hb0 : Below v1.heap.size v1 (v1.alloc (.cells #[.int .u8 (y : Int)] 5)) := (Below.refl _ _).alloc lR _
              have hS := zH (hS.out.trans (hb0.mono hS.out.size))
              have HG01 : Hid (g0 ≠ g1) := zH (by have := (hown0.lt g0 rfl).2; omega)
              have hown0 := ownsRow_below hown0 hb0
              rw [hg1]
              clear hg1
              generalize v1.alloc (.cells #[.int .u8 (y : Int)] 5) = v2 at hent hb0 hS hown0 |-
              clear hb0
              refine rdH (rs := [8]) ?_
              refine AllReadyH.cons rfl (fun K hK => ?_) AllReadyH.nil
              refine step_append_BN (W := wc) (c' := c5) cellB (.tmp 188) (.tmp 189) rfl rfl (by kernel_rfl) hown0 (by kernel_rfl) (HO5.out.below hS.out) Rd.oneCell (N := en0.length) (by omega) (by omega) (by omega) hS.out ?_
              intro A4 c4 v3 hown1 hBn hgn
              have hgb : ∀ k, (Value.slice (some ⟨g0, 0, none⟩) 0 0).ownBlock = some k -> k ≠ g1 := by
               intro k hk
               have h1 : g0 = k := by simpa [Value.ownBlock] using hk
               have h2 := HG01.out
               omega
              have hent := hent.rowOther hgn hgb
              have hS := zH hBn
              refine hK.out _ _ hS.out (fun _ => ?_)
              clear hK K hown0 hBn hgn
              refine rdH (rs := [11]) ?_
              refine AllReadyH.cons rfl (fun K hK => ?_) AllReadyH.nil
              refine step_append_BN (W := wc) (c' := 1) cellB (.tmp 190) (.tmp 192) rfl rfl (by kernel_rfl) hown1 (by kernel_rfl) hent (by intro u hu; simp at hu; subst hu; rfl) (N := en0.length + 1) rfl (by omega) (by omega) hS.out ?_
              intro A7 c7 v11 hown2 hBn hgn
              have hS := zH hBn
              refine hK.out _ _ hS.out (fun _ => ?_)
              clear hK K hown1 hBn hgn hent
              refine rdH (rs := [12]) ?_
              refine AllReadyH.cons rfl (fun K hK => ?_) AllReadyH.nil
              go_simp
              refine hK.out _ _ (hS.out.alloc hS.out.size _) (fun _ => ?_)
              clear hK K
              obtain ⟨gx, hgx⟩ : ∃ x, v11.heap.size = x := ⟨_, rfl⟩
              have hbx := Blk.newAt v11 24 #[.slice A2 n2 c2, .slice A5 en0.length c5, .slice (some ⟨gb, 0, none⟩) en0.length c6, .slice A5 k c5, .slice A7 (en0.length + 1) c7] hgx
              have hb0 : Below v11.heap.size v11 (v11.alloc (.cells #[.slice A2 n2 c2, .slice A5 en0.length c5, .slice (some ⟨gb, 0, none⟩) en0.length c6, .slice A5 k c5, .slice A7 (en0.length + 1) c7] 24)) := (Below.refl _ _).alloc lR _
              have hS := zH (hS.out.trans (hb0.mono hS.out.size))
              have hr7 := ((Rd.own_ hown2).below hb0).fit
              have hc7 := own_cap hown2
              rw [hgx]
              clear hgx hown2
              generalize v11.alloc (.cells #[.slice A2 n2 c2, .slice A5 en0.length c5, .slice (some ⟨gb, 0, none⟩) en0.length c6, .slice A5 k c5, .slice A7 (en0.length + 1) c7] 24) = v12 at hbx hb0 hS hr7 |-
              clear hb0
              refine tkL (i := 13) (v := .int .i64 5) rfl (fun w _ => by go_simp) hS.out ?_
              refine wpAnyH_done (by kernel_rfl) ?_ _
              go_wp2_with fail
              go_meet
              exact ⟨gx, A7, c7, rfl, rfl, rfl, zH hbx, zH (by simpa [bv] using hr7), zH hc7, hS⟩
          · go_simp
            refine hK.out _ _ (hS.out.alloc hS.out.size _) (fun _ => ?_)
            clear hK K
            obtain ⟨g1, hg1⟩ : ∃ x, vd.heap.size = x := ⟨_, rfl⟩
            have hent := (Rd.oneAt vd (.int .u8 (y : Int)) 5 hg1).fit
            have hb0 : Below vd.heap.size vd (vd.alloc (.cells #[.int .u8 (y : Int)] 5)) := (Below.refl _ _).alloc lR _
            have hS := zH (hS.out.trans (hb0.mono hS.out.size))
            rw [hg1]
            clear hg1
            generalize vd.alloc (.cells #[.int .u8 (y : Int)] 5) = v1 at hent hb0 hS |-
            clear hb0
            refine rdH (rs := [6]) ?_
            refine AllReadyH.cons rfl (fun K hK => ?_) AllReadyH.nil
            go_simp
            refine hK.out _ _ (hS.out.alloc hS.out.size _) (fun _ => ?_)
            clear hK K
            obtain ⟨g0, hg0⟩ : ∃ x, v1.heap.size = x := ⟨_, rfl⟩
            have hown0 : (v1.alloc (.cells #[] 5)).ownsRow wc.heap.size 5 1 (.slice (some ⟨g0, 0, none⟩) 0 0) 0 [] := by rw [<- hg0]; exact own_empty (W := wc) hS.out 5
            have hb0 : Below v1.heap.size v1 (v1.alloc (.cells #[] 5)) := (Below.refl _ _).alloc lR _
            have hS := zH (hS.out.trans (hb0.mono hS.out.size))
            have HG01 : Hid (g0 ≠ g1) := zH (by obtain ⟨b', o', e', hb', _⟩ := hent.2 (by omega); injection e' with e'; injection e' with e1' e2'; omega)
            have hent := (hent.below hb0).fit
            rw [hg0]
            clear hg0
            generalize v1.alloc (.cells #[] 5) = v2 at hown0 hb0 hS hent |-
            clear hb0
            refine rdH (rs := [8]) ?_
            refine AllReadyH.cons rfl (fun K hK => ?_) AllReadyH.nil
            refine step_append_BN (W := wc) (c' := c5) cellB (.tmp 188) (.tmp 189) rfl rfl (by kernel_rfl) hown0 (by kernel_rfl) (HO5.out.below hS.out) Rd.oneCell (N := en0.length) (by omega) (by omega) (by omega) hS.out ?_
            intro A4 c4 v3 hown1 hBn hgn
            have hgb : ∀ k, (Value.slice (some ⟨g0, 0, none⟩) 0 0).ownBlock = some k -> k ≠ g1 := by
             intro k hk
             have h1 : g0 = k := by simpa [Value.ownBlock] using hk
             have h2 := HG01.out
             omega
            have hent := hent.rowOther hgn hgb
            have hS := zH hBn
            refine hK.out _ _ hS.out (fun _ => ?_)
            clear hK K hown0 hBn hgn
            refine rdH (rs := [11]) ?_
            refine AllReadyH.cons rfl (fun K hK => ?_) AllReadyH.nil
            refine step_append_BN (W := wc) (c' := 1) cellB (.tmp 190) (.tmp 192) rfl rfl (by kernel_rfl) hown1 (by kernel_rfl) hent (by intro u hu; simp at hu; subst hu; rfl) (N := en0.length + 1) rfl (by omega) (by omega) hS.out ?_
            intro A7 c7 v11 hown2 hBn hgn
            have hS := zH hBn
            refine hK.out _ _ hS.out (fun _ => ?_)
            clear hK K hown1 hBn hgn hent
            refine rdH (rs := [12]) ?_
            refine AllReadyH.cons rfl (fun K hK => ?_) AllReadyH.nil
            go_simp
            refine hK.out _ _ (hS.out.alloc hS.out.size _) (fun _ => ?_)
            clear hK K
            obtain ⟨gx, hgx⟩ : ∃ x, v11.heap.size = x := ⟨_, rfl⟩
            have hbx := Blk.newAt v11 24 #[.slice A2 n2 c2, .slice A5 en0.length c5, .slice (some ⟨gb, 0, none⟩) en0.length c6, .slice A5 k c5, .slice A7 (en0.length + 1) c7] hgx
            have hb0 : Below v11.heap.size v11 (v11.alloc (.cells #[.slice A2 n2 c2, .slice A5 en0.length c5, .slice (some ⟨gb, 0, none⟩) en0.length c6, .slice A5 k c5, .slice A7 (en0.length + 1) c7] 24)) := (Below.refl _ _).alloc lR _
            have hS := zH (hS.out.trans (hb0.mono hS.out.size))
            have hr7 := ((Rd.own_ hown2).below hb0).fit
            have hc7 := own_cap hown2
            rw [hgx]
            clear hgx hown2
            generalize v11.alloc (.cells #[.slice A2 n2 c2, .slice A5 en0.length c5, .slice (some ⟨gb, 0, none⟩) en0.length c6, .slice A5 k c5, .slice A7 (en0.length + 1) c7] 24) = v12 at hbx hb0 hS hr7 |-
            clear hb0
            refine tkL (i := 13) (v := .int .i64 5) rfl (fun w _ => by go_simp) hS.out ?_
            refine wpAnyH_done (by kernel_rfl) ?_ _
            go_wp2_with fail
            go_meet
            exact ⟨gx, A7, c7, rfl, rfl, rfl, zH hbx, zH (by simpa [bv] using hr7), zH hc7, hS⟩
         case rest =>
         obtain ⟨gx, A7, c7, rfl, rfl, rfl, HBX, HR7, HC7, HB30⟩ := hcut
         rename World => we
         clear hsl
         have HBE := zH (HBC.out.trans (HB30.out.mono HBC.out.size))
         have HROW : Hid (∀ wx, Below we.heap.size we wx -> ∀ j, j < 5 -> ∃ A n c l, wx.cell? ⟨gx, j, none⟩ = some (.slice A n c) /\ Rd wx wx.heap.size A n (bv l) /\ n <= c /\ c <= maxLen /\ l.length <= 100000 /\ ∀ x ∈ l, x < 256) := zH (fun wx hb j hj => by
          have hk := HBX.out.below hb
          have hb1 := HB30.out.trans (hb.mono HB30.out.size)
          have hb2 := HBE.out.trans (hb.mono HBE.out.size)
          have hb3 := HBW.out.trans (hb2.mono HBW.out.size)
          have ht := (HO5.out.below hb1).fit
          match j, hj with
          | 0, _ => exact ⟨_, _, _, bs, hk.cell 0, (HBR0.out.below hb3).fit, HCB.out.1, HCB.out.2, by have := HBR0.out.length; omega, HBB.out⟩
          | 1, _ => exact ⟨_, _, _, en0, hk.cell 1, ht, hcap5.1, hcap5.2, by omega, HENL.out.2⟩
          | 2, _ => exact ⟨_, _, _, en0.set k y, hk.cell 2, ((Rd.own_ HU.out).below hb1).fit, (own_cap HU.out).1, (own_cap HU.out).2, by rw [List.length_set]; omega, fun x hx => by
             rcases List.mem_or_eq_of_mem_set hx with h1 | h1
             · exact HENL.out.2 x h1
             · omega⟩
          | 3, _ => exact ⟨_, _, _, en0.take k, hk.cell 3, by rw [bv_take]; exact ht.take (by omega), by omega, hcap5.2, by rw [List.length_take]; omega, fun x hx => HENL.out.2 x (List.mem_of_mem_take hx)⟩
          | 4, _ => exact ⟨_, _, _, en0 ++ [y], hk.cell 4, (HR7.out.below hb).fit, HC7.out.1, HC7.out.2, by rw [List.length_append]; simp; omega, fun x hx => by
             rcases List.mem_append.1 hx with h1 | h1
             · exact HENL.out.2 x h1
             · simp at h1; omega⟩)
         clear HBX HR7 HC7 HU
         go_wp2_with fail
         go_loopw [196] (fun s196 wr => ∃ (j : Nat), j <= 5 /\ s196 = .int .i64 (j : Int) /\ Hid (Below we.heap.size we wr)) (fun s196 _ => 5 - (intOf s196).toNat)
         case atStart => exact ⟨0, by omega, rfl, zH (Below.refl _ _)⟩
         case round =>
          obtain ⟨j, hj, rfl, HBL⟩ := hrel
          rename World => wl
          by_cases hj5 : j < 5
          · have hji : (j : Int) < 5 := by omega
            have hj0 : (0 : Int) <= (j : Int) := by omega
            have hwj : IntKind.i64.wrap ((j : Int) + 1) = (j : Int) + 1 := IntWalk.i64_in _ (by omega)
            obtain ⟨A8, n8, c8, l8, hc8, hr8, hnc8, hcm8, hll8, hlb8⟩ := HROW.out _ HBL.out j hj5
            obtain ⟨R, hR⟩ : ∃ R, Mc.dec l8 = R := ⟨_, rfl⟩
            have HRO : Hid ((R.getD Mc.zero).Ok) := zH (by rw [<- hR]; exact Mc.dec_okD hlb8)
            have C1 := zH (hD (W := wl) (w := wl) (c := c8) hll8 hlb8 hnc8 hcm8 hr8 (Below.refl _ _))
            rw [hR] at C1
            have C2 : Hid (∀ wx, Below wl.heap.size wl wx -> Calls Tryz.prog 20 #[.slice A8 n8 c8] wx (GotMB wx wx R)) := zH (fun wx hb => by
             have h1 := refDecode_any (w := wx) (c := c8) hll8 hlb8 hnc8 hcm8 (hr8.below hb)
             rwa [hR] at h1)
            clear hR hr8 hnc8 hcm8 hll8 hlb8
            obtain ⟨RM, hRM⟩ : ∃ x, R.getD Mc.zero = x := ⟨_, rfl⟩
            obtain ⟨RB, hRB⟩ : ∃ x, R.isSome = x := ⟨_, rfl⟩
            rw [hRM] at HRO
            unfold GotMB at C1 C2
            rw [hRM, hRB] at C1
            rw [hRM, hRB] at C2
            clear hRM hRB
            go_upto_region 34 with (first
             | (go_at_call 19; refine C1.out.mono ?_; rintro en w6 ⟨a6, rfl, ho6, hB6, hb6⟩; unfold machV machC)
             | fail)
            have bb := (Below.refl w6.heap.size w6).alloc lR (.cells #[.slice a6.o.A0 RM.o.reg.length a6.o.c0, .slice a6.o.A1 RM.o.q.length a6.o.c1, .slice a6.o.A2 RM.o.lk.length a6.o.c2, .slice a6.o.A3 RM.o.mp.length a6.o.c3, .slice a6.At RM.t.length a6.ct] 36)
            obtain ⟨h28, hh28⟩ : ∃ x, w6.heap.size = x := ⟨_, rfl⟩
            have HK6 := zH (Blk.newAt w6 36 #[.slice a6.o.A0 RM.o.reg.length a6.o.c0, .slice a6.o.A1 RM.o.q.length a6.o.c1, .slice a6.o.A2 RM.o.lk.length a6.o.c2, .slice a6.o.A3 RM.o.mp.length a6.o.c3, .slice a6.At RM.t.length a6.ct] hh28)
            have HO6 := zH (ho6.below bb)
            have HB6 := zH (hb6.trans (bb.mono hb6.size))
            simp only [hh28]
            clear ho6 hB6 hb6 bb hh28 hc8 C1
            generalize w6.alloc (.cells #[.slice a6.o.A0 RM.o.reg.length a6.o.c0, .slice a6.o.A1 RM.o.q.length a6.o.c1, .slice a6.o.A2 RM.o.lk.length a6.o.c2, .slice a6.o.A3 RM.o.mp.length a6.o.c3, .slice a6.At RM.t.length a6.ct] 36) = wm at HK6 HO6 HB6 |-
            go_upto_region 35 with (first
             | (go_at_call 20; refine (C2.out _ HB6.out).mono ?_; rintro en w7 ⟨a7, rfl, ho7, hB7, hb7⟩; unfold machV machC)
             | fail)
            have bb := (Below.refl w7.heap.size w7).alloc lR (.cells #[.slice a7.o.A0 RM.o.reg.length a7.o.c0, .slice a7.o.A1 RM.o.q.length a7.o.c1, .slice a7.o.A2 RM.o.lk.length a7.o.c2, .slice a7.o.A3 RM.o.mp.length a7.o.c3, .slice a7.At RM.t.length a7.ct] 36)
            obtain ⟨h30, hh30⟩ : ∃ x, w7.heap.size = x := ⟨_, rfl⟩
            have HK7 := zH (Blk.newAt w7 36 #[.slice a7.o.A0 RM.o.reg.length a7.o.c0, .slice a7.o.A1 RM.o.q.length a7.o.c1, .slice a7.o.A2 RM.o.lk.length a7.o.c2, .slice a7.o.A3 RM.o.mp.length a7.o.c3, .slice a7.At RM.t.length a7.ct] hh30)
            have HO7 := zH (ho7.below bb)
            have hb8 := hb7.trans (bb.mono hb7.size)
            have HK6 := zH (HK6.out.below hb8)
            have HO6 := zH (HO6.out.below hb8)
            have HB6 := zH (HB6.out.trans (hb8.mono HB6.out.size))
            simp only [hh30]
            clear ho7 hB7 hb7 hb8 bb hh30 C2
            generalize w7.alloc (.cells #[.slice a7.o.A0 RM.o.reg.length a7.o.c0, .slice a7.o.A1 RM.o.q.length a7.o.c1, .slice a7.o.A2 RM.o.lk.length a7.o.c2, .slice a7.o.A3 RM.o.mp.length a7.o.c3, .slice a7.At RM.t.length a7.ct] 36) = wn at HK6 HO6 HB6 HK7 HO7 |-
            obtain ⟨x0, x1, x2, x3, x4⟩ := five HK6.out
            obtain ⟨y0, y1, y2, y3, y4⟩ := five HK7.out
            have hbb : (RB != RB) = false := by simp
            have C3 : Hid (Calls Tryz.prog 8 #[machV a6 RM, machV a7 RM] wn fun e w' => e = .returned (.bool true) /\ Below wn.heap.size wn w') := zH (by
             have h1 := refSame_any wn (a := a6) (a' := a7) HRO.out HRO.out HO6.out.rd HO7.out.rd
             rw [decide_eq_true rfl] at h1
             exact h1)
            unfold machV machC at C3
            go_wp2_with (first
             | (go_at_call 8; refine C3.out.mono ?_; rintro en w8 ⟨rfl, hb8⟩; have HB8 := zH hb8; clear hb8)
             | fail)
            go_roundw
            case rel => exact ⟨j + 1, by omega, by go_num, zH ((HBL.out.trans (HB6.out.mono HBL.out.size)).trans (HB8.out.mono (HBL.out.trans (HB6.out.mono HBL.out.size)).size))⟩
            case measure => simp only [intOf]; omega
          · have hji : ¬ (j : Int) < 5 := by omega
            clear HROW
            go_upto_region 38 with fail
            have HWL : Hid (∀ wx, Below wl.heap.size wl wx -> Below wc.heap.size wc wx) := zH (fun wx hb => by
             have h1 := HB30.out.trans (HBL.out.mono HB30.out.size)
             exact h1.trans (hb.mono h1.size))
            have HKF : Hid (∀ wx, Below wl.heap.size wl wx -> Blk wx g 36 #[.slice a.o.A0 M.o.reg.length a.o.c0, .slice a.o.A1 M.o.q.length a.o.c1, .slice a.o.A2 M.o.lk.length a.o.c2, .slice a.o.A3 M.o.mp.length a.o.c3, .slice a.At M.t.length a.ct] /\ (convert 24 9 (.slice A5 en0.length c5)).run Tryz.prog wx = .ok (.string (strB en0)) wx /\ Calls Tryz.prog 21 #[.agg #[.slice a.o.A0 M.o.reg.length a.o.c0, .slice a.o.A1 M.o.q.length a.o.c1, .slice a.o.A2 M.o.lk.length a.o.c2, .slice a.o.A3 M.o.mp.length a.o.c3, .slice a.At M.t.length a.ct]] wx (GotIn wx wx en0)) := zH (fun wx hb => by
             have h1 := HWL.out wx hb
             have h2 := HBC.out.trans (h1.mono HBC.out.size)
             exact ⟨HKA.out wx h2, str_of (HO5.out.below h1), HEN2.out wx h2⟩)
            have HFIN : Hid (∀ wx, Below wl.heap.size wl wx -> Below w0.heap.size w0 wx) := zH (fun wx hb => by
             have h1 := HWL.out wx hb
             have h2 := HBC.out.trans (h1.mono HBC.out.size)
             exact HBW.out.trans (h2.mono HBW.out.size))
            have hs1 := strB_self en0
            have hs2 : ((strB en0).toList == (strB en0).toList) = true := by simp
            have hS0 : Below wl.heap.size wl wl.drew := (Below.refl _ _).drew
            refine wp_region_held_drew (S := fun w' => Below wl.heap.size wl w') (by kernel_rfl) hS0 (fun _ => ?_)
            have hS := zH hS0
            clear hS0
            generalize wl.drew = q0 at hS |-
            refine tkL (i := 0) (v := .agg #[.slice a.o.A0 M.o.reg.length a.o.c0, .slice a.o.A1 M.o.q.length a.o.c1, .slice a.o.A2 M.o.lk.length a.o.c2, .slice a.o.A3 M.o.mp.length a.o.c3, .slice a.At M.t.length a.ct]) rfl (fun w h => by obtain ⟨q0, q1, q2, q3, q4⟩ := five (HKF.out w h).1; go_simp) hS.out ?_
            refine tkL (i := 3) (v := .slice A5 en0.length c5) rfl (fun w _ => by go_simp) hS.out ?_
            refine tkL (i := 4) (v := .string (strB en0)) rfl (fun w h => by have q := (HKF.out w h).2.1; go_simp) hS.out ?_
            refine rdH (rs := [1]) ?_
            refine AllReadyH.cons rfl (fun K hK => ?_) AllReadyH.nil
            go_simp
            refine (HKF.out _ hS.out).2.2.mono ?_
            rintro en w7 ⟨A9, c9, rfl, ho9, hB9, hb9⟩
            have hst := str_of (c := c9) (Rd.own_ ho9)
            have hS := zH (hS.out.trans (hb9.mono hS.out.size))
            clear ho9 hB9 hb9
            go_simp
            refine hK.out _ _ hS.out (fun _ => ?_)
            clear hK K
            refine rdH (rs := [2]) ?_
            refine AllReadyH.cons rfl (fun K hK => ?_) AllReadyH.nil
            go_simp
            refine hK.out _ _ hS.out (fun _ => ?_)
            clear hK K
            clear hst
            refine tkL (i := 5) (v := .bool true) rfl (fun w _ => by go_simp) hS.out ?_
            refine tkL (i := 6) (v := .bool true) rfl (fun w _ => by go_simp) hS.out ?_
            refine rdH (rs := [7]) ?_
            refine AllReadyH.cons rfl (fun K hK => ?_) AllReadyH.nil
            go_simp
            refine (hA _).mono ?_
            rintro en w9 ⟨rfl, hb9⟩
            have hS := zH (hS.out.trans (hb9.mono hS.out.size))
            clear hb9
            go_simp
            refine hK.out _ _ hS.out (fun _ => ?_)
            clear hK K
            refine tkL (i := 8) (v := .bool true) rfl (fun w _ => by go_simp) hS.out ?_
            refine tkL (i := 9) (v := .bool true) rfl (fun w _ => by go_simp) hS.out ?_
            refine wpAnyH_done (by kernel_rfl) ?_ _
            go_wp2_with fail
            go_ret
            have h1 := HFIN.out _ hS.out
            exact ⟨rfl, HB.out.trans (h1.mono HB.out.size)⟩
     · have hii : ¬ (i : Int) < (n : Int) := by omega
       rename World => wr
       have hkb := HT.out.k2
       unfold machC at hkb
       obtain ⟨x0, x1, x2, x3, x4⟩ := five hkb
       clear hkb
       obtain ⟨en0, hen0⟩ : ∃ x, M.enc = x := ⟨_, rfl⟩
       have HENL : Hid (en0.length <= 90000 /\ ∀ x ∈ en0, x < 256) := zH (by rw [<- hen0]; exact ⟨Nat.le_trans HOK.out.enc_length (by omega), HOK.out.enc_lt⟩)
       have hpos : 0 < en0.length := by rw [<- hen0]; exact Mc.enc_pos M
       have HEN := zH (refEncode_any (W := wr) (w := wr) (a := a2) HOK.out HT.out.o2.rd (Below.refl _ _))
       have HEN2 : Hid (∀ wx, Below wr.heap.size wr wx -> Calls Tryz.prog 21 #[machV a M] wx (GotIn wx wx en0)) := zH (fun wx hb => by
        have h1 := hE (W := wx) (w := wx) (a := a) HOK.out (HT.out.o1.rd.below hb) (Below.refl _ _)
        rwa [hen0] at h1)
       have HKA : Hid (∀ wx, Below wr.heap.size wr wx -> Blk wx g 36 #[.slice a.o.A0 M.o.reg.length a.o.c0, .slice a.o.A1 M.o.q.length a.o.c1, .slice a.o.A2 M.o.lk.length a.o.c2, .slice a.o.A3 M.o.mp.length a.o.c3, .slice a.At M.t.length a.ct]) := zH (fun wx hb => HT.out.k1.below hb)
       have HBW := zH HT.out.bel
       rw [hen0] at HEN
       unfold machV machC at HEN HEN2
       clear hen0
       have hlen9 : en0.length <= 90000 := HENL.out.1
       clear HT HOK
       go_upto_region 27 with (first
        | (go_at_call 18; refine HEN.out.mono ?_; rintro en w1 ⟨A5, c5, rfl, ho5, hB5, hb5⟩)
        | fail)
       have HO5 := zH ho5
       have HR5 := zH (Rd.own_ ho5)
       have HCAP5 := zH (own_cap ho5)
       have HB5 := zH hb5
       clear ho5 hB5 hb5 x0 x1 x2 x3 x4 HEN
       go_upto_region 28 with (first
        | (at_builtin
           refine wpList_append_bytes (W := w1) byteT (.tmp 170) (.tmp 171) rfl (by rfl) rfl (own_empty (Below.refl _ _) 5) rfl ((Rd.own_ HO5.out).alloc lR _) (by omega) ((Below.refl _ _).alloc lR _) ?_
           intro A6 c6 w2 ho6 hr6 hB6
           clear hr6
           rw [Nat.zero_add, List.nil_append] at ho6
           rw [Nat.zero_add]
           obtain ⟨gb, rfl, hgb, hgb2⟩ := own_addr ho6 hpos
           have HO6 := zH ho6
           have HB6 := zH hB6
           clear ho6 hB6)
        | fail)
       clear HO5
       obtain ⟨k, hk, hkl⟩ : ∃ k : Nat, (bits .and .i64 at_ 65535).tmod (en0.length : Int) = (k : Int) /\ k < en0.length := by
        rw [and_ffff]
        have h1 := Int.emod_nonneg at_ (show (65536 : Int) ≠ 0 by omega)
        rw [Int.tmod_eq_emod_of_nonneg h1]
        have h2 := Int.emod_nonneg (at_ % 65536) (show (en0.length : Int) ≠ 0 by omega)
        have h3 := Int.emod_lt_of_pos (at_ % 65536) (show (0 : Int) < (en0.length : Int) by omega)
        exact ⟨((at_ % 65536) % (en0.length : Int)).toNat, by omega, by omega⟩
       have hl0 : ¬ (en0.length : Int) = 0 := by omega
       have hl0b : ((en0.length : Int) == 0) = false := by simpa using hl0
       have hki : (k : Int) < (en0.length : Int) := by omega
       have hk0 : (0 : Int) <= (k : Int) := by omega
       have hcb := own_byte HO6.out hkl
       have hfb := own_frozenS HO6.out k
       have hset := own_set HO6.out k y
       go_upto_region 30 with fail
       have hbs : Below w1.heap.size w1 (w2.setCell ⟨gb, k, none⟩ (.int .u8 (y : Int))) := HB6.out.setCell (p := ⟨gb, k, none⟩) hgb _
       have HO5 := zH ((HR5.out.below hbs).fit)
       have HU := zH hset
       have HBC := zH (HB5.out.trans (hbs.mono HB5.out.size))
       have hcap5 := HCAP5.out
       obtain ⟨i9, hi1, hi2, hi3, hi4⟩ := info_parts byteT.info
       have hsl := run_slice_to (P := Tryz.prog) (t := 24) byteT.under hi1 A5 en0.length c5 k (by omega)
       clear hi1 hi2 hi3 hi4 hcb hfb hset HO6 HB6 HB5
       generalize w2.setCell ⟨gb, k, none⟩ (.int .u8 (y : Int)) = wc at hbs HO5 HU HBC |-
       clear hbs hgb hgb2
       go_cut [194, 195, 196] from 182 to 196 (fun s194 s195 s196 wx => ∃ (gx : Nat) (A7 : Option Addr) (c7 : Nat), s194 = .slice (some ⟨gx, 0, none⟩) 5 5 /\ s195 = .int .i64 5 /\ s196 = .int .i64 0 /\ Hid (Blk wx gx 24 #[.slice A2 n2 c2, .slice A5 en0.length c5, .slice (some ⟨gb, 0, none⟩) en0.length c6, .slice A5 k c5, .slice A7 (en0.length + 1) c7]) /\ Hid (Rd wx wx.heap.size A7 (en0.length + 1) (bv (en0 ++ [y]))) /\ Hid (en0.length + 1 <= c7 /\ c7 <= maxLen) /\ Hid (Below wc.heap.size wc wx))
       case first =>
        have hS0 : Below wc.heap.size wc wc.drew := (Below.refl _ _).drew
        refine wp_region_held_drew (S := fun w' => Below wc.heap.size wc w') (by kernel_rfl) hS0 (fun _ => ?_)
        have hS := zH hS0
        clear hS0
        generalize wc.drew = vd at hS |-
        refine tkL (i := 0) (v := .slice A2 n2 c2) rfl (fun w _ => by go_simp) hS.out ?_
        refine tkL (i := 1) (v := .slice A5 en0.length c5) rfl (fun w _ => by go_simp) hS.out ?_
        refine tkL (i := 2) (v := .slice (some ⟨gb, 0, none⟩) en0.length c6) rfl (fun w _ => by go_simp) hS.out ?_
        refine tkL (i := 3) (v := .slice A5 en0.length c5) rfl (fun w _ => by go_simp) hS.out ?_
        refine tkL (i := 4) (v := .int .i64 (k : Int)) rfl (fun w _ => by go_simp) hS.out ?_
        refine tkL (i := 5) (v := .slice A5 k c5) rfl (fun w _ => by go_simp) hS.out ?_
        refine tkL (i := 7) (v := .slice A5 en0.length c5) rfl (fun w _ => by go_simp) hS.out ?_
        refine tkL (i := 9) (v := .int .u8 (y : Int)) rfl (fun w _ => by go_simp) hS.out ?_
        refine tkL (i := 14) (v := .int .i64 0) rfl (fun w _ => by go_simp) hS.out ?_
        refine rdH (rs := [6, 10]) ?_
        refine AllReadyH.cons rfl (fun K hK => ?_) (AllReadyH.cons rfl (fun K hK => ?_) AllReadyH.nil)
        · go_simp
          refine hK.out _ _ (hS.out.alloc hS.out.size _) (fun _ => ?_)
          clear hK K
          obtain ⟨g0, hg0⟩ : ∃ x, vd.heap.size = x := ⟨_, rfl⟩
          have hown0 : (vd.alloc (.cells #[] 5)).ownsRow wc.heap.size 5 1 (.slice (some ⟨g0, 0, none⟩) 0 0) 0 [] := by rw [<- hg0]; exact own_empty (W := wc) hS.out 5
          have hb0 : Below vd.heap.size vd (vd.alloc (.cells #[] 5)) := (Below.refl _ _).alloc lR _
          have hS := zH (hS.out.trans (hb0.mono hS.out.size))
          rw [hg0]
          clear hg0
          generalize vd.alloc (.cells #[] 5) = v1 at hown0 hb0 hS |-
          clear hb0
          refine rdH (rs := [8, 10]) ?_
          refine AllReadyH.cons rfl (fun K hK => ?_) (AllReadyH.cons rfl (fun K hK => ?_) AllReadyH.nil)
          · refine step_append_BN (W := wc) (c' := c5) cellB (.tmp 188) (.tmp 189) rfl rfl (by kernel_rfl) hown0 (by kernel_rfl) (HO5.out.below hS.out) Rd.oneCell (N := en0.length) (by omega) (by omega) (by omega) hS.out ?_
            intro A4 c4 v2 hown1 hBn hgn
            have hS := zH hBn
            refine hK.out _ _ hS.out (fun _ => ?_)
            clear hK K hown0 hBn hgn
            refine rdH (rs := [10]) ?_
            refine AllReadyH.cons rfl (fun K hK => ?_) AllReadyH.nil
            go_simp
            refine hK.out _ _ (hS.out.alloc hS.out.size _) (fun _ => ?_)
            clear hK K
            obtain ⟨g1, hg1⟩ : ∃ x, v2.heap.size = x := ⟨_, rfl⟩
            have hent := (Rd.oneAt v2 (.int .u8 (y : Int)) 5 hg1).fit
            have hb0 : Below v2.heap.size v2 (v2.alloc (.cells #[.int .u8 (y : Int)] 5)) := (Below.refl _ _).alloc lR _
            have hS := zH (hS.out.trans (hb0.mono hS.out.size))
            have hown1 := ownsRow_below hown1 hb0
            rw [hg1]
            clear hg1
            generalize v2.alloc (.cells #[.int .u8 (y : Int)] 5) = v3 at hent hb0 hS hown1 |-
            clear hb0
            refine rdH (rs := [11]) ?_
            refine AllReadyH.cons rfl (fun K hK => ?_) AllReadyH.nil
            refine step_append_BN (W := wc) (c' := 1) cellB (.tmp 190) (.tmp 192) rfl rfl (by kernel_rfl) hown1 (by kernel_rfl) hent (by intro u hu; simp at hu; subst hu; rfl) (N := en0.length + 1) rfl (by omega) (by omega) hS.out ?_
            intro A7 c7 v11 hown2 hBn hgn
            have hS := zH hBn
            refine hK.out _ _ hS.out (fun _ => ?_)
            clear hK K hown1 hBn hgn hent
            refine rdH (rs := [12]) ?_
            refine AllReadyH.cons rfl (fun K hK => ?_) AllReadyH.nil
            go_simp
            refine hK.out _ _ (hS.out.alloc hS.out.size _) (fun _ => ?_)
            clear hK K
            obtain ⟨gx, hgx⟩ : ∃ x, v11.heap.size = x := ⟨_, rfl⟩
            have hbx := Blk.newAt v11 24 #[.slice A2 n2 c2, .slice A5 en0.length c5, .slice (some ⟨gb, 0, none⟩) en0.length c6, .slice A5 k c5, .slice A7 (en0.length + 1) c7] hgx
            have hb0 : Below v11.heap.size v11 (v11.alloc (.cells #[.slice A2 n2 c2, .slice A5 en0.length c5, .slice (some ⟨gb, 0, none⟩) en0.length c6, .slice A5 k c5, .slice A7 (en0.length + 1) c7] 24)) := (Below.refl _ _).alloc lR _
            have hS := zH (hS.out.trans (hb0.mono hS.out.size))
            have hr7 := ((Rd.own_ hown2).below hb0).fit
            have hc7 := own_cap hown2
            rw [hgx]
            clear hgx hown2
            generalize v11.alloc (.cells #[.slice A2 n2 c2, .slice A5 en0.length c5, .slice (some ⟨gb, 0, none⟩) en0.length c6, .slice A5 k c5, .slice A7 (en0.length + 1) c7] 24) = v12 at hbx hb0 hS hr7 |-
            clear hb0
            refine tkL (i := 13) (v := .int .i64 5) rfl (fun w _ => by go_simp) hS.out ?_
            refine wpAnyH_done (by kernel_rfl) ?_ _
            go_wp2_with fail
            go_meet
            exact ⟨gx, A7, c7, rfl, rfl, rfl, zH hbx, zH (by simpa [bv] using hr7), zH hc7, hS⟩
          · go_simp
            refine hK.out _ _ (hS.out.alloc hS.out.size _) (fun _ => ?_)
            clear hK K
            obtain ⟨g1, hg1⟩ : ∃ x, v1.heap.size = x := ⟨_, rfl⟩
            have hent := (Rd.oneAt v1 (.int .u8 (y : Int)) 5 hg1).fit
            have hb0 : Below v1.heap.size v1 (v1.alloc (.cells #[.int .u8 (y : Int)] 5)) := (Below.refl _ _).alloc lR _
            have hS := zH (hS.out.trans (hb0.mono hS.out.size))
            have HG01 : Hid (g0 ≠ g1) := zH (by have := (hown0.lt g0 rfl).2; omega)
            have hown0 := ownsRow_below hown0 hb0
            rw [hg1]
            clear hg1
            generalize v1.alloc (.cells #[.int .u8 (y : Int)] 5) = v2 at hent hb0 hS hown0 |-
            clear hb0
            refine rdH (rs := [8]) ?_
            refine AllReadyH.cons rfl (fun K hK => ?_) AllReadyH.nil
            refine step_append_BN (W := wc) (c' := c5) cellB (.tmp 188) (.tmp 189) rfl rfl (by kernel_rfl) hown0 (by kernel_rfl) (HO5.out.below hS.out) Rd.oneCell (N := en0.length) (by omega) (by omega) (by omega) hS.out ?_
            intro A4 c4 v3 hown1 hBn hgn
            have hgb : ∀ k, (Value.slice (some ⟨g0, 0, none⟩) 0 0).ownBlock = some k -> k ≠ g1 := by
             intro k hk
             have h1 : g0 = k := by simpa [Value.ownBlock] using hk
             have h2 := HG01.out
             omega
            have hent := hent.rowOther hgn hgb
            have hS := zH hBn
            refine hK.out _ _ hS.out (fun _ => ?_)
            clear hK K hown0 hBn hgn
            refine rdH (rs := [11]) ?_
            refine AllReadyH.cons rfl (fun K hK => ?_) AllReadyH.nil
            refine step_append_BN (W := wc) (c' := 1) cellB (.tmp 190) (.tmp 192) rfl rfl (by kernel_rfl) hown1 (by kernel_rfl) hent (by intro u hu; simp at hu; subst hu; rfl) (N := en0.length + 1) rfl (by omega) (by omega) hS.out ?_
            intro A7 c7 v11 hown2 hBn hgn
            have hS := zH hBn
            refine hK.out _ _ hS.out (fun _ => ?_)
            clear hK K hown1 hBn hgn hent
            refine rdH (rs := [12]) ?_
            refine AllReadyH.cons rfl (fun K hK => ?_) AllReadyH.nil
            go_simp
            refine hK.out _ _ (hS.out.alloc hS.out.size _) (fun _ => ?_)
            clear hK K
            obtain ⟨gx, hgx⟩ : ∃ x, v11.heap.size = x := ⟨_, rfl⟩
            have hbx := Blk.newAt v11 24 #[.slice A2 n2 c2, .slice A5 en0.length c5, .slice (some ⟨gb, 0, none⟩) en0.length c6, .slice A5 k c5, .slice A7 (en0.length + 1) c7] hgx
            have hb0 : Below v11.heap.size v11 (v11.alloc (.cells #[.slice A2 n2 c2, .slice A5 en0.length c5, .slice (some ⟨gb, 0, none⟩) en0.length c6, .slice A5 k c5, .slice A7 (en0.length + 1) c7] 24)) := (Below.refl _ _).alloc lR _
            have hS := zH (hS.out.trans (hb0.mono hS.out.size))
            have hr7 := ((Rd.own_ hown2).below hb0).fit
            have hc7 := own_cap hown2
            rw [hgx]
            clear hgx hown2
            generalize v11.alloc (.cells #[.slice A2 n2 c2, .slice A5 en0.length c5, .slice (some ⟨gb, 0, none⟩) en0.length c6, .slice A5 k c5, .slice A7 (en0.length + 1) c7] 24) = v12 at hbx hb0 hS hr7 |-
            clear hb0
            refine tkL (i := 13) (v := .int .i64 5) rfl (fun w _ => by go_simp) hS.out ?_
            refine wpAnyH_done (by kernel_rfl) ?_ _
            go_wp2_with fail
            go_meet
            exact ⟨gx, A7, c7, rfl, rfl, rfl, zH hbx, zH (by simpa [bv] using hr7), zH hc7, hS⟩
        · go_simp
          refine hK.out _ _ (hS.out.alloc hS.out.size _) (fun _ => ?_)
          clear hK K
          obtain ⟨g1, hg1⟩ : ∃ x, vd.heap.size = x := ⟨_, rfl⟩
          have hent := (Rd.oneAt vd (.int .u8 (y : Int)) 5 hg1).fit
          have hb0 : Below vd.heap.size vd (vd.alloc (.cells #[.int .u8 (y : Int)] 5)) := (Below.refl _ _).alloc lR _
          have hS := zH (hS.out.trans (hb0.mono hS.out.size))
          rw [hg1]
          clear hg1
          generalize vd.alloc (.cells #[.int .u8 (y : Int)] 5) = v1 at hent hb0 hS |-
          clear hb0
          refine rdH (rs := [6]) ?_
          refine AllReadyH.cons rfl (fun K hK => ?_) AllReadyH.nil
          go_simp
          refine hK.out _ _ (hS.out.alloc hS.out.size _) (fun _ => ?_)
          clear hK K
          obtain ⟨g0, hg0⟩ : ∃ x, v1.heap.size = x := ⟨_, rfl⟩
          have hown0 : (v1.alloc (.cells #[] 5)).ownsRow wc.heap.size 5 1 (.slice (some ⟨g0, 0, none⟩) 0 0) 0 [] := by rw [<- hg0]; exact own_empty (W := wc) hS.out 5
          have hb0 : Below v1.heap.size v1 (v1.alloc (.cells #[] 5)) := (Below.refl _ _).alloc lR _
          have hS := zH (hS.out.trans (hb0.mono hS.out.size))
          have HG01 : Hid (g0 ≠ g1) := zH (by obtain ⟨b', o', e', hb', _⟩ := hent.2 (by omega); injection e' with e'; injection e' with e1' e2'; omega)
          have hent := (hent.below hb0).fit
          rw [hg0]
          clear hg0
          generalize v1.alloc (.cells #[] 5) = v2 at hown0 hb0 hS hent |-
          clear hb0
          refine rdH (rs := [8]) ?_
          refine AllReadyH.cons rfl (fun K hK => ?_) AllReadyH.nil
          refine step_append_BN (W := wc) (c' := c5) cellB (.tmp 188) (.tmp 189) rfl rfl (by kernel_rfl) hown0 (by kernel_rfl) (HO5.out.below hS.out) Rd.oneCell (N := en0.length) (by omega) (by omega) (by omega) hS.out ?_
          intro A4 c4 v3 hown1 hBn hgn
          have hgb : ∀ k, (Value.slice (some ⟨g0, 0, none⟩) 0 0).ownBlock = some k -> k ≠ g1 := by
           intro k hk
           have h1 : g0 = k := by simpa [Value.ownBlock] using hk
           have h2 := HG01.out
           omega
          have hent := hent.rowOther hgn hgb
          have hS := zH hBn
          refine hK.out _ _ hS.out (fun _ => ?_)
          clear hK K hown0 hBn hgn
          refine rdH (rs := [11]) ?_
          refine AllReadyH.cons rfl (fun K hK => ?_) AllReadyH.nil
          refine step_append_BN (W := wc) (c' := 1) cellB (.tmp 190) (.tmp 192) rfl rfl (by kernel_rfl) hown1 (by kernel_rfl) hent (by intro u hu; simp at hu; subst hu; rfl) (N := en0.length + 1) rfl (by omega) (by omega) hS.out ?_
          intro A7 c7 v11 hown2 hBn hgn
          have hS := zH hBn
          refine hK.out _ _ hS.out (fun _ => ?_)
          clear hK K hown1 hBn hgn hent
          refine rdH (rs := [12]) ?_
          refine AllReadyH.cons rfl (fun K hK => ?_) AllReadyH.nil
          go_simp
          refine hK.out _ _ (hS.out.alloc hS.out.size _) (fun _ => ?_)
          clear hK K
          obtain ⟨gx, hgx⟩ : ∃ x, v11.heap.size = x := ⟨_, rfl⟩
          have hbx := Blk.newAt v11 24 #[.slice A2 n2 c2, .slice A5 en0.length c5, .slice (some ⟨gb, 0, none⟩) en0.length c6, .slice A5 k c5, .slice A7 (en0.length + 1) c7] hgx
          have hb0 : Below v11.heap.size v11 (v11.alloc (.cells #[.slice A2 n2 c2, .slice A5 en0.length c5, .slice (some ⟨gb, 0, none⟩) en0.length c6, .slice A5 k c5, .slice A7 (en0.length + 1) c7] 24)) := (Below.refl _ _).alloc lR _
          have hS := zH (hS.out.trans (hb0.mono hS.out.size))
          have hr7 := ((Rd.own_ hown2).below hb0).fit
          have hc7 := own_cap hown2
          rw [hgx]
          clear hgx hown2
          generalize v11.alloc (.cells #[.slice A2 n2 c2, .slice A5 en0.length c5, .slice (some ⟨gb, 0, none⟩) en0.length c6, .slice A5 k c5, .slice A7 (en0.length + 1) c7] 24) = v12 at hbx hb0 hS hr7 |-
          clear hb0
          refine tkL (i := 13) (v := .int .i64 5) rfl (fun w _ => by go_simp) hS.out ?_
          refine wpAnyH_done (by kernel_rfl) ?_ _
          go_wp2_with fail
          go_meet
          exact ⟨gx, A7, c7, rfl, rfl, rfl, zH hbx, zH (by simpa [bv] using hr7), zH hc7, hS⟩
       case rest =>
       obtain ⟨gx, A7, c7, rfl, rfl, rfl, HBX, HR7, HC7, HB30⟩ := hcut
       rename World => we
       clear hsl
       have HBE := zH (HBC.out.trans (HB30.out.mono HBC.out.size))
       have HROW : Hid (∀ wx, Below we.heap.size we wx -> ∀ j, j < 5 -> ∃ A n c l, wx.cell? ⟨gx, j, none⟩ = some (.slice A n c) /\ Rd wx wx.heap.size A n (bv l) /\ n <= c /\ c <= maxLen /\ l.length <= 100000 /\ ∀ x ∈ l, x < 256) := zH (fun wx hb j hj => by
        have hk := HBX.out.below hb
        have hb1 := HB30.out.trans (hb.mono HB30.out.size)
        have hb2 := HBE.out.trans (hb.mono HBE.out.size)
        have hb3 := HBW.out.trans (hb2.mono HBW.out.size)
        have ht := (HO5.out.below hb1).fit
        match j, hj with
        | 0, _ => exact ⟨_, _, _, bs, hk.cell 0, (HBR0.out.below hb3).fit, HCB.out.1, HCB.out.2, by have := HBR0.out.length; omega, HBB.out⟩
        | 1, _ => exact ⟨_, _, _, en0, hk.cell 1, ht, hcap5.1, hcap5.2, by omega, HENL.out.2⟩
        | 2, _ => exact ⟨_, _, _, en0.set k y, hk.cell 2, ((Rd.own_ HU.out).below hb1).fit, (own_cap HU.out).1, (own_cap HU.out).2, by rw [List.length_set]; omega, fun x hx => by
           rcases List.mem_or_eq_of_mem_set hx with h1 | h1
           · exact HENL.out.2 x h1
           · omega⟩
        | 3, _ => exact ⟨_, _, _, en0.take k, hk.cell 3, by rw [bv_take]; exact ht.take (by omega), by omega, hcap5.2, by rw [List.length_take]; omega, fun x hx => HENL.out.2 x (List.mem_of_mem_take hx)⟩
        | 4, _ => exact ⟨_, _, _, en0 ++ [y], hk.cell 4, (HR7.out.below hb).fit, HC7.out.1, HC7.out.2, by rw [List.length_append]; simp; omega, fun x hx => by
           rcases List.mem_append.1 hx with h1 | h1
           · exact HENL.out.2 x h1
           · simp at h1; omega⟩)
       clear HBX HR7 HC7 HU
       go_wp2_with fail
       go_loopw [196] (fun s196 wr => ∃ (j : Nat), j <= 5 /\ s196 = .int .i64 (j : Int) /\ Hid (Below we.heap.size we wr)) (fun s196 _ => 5 - (intOf s196).toNat)
       case atStart => exact ⟨0, by omega, rfl, zH (Below.refl _ _)⟩
       case round =>
        obtain ⟨j, hj, rfl, HBL⟩ := hrel
        rename World => wl
        by_cases hj5 : j < 5
        · have hji : (j : Int) < 5 := by omega
          have hj0 : (0 : Int) <= (j : Int) := by omega
          have hwj : IntKind.i64.wrap ((j : Int) + 1) = (j : Int) + 1 := IntWalk.i64_in _ (by omega)
          obtain ⟨A8, n8, c8, l8, hc8, hr8, hnc8, hcm8, hll8, hlb8⟩ := HROW.out _ HBL.out j hj5
          obtain ⟨R, hR⟩ : ∃ R, Mc.dec l8 = R := ⟨_, rfl⟩
          have HRO : Hid ((R.getD Mc.zero).Ok) := zH (by rw [<- hR]; exact Mc.dec_okD hlb8)
          have C1 := zH (hD (W := wl) (w := wl) (c := c8) hll8 hlb8 hnc8 hcm8 hr8 (Below.refl _ _))
          rw [hR] at C1
          have C2 : Hid (∀ wx, Below wl.heap.size wl wx -> Calls Tryz.prog 20 #[.slice A8 n8 c8] wx (GotMB wx wx R)) := zH (fun wx hb => by
           have h1 := refDecode_any (w := wx) (c := c8) hll8 hlb8 hnc8 hcm8 (hr8.below hb)
           rwa [hR] at h1)
          clear hR hr8 hnc8 hcm8 hll8 hlb8
          obtain ⟨RM, hRM⟩ : ∃ x, R.getD Mc.zero = x := ⟨_, rfl⟩
          obtain ⟨RB, hRB⟩ : ∃ x, R.isSome = x := ⟨_, rfl⟩
          rw [hRM] at HRO
          unfold GotMB at C1 C2
          rw [hRM, hRB] at C1
          rw [hRM, hRB] at C2
          clear hRM hRB
          go_upto_region 34 with (first
           | (go_at_call 19; refine C1.out.mono ?_; rintro en w6 ⟨a6, rfl, ho6, hB6, hb6⟩; unfold machV machC)
           | fail)
          have bb := (Below.refl w6.heap.size w6).alloc lR (.cells #[.slice a6.o.A0 RM.o.reg.length a6.o.c0, .slice a6.o.A1 RM.o.q.length a6.o.c1, .slice a6.o.A2 RM.o.lk.length a6.o.c2, .slice a6.o.A3 RM.o.mp.length a6.o.c3, .slice a6.At RM.t.length a6.ct] 36)
          obtain ⟨h28, hh28⟩ : ∃ x, w6.heap.size = x := ⟨_, rfl⟩
          have HK6 := zH (Blk.newAt w6 36 #[.slice a6.o.A0 RM.o.reg.length a6.o.c0, .slice a6.o.A1 RM.o.q.length a6.o.c1, .slice a6.o.A2 RM.o.lk.length a6.o.c2, .slice a6.o.A3 RM.o.mp.length a6.o.c3, .slice a6.At RM.t.length a6.ct] hh28)
          have HO6 := zH (ho6.below bb)
          have HB6 := zH (hb6.trans (bb.mono hb6.size))
          simp only [hh28]
          clear ho6 hB6 hb6 bb hh28 hc8 C1
          generalize w6.alloc (.cells #[.slice a6.o.A0 RM.o.reg.length a6.o.c0, .slice a6.o.A1 RM.o.q.length a6.o.c1, .slice a6.o.A2 RM.o.lk.length a6.o.c2, .slice a6.o.A3 RM.o.mp.length a6.o.c3, .slice a6.At RM.t.length a6.ct] 36) = wm at HK6 HO6 HB6 |-
          go_upto_region 35 with (first
           | (go_at_call 20; refine (C2.out _ HB6.out).mono ?_; rintro en w7 ⟨a7, rfl, ho7, hB7, hb7⟩; unfold machV machC)
           | fail)
          have bb := (Below.refl w7.heap.size w7).alloc lR (.cells #[.slice a7.o.A0 RM.o.reg.length a7.o.c0, .slice a7.o.A1 RM.o.q.length a7.o.c1, .slice a7.o.A2 RM.o.lk.length a7.o.c2, .slice a7.o.A3 RM.o.mp.length a7.o.c3, .slice a7.At RM.t.length a7.ct] 36)
          obtain ⟨h30, hh30⟩ : ∃ x, w7.heap.size = x := ⟨_, rfl⟩
          have HK7 := zH (Blk.newAt w7 36 #[.slice a7.o.A0 RM.o.reg.length a7.o.c0, .slice a7.o.A1 RM.o.q.length a7.o.c1, .slice a7.o.A2 RM.o.lk.length a7.o.c2, .slice a7.o.A3 RM.o.mp.length a7.o.c3, .slice a7.At RM.t.length a7.ct] hh30)
          have HO7 := zH (ho7.below bb)
          have hb8 := hb7.trans (bb.mono hb7.size)
          have HK6 := zH (HK6.out.below hb8)
          have HO6 := zH (HO6.out.below hb8)
          have HB6 := zH (HB6.out.trans (hb8.mono HB6.out.size))
          simp only [hh30]
          clear ho7 hB7 hb7 hb8 bb hh30 C2
          generalize w7.alloc (.cells #[.slice a7.o.A0 RM.o.reg.length a7.o.c0, .slice a7.o.A1 RM.o.q.length a7.o.c1, .slice a7.o.A2 RM.o.lk.length a7.o.c2, .slice a7.o.A3 RM.o.mp.length a7.o.c3, .slice a7.At RM.t.length a7.ct] 36) = wn at HK6 HO6 HB6 HK7 HO7 |-
          obtain ⟨x0, x1, x2, x3, x4⟩ := five HK6.out
          obtain ⟨y0, y1, y2, y3, y4⟩ := five HK7.out
          have hbb : (RB != RB) = false := by simp
          have C3 : Hid (Calls Tryz.prog 8 #[machV a6 RM, machV a7 RM] wn fun e w' => e = .returned (.bool true) /\ Below wn.heap.size wn w') := zH (by
           have h1 := refSame_any wn (a := a6) (a' := a7) HRO.out HRO.out HO6.out.rd HO7.out.rd
           rw [decide_eq_true rfl] at h1
           exact h1)
          unfold machV machC at C3
          go_wp2_with (first
           | (go_at_call 8; refine C3.out.mono ?_; rintro en w8 ⟨rfl, hb8⟩; have HB8 := zH hb8; clear hb8)
           | fail)
          go_roundw
          case rel => exact ⟨j + 1, by omega, by go_num, zH ((HBL.out.trans (HB6.out.mono HBL.out.size)).trans (HB8.out.mono (HBL.out.trans (HB6.out.mono HBL.out.size)).size))⟩
          case measure => simp only [intOf]; omega
        · have hji : ¬ (j : Int) < 5 := by omega
          clear HROW
          go_upto_region 38 with fail
          have HWL : Hid (∀ wx, Below wl.heap.size wl wx -> Below wc.heap.size wc wx) := zH (fun wx hb => by
           have h1 := HB30.out.trans (HBL.out.mono HB30.out.size)
           exact h1.trans (hb.mono h1.size))
          have HKF : Hid (∀ wx, Below wl.heap.size wl wx -> Blk wx g 36 #[.slice a.o.A0 M.o.reg.length a.o.c0, .slice a.o.A1 M.o.q.length a.o.c1, .slice a.o.A2 M.o.lk.length a.o.c2, .slice a.o.A3 M.o.mp.length a.o.c3, .slice a.At M.t.length a.ct] /\ (convert 24 9 (.slice A5 en0.length c5)).run Tryz.prog wx = .ok (.string (strB en0)) wx /\ Calls Tryz.prog 21 #[.agg #[.slice a.o.A0 M.o.reg.length a.o.c0, .slice a.o.A1 M.o.q.length a.o.c1, .slice a.o.A2 M.o.lk.length a.o.c2, .slice a.o.A3 M.o.mp.length a.o.c3, .slice a.At M.t.length a.ct]] wx (GotIn wx wx en0)) := zH (fun wx hb => by
           have h1 := HWL.out wx hb
           have h2 := HBC.out.trans (h1.mono HBC.out.size)
           exact ⟨HKA.out wx h2, str_of (HO5.out.below h1), HEN2.out wx h2⟩)
          have HFIN : Hid (∀ wx, Below wl.heap.size wl wx -> Below w0.heap.size w0 wx) := zH (fun wx hb => by
           have h1 := HWL.out wx hb
           have h2 := HBC.out.trans (h1.mono HBC.out.size)
           exact HBW.out.trans (h2.mono HBW.out.size))
          have hs1 := strB_self en0
          have hs2 : ((strB en0).toList == (strB en0).toList) = true := by simp
          have hS0 : Below wl.heap.size wl wl.drew := (Below.refl _ _).drew
          refine wp_region_held_drew (S := fun w' => Below wl.heap.size wl w') (by kernel_rfl) hS0 (fun _ => ?_)
          have hS := zH hS0
          clear hS0
          generalize wl.drew = q0 at hS |-
          refine tkL (i := 0) (v := .agg #[.slice a.o.A0 M.o.reg.length a.o.c0, .slice a.o.A1 M.o.q.length a.o.c1, .slice a.o.A2 M.o.lk.length a.o.c2, .slice a.o.A3 M.o.mp.length a.o.c3, .slice a.At M.t.length a.ct]) rfl (fun w h => by obtain ⟨q0, q1, q2, q3, q4⟩ := five (HKF.out w h).1; go_simp) hS.out ?_
          refine tkL (i := 3) (v := .slice A5 en0.length c5) rfl (fun w _ => by go_simp) hS.out ?_
          refine tkL (i := 4) (v := .string (strB en0)) rfl (fun w h => by have q := (HKF.out w h).2.1; go_simp) hS.out ?_
          refine rdH (rs := [1]) ?_
          refine AllReadyH.cons rfl (fun K hK => ?_) AllReadyH.nil
          go_simp
          refine (HKF.out _ hS.out).2.2.mono ?_
          rintro en w7 ⟨A9, c9, rfl, ho9, hB9, hb9⟩
          have hst := str_of (c := c9) (Rd.own_ ho9)
          have hS := zH (hS.out.trans (hb9.mono hS.out.size))
          clear ho9 hB9 hb9
          go_simp
          refine hK.out _ _ hS.out (fun _ => ?_)
          clear hK K
          refine rdH (rs := [2]) ?_
          refine AllReadyH.cons rfl (fun K hK => ?_) AllReadyH.nil
          go_simp
          refine hK.out _ _ hS.out (fun _ => ?_)
          clear hK K
          clear hst
          refine tkL (i := 5) (v := .bool true) rfl (fun w _ => by go_simp) hS.out ?_
          refine tkL (i := 6) (v := .bool true) rfl (fun w _ => by go_simp) hS.out ?_
          refine rdH (rs := [7]) ?_
          refine AllReadyH.cons rfl (fun K hK => ?_) AllReadyH.nil
          go_simp
          refine (hA _).mono ?_
          rintro en w9 ⟨rfl, hb9⟩
          have hS := zH (hS.out.trans (hb9.mono hS.out.size))
          clear hb9
          go_simp
          refine hK.out _ _ hS.out (fun _ => ?_)
          clear hK K
          refine tkL (i := 8) (v := .bool true) rfl (fun w _ => by go_simp) hS.out ?_
          refine tkL (i := 9) (v := .bool true) rfl (fun w _ => by go_simp) hS.out ?_
          refine wpAnyH_done (by kernel_rfl) ?_ _
          go_wp2_with fail
          go_ret
          have h1 := HFIN.out _ hS.out
          exact ⟨rfl, HB.out.trans (h1.mono HB.out.size)⟩
end Go.Proofs.YtlgpglhbbkikpaaGreat
