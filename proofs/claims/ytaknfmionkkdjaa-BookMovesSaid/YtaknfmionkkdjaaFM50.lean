/- BookAw0 BookAwake -/
import Derived.Test.YtaknfmionkkdjaaFM03
import Derived.Test.YtaknfmionkkdjaaFM48
import Derived.Test.YtaknfmionkkdjaaFM49
namespace Go.Proofs.Ytaknfmionkkdjaa
open Go.RowKit
set_option linter.unusedVariables false
/-- one of a row of what was done -/
theorem RdD9.at {w : World} {A : Option Addr} {n k : Nat} {ds : List Bk.Dn} (h : RdD9 w A n ds) (hk : k < n) : ∃ b o d a A1 c1, A = some ⟨b, o, none⟩ ∧ ds[k]? = some d ∧ w.rangeAt b (o + k * 11) (doneL a A1 c1 d) ∧ RdC w w.heap.size a d.e.c ∧ Rd w w.heap.size A1 d.r.v.length (bv d.r.v) := by
  have hlen := h.length
  obtain ⟨vs, h1, h2⟩ := h
  obtain ⟨b, o, e, _, hc⟩ := h1.2 (by omega)
  obtain ⟨d, hd⟩ : ∃ d, ds[k]? = some d := ⟨_, List.getElem?_eq_getElem (by omega)⟩
  obtain ⟨a, A1, c1, e1, r1, r2⟩ := h2.cell k d hd
  refine ⟨b, o, d, a, A1, c1, e, hd, fun j v hv => ?_, r1, r2⟩
  have hj := doneL_lt hv
  rw [Nat.add_assoc, hc _ (by omega), e1 j v hv]
namespace Bk
/-- the entry of a number -/
def ae (n : Nat) : En := ⟨1, n, ⟨4, 0, [], [n], []⟩⟩
def a1 : Bk := Bk.new.add 1 (ae 1)
def a2 : Bk := a1.add 3 (ae 3)
def a3 : Bk := a2.apply 9
theorem aw_may1 : Bk.new.may 1 = true := by decide
theorem aw_may2 : a1.may 3 = true := by decide
theorem aw_may3 : a2.may 1 = false := by decide
theorem aw_add3 : a2.add 1 (ae 9) = a2 := by unfold Bk.add; rw [aw_may3]; rfl
theorem aw_miss : a2.missing 4 = [2, 4] := by decide
theorem aw_dones : ∃ d, a2.dones 9 = [d] ∧ d.i = 1 ∧ d.r.n = 1 := ⟨⟨1, ae 1, Mc.zero.step (ae 1)⟩, rfl, rfl, by decide⟩
theorem aw_wh1 : Bk.new.wh ≤ Bk.new.pos + 90000 := by decide
theorem aw_wh2 : a1.wh ≤ a1.pos + 90000 := by decide
theorem aw_wh3 : a2.wh ≤ a2.pos + 90000 := by decide
theorem aw_wh4 : a2.wh ≤ 1099511627776 := by decide
theorem aw_pos : a3.pos = 1 := by decide
theorem aw_wh : a3.wh = 1 := by decide
theorem aw_state : a3.state.pos = 1 ∧ a3.state.rest = [] := ⟨by decide, rfl⟩
theorem aw_q : a3.m.o.q.length = 1 := by decide
theorem aw_wh5 : a3.wh ≤ a3.pos + 90000 := by decide
theorem ae_fits (n : Nat) (hn : n < 256) : (ae n).c.Fits := ⟨⟨by simp [ae], by simp [ae]⟩, ⟨by simp [ae], by simp [ae]; exact hn⟩, ⟨by simp [ae], by simp [ae]⟩⟩
end Bk
end Go.Proofs.Ytaknfmionkkdjaa

namespace Go.Proofs.Ytaknfmionkkdjaa
open Go.RowKit
set_option linter.unusedVariables false
set_option maxHeartbeats 2000000 in
set_option maxRecDepth 100000 in
theorem awakeE (w : World) (n : Nat) (hn : n < 256) : Calls Try.prog 33 #[.int .i64 (n : Int)] w fun en w' => ∃ ca, en = .returned (.agg (entC ca (Bk.ae n))) ∧ RdC w' w'.heap.size ca (Bk.ae n).c ∧ Below w.heap.size w w' := by
  have hu : IntKind.u8.wrap (n : Int) = (n : Int) := IntWalk.u8_in _ (by omega)
  clear hn
  go_enter Try.func33, Try.ntmps33
  go_upto_region 1 with fail
  obtain ⟨g, w1, hgE, hwE, hbE, hkE⟩ := alloced w #[.int .i64 0, .int .i64 0, .int .i64 0, .int .i64 0, .slice none 0 0, .slice none 0 0, .slice none 0 0] 30
  rw [hgE, hwE]
  have HB := Lib.hid hbE
  have HK := Lib.hid hkE
  have HG := Lib.hid hgE
  clear hgE hwE hbE hkE
  have hk2 := HK.out.alloc (.cells #[.int .u8 (n : Int)] 5)
  have HK2 := Lib.hid hk2
  clear hk2
  go_wp2_with (first
    | (refine wpList_store_row rfl 30 (.tmp 2) (.tmp 8) rfl g #[.int .i64 1, .int .i64 (n : Int), .int .i64 4, .int .i64 0, .slice none 0 0, .slice (some ⟨w1.heap.size, 0, none⟩) 1 1, .slice none 0 0] rfl rfl 30 #[.int .i64 0, .int .i64 0, .int .i64 0, .int .i64 0, .slice none 0 0, .slice none 0 0, .slice none 0 0] HK2.out (by kernel_rfl) rfl (by kernel_rfl) ?_)
    | fail)
  refine bodyPost_ret (results_cell_row rfl _ _ _ _ _ _ _ rfl (Blk.row HK2.out #[.int .i64 1, .int .i64 (n : Int), .int .i64 4, .int .i64 0, .slice none 0 0, .slice (some ⟨w1.heap.size, 0, none⟩) 1 1, .slice none 0 0]) Try.underlying30 rfl (by kernel_rfl)) rfl ?_
  have hsz : w.heap.size ≤ g := by have := HG.out; omega
  have hne : w1.heap.size ≠ g := by have := HK.out.lt; omega
  refine ⟨⟨none, 0, some ⟨w1.heap.size, 0, none⟩, 1, none, 0⟩, rfl, ⟨Rd.none_ _ _ _, ?_, Rd.none_ _ _ _⟩, below_setRow (HB.out.alloc HB.out.size _) hsz _⟩
  have hk3 := (Blk.new w1 5 #[.int .u8 (n : Int)]).row_other hne #[.int .i64 1, .int .i64 (n : Int), .int .i64 4, .int .i64 0, .slice none 0 0, .slice (some ⟨w1.heap.size, 0, none⟩) 1 1, .slice none 0 0]
  refine ⟨rfl, fun _ => ⟨_, 0, rfl, hk3.lt, fun i hi => ?_⟩⟩
  have hi0 : i = 0 := by simp [Bk.ae] at hi; omega
  subst hi0
  rw [hk3.cell]
  rfl
set_option maxHeartbeats 8000000 in
set_option maxRecDepth 100000 in
theorem awake16 (w : World) : Calls Try.prog 17 #[] w fun en w' => en = .returned (.bool true) ∧ Below w.heap.size w w' := by
  have HN := Lib.hid (bkNew w)
  go_enter Try.func17, Try.ntmps17
  go_upto_region 5 with (first
    | (go_at_call 5; refine HN.out.mono ?_; rintro en w1 ⟨b, S, rfl, h1, hb1, hs1⟩
       have H1 := Lib.hid h1
       have HB1 := Lib.hid hb1
       have HS1 := Lib.hid hs1
       clear h1 hb1 hs1)
    | fail)
  have HE1 := Lib.hid (awakeE w1 1 (by decide))
  have HE3 := Lib.hid (fun w => awakeE w 3 (by decide))
  have HE9 := Lib.hid (fun w => awakeE w 9 (by decide))
  obtain ⟨k1, hk1⟩ : ∃ k, Bk.a1 = k := ⟨_, rfl⟩
  obtain ⟨k2, hk2⟩ : ∃ k, Bk.a2 = k := ⟨_, rfl⟩
  obtain ⟨k3, hk3⟩ : ∃ k, Bk.a3 = k := ⟨_, rfl⟩
  obtain ⟨d, hds, hdi, hdn⟩ := Bk.aw_dones
  have HD := Lib.hid (And.intro hdi hdn)
  have HF := Lib.hid Bk.ae_fits
  have A1 : Hid (∀ wx (hx : BkAt wx S b Bk.new) ca B (hr : RdC wx B ca (Bk.ae 1).c), Calls Try.prog 6 #[.pointer (some ⟨b, 0, none⟩), .int .i64 1, .agg (entC ca (Bk.ae 1))] wx fun en w' => en = .returned (.bool true) ∧ GotBk S wx b k1 w') := Lib.hid (fun wx hx ca B hr => bkAdd wx hx 1 Bk.aw_may1 hk1 (Bk.ae_fits 1 (by decide)) hr Bk.aw_wh1)
  have A2 : Hid (∀ S wx (hx : BkAt wx S b k1) ca B (hr : RdC wx B ca (Bk.ae 3).c), Calls Try.prog 6 #[.pointer (some ⟨b, 0, none⟩), .int .i64 3, .agg (entC ca (Bk.ae 3))] wx fun en w' => en = .returned (.bool true) ∧ GotBk S wx b k2 w') := Lib.hid (fun S wx hx ca B hr => by subst hk1; exact bkAdd wx hx 3 Bk.aw_may2 hk2 (Bk.ae_fits 3 (by decide)) hr Bk.aw_wh2)
  have A3 : Hid (∀ S wx (hx : BkAt wx S b k2) ca B (hr : RdC wx B ca (Bk.ae 9).c), Calls Try.prog 6 #[.pointer (some ⟨b, 0, none⟩), .int .i64 1, .agg (entC ca (Bk.ae 9))] wx fun en w' => en = .returned (.bool false) ∧ GotBk S wx b k2 w') := Lib.hid (fun S wx hx ca B hr => by subst hk2; exact bkAdd wx hx 1 Bk.aw_may3 Bk.aw_add3 (Bk.ae_fits 9 (by decide)) hr Bk.aw_wh3)
  have A4 : Hid (∀ S wx (hx : BkAt wx S b k2), Calls Try.prog 34 #[.pointer (some ⟨b, 0, none⟩), .int .i64 4] wx fun e w' => ∃ A c, e = .returned (.slice A 2 c) ∧ OwnI wx w' A 2 c [2, 4] ∧ Below wx.heap.size wx w') := Lib.hid (fun S wx hx => by subst hk2; exact bkMissing wx hx 4 Bk.aw_miss Bk.aw_wh3)
  have A5 : Hid (∀ S wx (hx : BkAt wx S b k2), Calls Try.prog 8 #[.pointer (some ⟨b, 0, none⟩), .int .i64 9] wx (GotAp S wx b k3 [d])) := Lib.hid (fun S wx hx => by subst hk2; exact bkApply wx hx 9 hk3 hds Bk.aw_wh3 Bk.aw_wh4)
  obtain ⟨st, hst⟩ : ∃ s, k3.state = s := ⟨_, rfl⟩
  have hst1 : st.pos = 1 ∧ st.rest = [] := by rw [← hst, ← hk3]; exact Bk.aw_state
  obtain ⟨⟩ := hst1
  obtain ⟨sp, sm, sr⟩ := st
  rename_i e1 e2
  simp only at e1 e2
  subst e1 e2
  have A6 : Hid (∀ S wx (hx : BkAt wx S b k3), Calls Try.prog 9 #[.pointer (some ⟨b, 0, none⟩)] wx fun en w' => ∃ a, en = .returned (stateV a ⟨1, sm, []⟩) ∧ OwnS wx w' a ⟨1, sm, []⟩ ∧ Below wx.heap.size wx w') := Lib.hid (fun S wx hx => bkState wx hx hst (by subst hk3; exact Bk.aw_wh5))
  have A7 : Hid (∀ S wx (hx : BkAt wx S b k3), Calls Try.prog 11 #[.pointer (some ⟨b, 0, none⟩)] wx fun e w' => e = .returned (.int .i64 1) ∧ wx = w') := Lib.hid (fun S wx hx => by have := bkAt wx hx; rw [← hk3, Bk.aw_pos] at this; exact this)
  have A8 : Hid (∀ S wx (hx : BkAt wx S b k3), Calls Try.prog 12 #[.pointer (some ⟨b, 0, none⟩)] wx fun e w' => e = .returned (.int .i64 1) ∧ wx = w') := Lib.hid (fun S wx hx => by have := bkWhole wx hx; rw [← hk3, Bk.aw_wh] at this; exact this)
  obtain ⟨m3, hm3⟩ : ∃ m, k3.m = m := ⟨_, rfl⟩
  have hq : m3.o.q.length = 1 := by rw [← hm3, ← hk3]; exact Bk.aw_q
  have HQ := Lib.hid hq
  have A9 : Hid (∀ S wx (hx : BkAt wx S b k3), Calls Try.prog 14 #[.pointer (some ⟨b, 0, none⟩)] wx fun e w' => ∃ a', e = .returned (machV a' m3) ∧ OwnM wx w' a' m3 ∧ Below wx.heap.size wx w') := Lib.hid (fun S wx hx => bkMachine wx hx hm3)
  clear hk1 hk2 hk3 hds hdi hdn hst hm3 hq HN
  unfold stateV stateC at A6
  go_wp2_with fail
  refine HE1.out.mono ?_
  rintro en w2 ⟨ca, rfl, hr2, hb2⟩
  have HR2 := Lib.hid hr2; have H2 := Lib.hid (H1.out.below hb2); have HV2 : Hid (Adv S w1 S w2) := Lib.hid (Adv.of_below S hb2)
  clear hr2 hb2
  go_wp2_with fail
  refine (A1.out w2 H2.out _ _ HR2.out).mono ?_
  rintro en w3 ⟨rfl, S3, h3, v3⟩
  have H3 := Lib.hid h3; have HV3 := Lib.hid (HV2.out.trans v3)
  clear h3 v3
  go_wp2_with fail
  refine (HE3.out w3).mono ?_
  rintro en w4 ⟨cb, rfl, hr2, hb2⟩
  have HR4 := Lib.hid hr2; have H4 := Lib.hid (H3.out.below hb2); have HV4 := Lib.hid (HV3.out.trans (Adv.of_below S3 hb2))
  clear hr2 hb2
  go_wp2_with fail
  refine (A2.out _ w4 H4.out _ _ HR4.out).mono ?_
  rintro en w5 ⟨rfl, S5, h3, v3⟩
  have H5 := Lib.hid h3; have HV5 := Lib.hid (HV4.out.trans v3)
  clear h3 v3
  go_wp2_with fail
  refine (HE9.out w5).mono ?_
  rintro en w6 ⟨cc, rfl, hr2, hb2⟩
  have HR6 := Lib.hid hr2; have H6 := Lib.hid (H5.out.below hb2); have HV6 := Lib.hid (HV5.out.trans (Adv.of_below S5 hb2))
  clear hr2 hb2
  go_wp2_with fail
  refine (A3.out _ w6 H6.out _ _ HR6.out).mono ?_
  rintro en w7 ⟨rfl, S7, h3, v3⟩
  have H7 := Lib.hid h3; have HV7 := Lib.hid (HV6.out.trans v3)
  clear h3 v3
  go_wp2_with fail
  refine (A4.out _ w7 H7.out).mono ?_
  rintro en w8 ⟨Am, cm, rfl, hom, hb2⟩
  have HOM := Lib.hid hom; have H8 := Lib.hid (H7.out.below hb2); have HV8 := Lib.hid (HV7.out.trans (Adv.of_below S7 hb2))
  clear hom hb2
  go_wp2_with fail
  refine (A5.out _ w8 H8.out).mono ?_
  rintro en w9 ⟨Ad, cd, rfl, hod, S9, h3, v3⟩
  have HOD := Lib.hid hod.rd; have H9 := Lib.hid h3; have HV9 := Lib.hid (HV8.out.trans v3)
  have HOM9 := Lib.hid (ownsRow_keeps HOM.out v3.keeps H8.out.of (by decide))
  clear hod h3 v3
  go_upto_region 9 with (first
    | (go_at_call 9; refine (A6.out _ w9 H9.out).mono ?_; rintro en w10 ⟨sa, rfl, hos, hb2⟩
       have H10 := Lib.hid (H9.out.below hb2); have HV10 := Lib.hid (HV9.out.trans (Adv.of_below S9 hb2)); have HOD10 := Lib.hid (HOD.out.below hb2); have HOM10 := Lib.hid (ownsRow_below HOM9.out hb2)
       clear hos hb2)
    | (refine wpList_store_row rfl 43 (.tmp 8) (.tmp 29) rfl w10.heap.size #[.int .i64 1, .slice sa.m.o.A0 sm.o.reg.length sa.m.o.c0, .slice sa.m.o.A1 sm.o.q.length sa.m.o.c1, .slice sa.m.o.A2 sm.o.lk.length sa.m.o.c2, .slice sa.m.o.A3 sm.o.mp.length sa.m.o.c3, .slice sa.m.At sm.t.length sa.m.ct, .slice sa.Ar 0 sa.cr] rfl rfl 43 #[.int .i64 0, .slice none 0 0, .slice none 0 0, .slice none 0 0, .slice none 0 0, .slice none 0 0, .slice none 0 0] (Blk.new w10 43 #[.int .i64 0, .slice none 0 0, .slice none 0 0, .slice none 0 0, .slice none 0 0, .slice none 0 0, .slice none 0 0]) (by kernel_rfl) rfl (by kernel_rfl) ?_)
    | fail)
  obtain ⟨g8, w11, hg8, hw11, hb11, hk11⟩ := boxed w10 #[.int .i64 0, .slice none 0 0, .slice none 0 0, .slice none 0 0, .slice none 0 0, .slice none 0 0, .slice none 0 0] #[.int .i64 1, .slice sa.m.o.A0 sm.o.reg.length sa.m.o.c0, .slice sa.m.o.A1 sm.o.q.length sa.m.o.c1, .slice sa.m.o.A2 sm.o.lk.length sa.m.o.c2, .slice sa.m.o.A3 sm.o.mp.length sa.m.o.c3, .slice sa.m.At sm.t.length sa.m.ct, .slice sa.Ar 0 sa.cr] 43
  rw [hg8, hw11]
  have H11 := Lib.hid (H10.out.below hb11)
  have HV11 := Lib.hid (HV10.out.trans (Adv.of_below S9 hb11))
  have HOM11 := Lib.hid (Rd.own_ (ownsRow_below HOM10.out hb11))
  obtain ⟨db, doff, d', da, dA, dc, rfl, hd0, hrg, _, _⟩ := (HOD10.out.below hb11).at (k := 0) (by simp)
  have hdd : d = d' := by simpa using hd0
  subst hdd
  have z0 : w11.cell? ⟨db, doff, none⟩ = some (.int .i64 1) := by have q := hrg 0 _ rfl; rw [HD.out.1] at q; simpa using q
  have z10 : w11.cell? ⟨db, doff + 10, none⟩ = some (.int .i64 1) := by have q := hrg 10 _ rfl; rw [HD.out.2] at q; simpa using q
  have y0 := hk11.cell 0
  have y6 := hk11.cell 6
  simp at y0 y6
  have HK11 := Lib.hid hk11
  clear hg8 hw11 hb11 hk11 hd0 hrg
  clear H1 H2 H3 H4 H5 H6 H7 H8 H9 H10 HV2 HV3 HV4 HV5 HV6 HV7 HV8 HV9 HV10 HR2 HR4 HR6 HOD HOM HOM9 HOM10 HOD10 A1 A2 A3 A4 A5 A6 HE1 HE3 HE9
  go_wp2_with fail
  refine (same_any _ _ _ _ _ _ _ _ _ [2, 4] [2, 4] (HOM11.out.below ((Below.refl _ _).alloc (Nat.le_refl _) _)) (Rd.made w11 #[.int .i64 2, .int .i64 4] 3 (0, 0) 2 rfl) (by decide) (by decide)).mono ?_
  rintro en w12 ⟨rfl, m12, hm12⟩
  have HB12 : Hid (Below w11.heap.size w11 w12) := Lib.hid (by rw [hm12]; exact below_drewN ((Below.refl _ _).alloc (Nat.le_refl _) _) m12)
  have z0' := (Below.cell HB12.out (p := ⟨db, doff, none⟩) (World.block_lt_of_cell? _ _ z0)).trans z0
  have z10' := (Below.cell HB12.out (p := ⟨db, doff + 10, none⟩) (World.block_lt_of_cell? _ _ z10)).trans z10
  have y0' := (HK11.out.below HB12.out).cell 0
  have y6' := (HK11.out.below HB12.out).cell 6
  simp at y0' y6'
  have H12 := Lib.hid (H11.out.below HB12.out)
  have HV12 := Lib.hid (HV11.out.trans (Adv.of_below S9 HB12.out))
  clear hm12 z0 z10 y0 y6
  go_wp2_with fail
  refine (A7.out _ w12 H12.out).mono ?_
  rintro en w13 ⟨rfl, rfl⟩
  go_wp2_with fail
  refine (A8.out _ w12 H12.out).mono ?_
  rintro en w13 ⟨rfl, rfl⟩
  go_wp2_with fail
  refine (A9.out _ w12 H12.out).mono ?_
  rintro en w13 ⟨ma, rfl, hom, hb13⟩
  unfold machV machC
  rw [HQ.out]
  have HV13 := Lib.hid (HV12.out.trans (Adv.of_below S9 hb13))
  clear hom hb13
  have hf1 : ∀ w : World, (Instr.field 40 (.agg #[.slice ma.o.A0 m3.o.reg.length ma.o.c0, .slice ma.o.A1 1 ma.o.c1, .slice ma.o.A2 m3.o.lk.length ma.o.c2, .slice ma.o.A3 m3.o.mp.length ma.o.c3, .slice ma.At m3.t.length ma.ct]) 0).run Try.prog w = .ok (.agg #[.slice ma.o.A0 m3.o.reg.length ma.o.c0, .slice ma.o.A1 1 ma.o.c1, .slice ma.o.A2 m3.o.lk.length ma.o.c2, .slice ma.o.A3 m3.o.mp.length ma.o.c3]) w := fun w => by kernel_rfl
  have hf2 : ∀ w : World, (Instr.field 37 (.agg #[.slice ma.o.A0 m3.o.reg.length ma.o.c0, .slice ma.o.A1 1 ma.o.c1, .slice ma.o.A2 m3.o.lk.length ma.o.c2, .slice ma.o.A3 m3.o.mp.length ma.o.c3]) 1).run Try.prog w = .ok (.slice ma.o.A1 1 ma.o.c1) w := fun w => by kernel_rfl
  go_wp2_with fail
  go_ret
  exact ⟨rfl, HV13.out.below HB1.out HS1.out⟩
end Go.Proofs.Ytaknfmionkkdjaa

