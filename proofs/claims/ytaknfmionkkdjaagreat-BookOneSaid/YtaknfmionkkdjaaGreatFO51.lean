/- BookAwake FoldKit -/
import Derived.Test.YtaknfmionkkdjaaGreatFO50
namespace Go.Proofs.YtaknfmionkkdjaaGreat
open Go.RowKit
set_option linter.unusedVariables false
set_option maxHeartbeats 2000000 in
set_option maxRecDepth 100000 in
theorem awakeE (w : World) (n : Nat) (hn : n < 256) : Calls Tryz.prog 42 #[.int .i64 (n : Int)] w fun en w' => ∃ ca, en = .returned (.agg (entC ca (Bk.ae n))) ∧ RdC w' w'.heap.size ca (Bk.ae n).c ∧ Below w.heap.size w w' := by
  have hu : IntKind.u8.wrap (n : Int) = (n : Int) := IntWalk.u8_in _ (by omega)
  clear hn
  go_enter Tryz.func42, Tryz.ntmps42
  go_upto_region 1 with fail
  obtain ⟨g, w1, hgE, hwE, hbE, hkE⟩ := alloced w #[.int .i64 0, .int .i64 0, .int .i64 0, .int .i64 0, .slice none 0 0, .slice none 0 0, .slice none 0 0] 40
  rw [hgE, hwE]
  have HB := Lib.hid hbE
  have HK := Lib.hid hkE
  have HG := Lib.hid hgE
  clear hgE hwE hbE hkE
  have hk2 := HK.out.alloc (.cells #[.int .u8 (n : Int)] 5)
  have HK2 := Lib.hid hk2
  clear hk2
  go_wp2_with (first
    | (refine wpList_store_row rfl 40 (.tmp 2) (.tmp 8) rfl g #[.int .i64 1, .int .i64 (n : Int), .int .i64 4, .int .i64 0, .slice none 0 0, .slice (some ⟨w1.heap.size, 0, none⟩) 1 1, .slice none 0 0] rfl rfl 40 #[.int .i64 0, .int .i64 0, .int .i64 0, .int .i64 0, .slice none 0 0, .slice none 0 0, .slice none 0 0] HK2.out (by kernel_rfl) rfl (by kernel_rfl) ?_)
    | fail)
  refine bodyPost_ret (results_cell_row rfl _ _ _ _ _ _ _ rfl (Blk.row HK2.out #[.int .i64 1, .int .i64 (n : Int), .int .i64 4, .int .i64 0, .slice none 0 0, .slice (some ⟨w1.heap.size, 0, none⟩) 1 1, .slice none 0 0]) Tryz.underlying40 rfl (by kernel_rfl)) rfl ?_
  have hsz : w.heap.size ≤ g := by have := HG.out; omega
  have hne : w1.heap.size ≠ g := by have := HK.out.lt; omega
  refine ⟨⟨none, 0, some ⟨w1.heap.size, 0, none⟩, 1, none, 0⟩, rfl, ⟨Rd.none_ _ _ _, ?_, Rd.none_ _ _ _⟩, below_setRow (HB.out.alloc HB.out.size _) hsz _⟩
  have hk3 := (Blk.new w1 5 #[.int .u8 (n : Int)]).row_other hne #[.int .i64 1, .int .i64 (n : Int), .int .i64 4, .int .i64 0, .slice none 0 0, .slice (some ⟨w1.heap.size, 0, none⟩) 1 1, .slice none 0 0]
  refine ⟨rfl, fun _ => ⟨_, 0, rfl, hk3.lt, fun i hi => ?_⟩⟩
  have hi0 : i = 0 := by simp [Bk.ae] at hi; omega
  subst hi0
  rw [hk3.cell]
  rfl
set_option maxHeartbeats 8000000 in
set_option maxRecDepth 100000 in
theorem awake16 (w : World) : Calls Tryz.prog 17 #[] w fun en w' => en = .returned (.bool true) ∧ Below w.heap.size w w' := by
  have HN := Lib.hid (bkNew w)
  go_enter Tryz.func17, Tryz.ntmps17
  go_upto_region 5 with (first
    | (go_at_call 6; refine HN.out.mono ?_; rintro en w1 ⟨b, S, rfl, h1, hb1, hs1⟩
       have H1 := Lib.hid h1
       have HB1 := Lib.hid hb1
       have HS1 := Lib.hid hs1
       clear h1 hb1 hs1)
    | fail)
  have HE1 := Lib.hid (awakeE w1 1 (by decide))
  have HE3 := Lib.hid (fun w => awakeE w 3 (by decide))
  have HE9 := Lib.hid (fun w => awakeE w 9 (by decide))
  obtain ⟨k1, hk1⟩ : ∃ k, Bk.a1 = k := ⟨_, rfl⟩
  obtain ⟨k2, hk2⟩ : ∃ k, Bk.a2 = k := ⟨_, rfl⟩
  obtain ⟨k3, hk3⟩ : ∃ k, Bk.a3 = k := ⟨_, rfl⟩
  obtain ⟨d, hds, hdi, hdn⟩ := Bk.aw_dones
  have HD := Lib.hid (And.intro hdi hdn)
  have HF := Lib.hid Bk.ae_fits
  have A1 : Hid (∀ wx (hx : BkAt wx S b Bk.new) ca B (hr : RdC wx B ca (Bk.ae 1).c), Calls Tryz.prog 8 #[.pointer (some ⟨b, 0, none⟩), .int .i64 1, .agg (entC ca (Bk.ae 1))] wx fun en w' => en = .returned (.bool true) ∧ GotBk S wx b k1 w') := Lib.hid (fun wx hx ca B hr => bkAdd wx hx 1 Bk.aw_may1 hk1 (Bk.ae_fits 1 (by decide)) hr Bk.aw_wh1)
  have A2 : Hid (∀ S wx (hx : BkAt wx S b k1) ca B (hr : RdC wx B ca (Bk.ae 3).c), Calls Tryz.prog 8 #[.pointer (some ⟨b, 0, none⟩), .int .i64 3, .agg (entC ca (Bk.ae 3))] wx fun en w' => en = .returned (.bool true) ∧ GotBk S wx b k2 w') := Lib.hid (fun S wx hx ca B hr => by subst hk1; exact bkAdd wx hx 3 Bk.aw_may2 hk2 (Bk.ae_fits 3 (by decide)) hr Bk.aw_wh2)
  have A3 : Hid (∀ S wx (hx : BkAt wx S b k2) ca B (hr : RdC wx B ca (Bk.ae 9).c), Calls Tryz.prog 8 #[.pointer (some ⟨b, 0, none⟩), .int .i64 1, .agg (entC ca (Bk.ae 9))] wx fun en w' => en = .returned (.bool false) ∧ GotBk S wx b k2 w') := Lib.hid (fun S wx hx ca B hr => by subst hk2; exact bkAdd wx hx 1 Bk.aw_may3 Bk.aw_add3 (Bk.ae_fits 9 (by decide)) hr Bk.aw_wh3)
  have A4 : Hid (∀ S wx (hx : BkAt wx S b k2), Calls Tryz.prog 29 #[.pointer (some ⟨b, 0, none⟩), .int .i64 4] wx fun e w' => ∃ A c, e = .returned (.slice A 2 c) ∧ OwnI wx w' A 2 c [2, 4] ∧ Below wx.heap.size wx w') := Lib.hid (fun S wx hx => by subst hk2; exact bkMissing wx hx 4 Bk.aw_miss Bk.aw_wh3)
  have A5 : Hid (∀ S wx (hx : BkAt wx S b k2), Calls Tryz.prog 10 #[.pointer (some ⟨b, 0, none⟩), .int .i64 9] wx (GotAp S wx b k3 [d])) := Lib.hid (fun S wx hx => by subst hk2; exact bkApply wx hx 9 hk3 hds Bk.aw_wh3 Bk.aw_wh4)
  obtain ⟨st, hst⟩ : ∃ s, k3.state = s := ⟨_, rfl⟩
  have hst1 : st.pos = 1 ∧ st.rest = [] := by rw [← hst, ← hk3]; exact Bk.aw_state
  obtain ⟨⟩ := hst1
  obtain ⟨sp, sm, sr⟩ := st
  rename_i e1 e2
  simp only at e1 e2
  subst e1 e2
  have A6 : Hid (∀ S wx (hx : BkAt wx S b k3), Calls Tryz.prog 12 #[.pointer (some ⟨b, 0, none⟩)] wx fun en w' => ∃ a, en = .returned (stateV a ⟨1, sm, []⟩) ∧ OwnS wx w' a ⟨1, sm, []⟩ ∧ Below wx.heap.size wx w') := Lib.hid (fun S wx hx => bkState wx hx hst (by subst hk3; exact Bk.aw_wh5))
  have A7 : Hid (∀ S wx (hx : BkAt wx S b k3), Calls Tryz.prog 26 #[.pointer (some ⟨b, 0, none⟩)] wx fun e w' => e = .returned (.int .i64 1) ∧ wx = w') := Lib.hid (fun S wx hx => by have := bkAt wx hx; rw [← hk3, Bk.aw_pos] at this; exact this)
  have A8 : Hid (∀ S wx (hx : BkAt wx S b k3), Calls Tryz.prog 27 #[.pointer (some ⟨b, 0, none⟩)] wx fun e w' => e = .returned (.int .i64 1) ∧ wx = w') := Lib.hid (fun S wx hx => by have := bkWhole wx hx; rw [← hk3, Bk.aw_wh] at this; exact this)
  obtain ⟨m3, hm3⟩ : ∃ m, k3.m = m := ⟨_, rfl⟩
  have hq : m3.o.q.length = 1 := by rw [← hm3, ← hk3]; exact Bk.aw_q
  have HQ := Lib.hid hq
  have A9 : Hid (∀ S wx (hx : BkAt wx S b k3), Calls Tryz.prog 16 #[.pointer (some ⟨b, 0, none⟩)] wx fun e w' => ∃ a', e = .returned (machV a' m3) ∧ OwnM wx w' a' m3 ∧ Below wx.heap.size wx w') := Lib.hid (fun S wx hx => bkMachine wx hx hm3)
  clear hk1 hk2 hk3 hds hdi hdn hst hm3 hq HN
  unfold stateV stateC at A6
  go_wp2_with fail
  refine HE1.out.mono ?_
  rintro en w2 ⟨ca, rfl, hr2, hb2⟩
  have HR2 := Lib.hid hr2; have H2 := Lib.hid (H1.out.below hb2); have HV2 : Hid (Adv S w1 S w2) := Lib.hid (Adv.of_below S hb2)
  clear hr2 hb2
  go_wp2_with fail
  refine (A1.out w2 H2.out _ _ HR2.out).mono ?_
  rintro en w3 ⟨rfl, S3, h3, v3⟩
  have H3 := Lib.hid h3; have HV3 := Lib.hid (HV2.out.trans v3)
  clear h3 v3
  go_wp2_with fail
  refine (HE3.out w3).mono ?_
  rintro en w4 ⟨cb, rfl, hr2, hb2⟩
  have HR4 := Lib.hid hr2; have H4 := Lib.hid (H3.out.below hb2); have HV4 := Lib.hid (HV3.out.trans (Adv.of_below S3 hb2))
  clear hr2 hb2
  go_wp2_with fail
  refine (A2.out _ w4 H4.out _ _ HR4.out).mono ?_
  rintro en w5 ⟨rfl, S5, h3, v3⟩
  have H5 := Lib.hid h3; have HV5 := Lib.hid (HV4.out.trans v3)
  clear h3 v3
  go_wp2_with fail
  refine (HE9.out w5).mono ?_
  rintro en w6 ⟨cc, rfl, hr2, hb2⟩
  have HR6 := Lib.hid hr2; have H6 := Lib.hid (H5.out.below hb2); have HV6 := Lib.hid (HV5.out.trans (Adv.of_below S5 hb2))
  clear hr2 hb2
  go_wp2_with fail
  refine (A3.out _ w6 H6.out _ _ HR6.out).mono ?_
  rintro en w7 ⟨rfl, S7, h3, v3⟩
  have H7 := Lib.hid h3; have HV7 := Lib.hid (HV6.out.trans v3)
  clear h3 v3
  go_wp2_with fail
  refine (A4.out _ w7 H7.out).mono ?_
  rintro en w8 ⟨Am, cm, rfl, hom, hb2⟩
  have HOM := Lib.hid hom; have H8 := Lib.hid (H7.out.below hb2); have HV8 := Lib.hid (HV7.out.trans (Adv.of_below S7 hb2))
  clear hom hb2
  go_wp2_with fail
  refine (A5.out _ w8 H8.out).mono ?_
  rintro en w9 ⟨Ad, cd, rfl, hod, S9, h3, v3⟩
  have HOD := Lib.hid hod.rd; have H9 := Lib.hid h3; have HV9 := Lib.hid (HV8.out.trans v3)
  have HOM9 := Lib.hid (ownsRow_keeps HOM.out v3.keeps H8.out.of (by decide))
  clear hod h3 v3
  go_upto_region 9 with (first
    | (go_at_call 12; refine (A6.out _ w9 H9.out).mono ?_; rintro en w10 ⟨sa, rfl, hos, hb2⟩
       have H10 := Lib.hid (H9.out.below hb2); have HV10 := Lib.hid (HV9.out.trans (Adv.of_below S9 hb2)); have HOD10 := Lib.hid (HOD.out.below hb2); have HOM10 := Lib.hid (ownsRow_below HOM9.out hb2)
       clear hos hb2)
    | (refine wpList_store_row rfl 52 (.tmp 8) (.tmp 29) rfl w10.heap.size #[.int .i64 1, .slice sa.m.o.A0 sm.o.reg.length sa.m.o.c0, .slice sa.m.o.A1 sm.o.q.length sa.m.o.c1, .slice sa.m.o.A2 sm.o.lk.length sa.m.o.c2, .slice sa.m.o.A3 sm.o.mp.length sa.m.o.c3, .slice sa.m.At sm.t.length sa.m.ct, .slice sa.Ar 0 sa.cr] rfl rfl 52 #[.int .i64 0, .slice none 0 0, .slice none 0 0, .slice none 0 0, .slice none 0 0, .slice none 0 0, .slice none 0 0] (Blk.new w10 52 #[.int .i64 0, .slice none 0 0, .slice none 0 0, .slice none 0 0, .slice none 0 0, .slice none 0 0, .slice none 0 0]) (by kernel_rfl) rfl (by kernel_rfl) ?_)
    | fail)
  obtain ⟨g8, w11, hg8, hw11, hb11, hk11⟩ := boxed w10 #[.int .i64 0, .slice none 0 0, .slice none 0 0, .slice none 0 0, .slice none 0 0, .slice none 0 0, .slice none 0 0] #[.int .i64 1, .slice sa.m.o.A0 sm.o.reg.length sa.m.o.c0, .slice sa.m.o.A1 sm.o.q.length sa.m.o.c1, .slice sa.m.o.A2 sm.o.lk.length sa.m.o.c2, .slice sa.m.o.A3 sm.o.mp.length sa.m.o.c3, .slice sa.m.At sm.t.length sa.m.ct, .slice sa.Ar 0 sa.cr] 52
  rw [hg8, hw11]
  have H11 := Lib.hid (H10.out.below hb11)
  have HV11 := Lib.hid (HV10.out.trans (Adv.of_below S9 hb11))
  have HOM11 := Lib.hid (Rd.own_ (ownsRow_below HOM10.out hb11))
  obtain ⟨db, doff, d', da, dA, dc, rfl, hd0, hrg, _, _⟩ := (HOD10.out.below hb11).at (k := 0) (by simp)
  have hdd : d = d' := by simpa using hd0
  subst hdd
  have z0 : w11.cell? ⟨db, doff, none⟩ = some (.int .i64 1) := by have q := hrg 0 _ rfl; rw [HD.out.1] at q; simpa using q
  have z10 : w11.cell? ⟨db, doff + 10, none⟩ = some (.int .i64 1) := by have q := hrg 10 _ rfl; rw [HD.out.2] at q; simpa using q
  have y0 := hk11.cell 0
  have y6 := hk11.cell 6
  simp at y0 y6
  have HK11 := Lib.hid hk11
  clear hg8 hw11 hb11 hk11 hd0 hrg
  clear H1 H2 H3 H4 H5 H6 H7 H8 H9 H10 HV2 HV3 HV4 HV5 HV6 HV7 HV8 HV9 HV10 HR2 HR4 HR6 HOD HOM HOM9 HOM10 HOD10 A1 A2 A3 A4 A5 A6 HE1 HE3 HE9
  go_wp2_with fail
  refine (same_any _ _ _ _ _ _ _ _ _ [2, 4] [2, 4] (HOM11.out.below ((Below.refl _ _).alloc (Nat.le_refl _) _)) (Rd.made w11 #[.int .i64 2, .int .i64 4] 3 (0, 0) 2 rfl) (by decide) (by decide)).mono ?_
  rintro en w12 ⟨rfl, m12, hm12⟩
  have HB12 : Hid (Below w11.heap.size w11 w12) := Lib.hid (by rw [hm12]; exact below_drewN ((Below.refl _ _).alloc (Nat.le_refl _) _) m12)
  have z0' := (Below.cell HB12.out (p := ⟨db, doff, none⟩) (World.block_lt_of_cell? _ _ z0)).trans z0
  have z10' := (Below.cell HB12.out (p := ⟨db, doff + 10, none⟩) (World.block_lt_of_cell? _ _ z10)).trans z10
  have y0' := (HK11.out.below HB12.out).cell 0
  have y6' := (HK11.out.below HB12.out).cell 6
  simp at y0' y6'
  have H12 := Lib.hid (H11.out.below HB12.out)
  have HV12 := Lib.hid (HV11.out.trans (Adv.of_below S9 HB12.out))
  clear hm12 z0 z10 y0 y6
  go_wp2_with fail
  refine (A7.out _ w12 H12.out).mono ?_
  rintro en w13 ⟨rfl, rfl⟩
  go_wp2_with fail
  refine (A8.out _ w12 H12.out).mono ?_
  rintro en w13 ⟨rfl, rfl⟩
  go_wp2_with fail
  refine (A9.out _ w12 H12.out).mono ?_
  rintro en w13 ⟨ma, rfl, hom, hb13⟩
  unfold machV machC
  rw [HQ.out]
  have HV13 := Lib.hid (HV12.out.trans (Adv.of_below S9 hb13))
  clear hom hb13
  have hf1 : ∀ w : World, (Instr.field 33 (.agg #[.slice ma.o.A0 m3.o.reg.length ma.o.c0, .slice ma.o.A1 1 ma.o.c1, .slice ma.o.A2 m3.o.lk.length ma.o.c2, .slice ma.o.A3 m3.o.mp.length ma.o.c3, .slice ma.At m3.t.length ma.ct]) 0).run Tryz.prog w = .ok (.agg #[.slice ma.o.A0 m3.o.reg.length ma.o.c0, .slice ma.o.A1 1 ma.o.c1, .slice ma.o.A2 m3.o.lk.length ma.o.c2, .slice ma.o.A3 m3.o.mp.length ma.o.c3]) w := fun w => by kernel_rfl
  have hf2 : ∀ w : World, (Instr.field 30 (.agg #[.slice ma.o.A0 m3.o.reg.length ma.o.c0, .slice ma.o.A1 1 ma.o.c1, .slice ma.o.A2 m3.o.lk.length ma.o.c2, .slice ma.o.A3 m3.o.mp.length ma.o.c3]) 1).run Tryz.prog w = .ok (.slice ma.o.A1 1 ma.o.c1) w := fun w => by kernel_rfl
  go_wp2_with fail
  go_ret
  exact ⟨rfl, HV13.out.below HB1.out HS1.out⟩
end Go.Proofs.YtaknfmionkkdjaaGreat

namespace Go.Proofs.YtaknfmionkkdjaaGreat
open Go.RowKit
set_option linter.unusedVariables false
namespace Bk
def playL : List En → Int → Mc → Mc × List Dn
  | [], _, m => (m, [])
  | e :: l, n, m =>
    let r := m.step e
    let q := playL l (n + 1) r.m
    (q.1, ⟨n + 1, e, r⟩ :: q.2)
theorem play_L (f : Int → Option En) : ∀ (c : Nat) (n : Int) (m : Mc), play f c n m = playL (rest f c n) n m
  | 0, n, m => rfl
  | c + 1, n, m => by simp only [play, rest, playL, play_L f c]
theorem playL_append : ∀ (l l2 : List En) (n : Int) (m : Mc), playL (l ++ l2) n m = ((playL l2 (n + l.length) (playL l n m).1).1, (playL l n m).2 ++ (playL l2 (n + l.length) (playL l n m).1).2)
  | [], l2, n, m => by simp [playL]
  | e :: l, l2, n, m => by
    have h := playL_append l l2 (n + 1) (m.step e).m
    simp only [List.cons_append, playL]
    rw [h]
    have e1 : n + 1 + (l.length : Int) = n + ((e :: l).length : Int) := by simp; omega
    rw [e1]
theorem playL_len : ∀ (l : List En) (n : Int) (m : Mc), (playL l n m).2.length = l.length
  | [], n, m => rfl
  | e :: l, n, m => by simp only [playL, List.length_cons, playL_len l]
theorem playL_at : ∀ (l : List En) (n : Int) (m : Mc) (j : Nat) (d : Dn), (playL l n m).2[j]? = some d → d.i = n + 1 + j ∧ l[j]? = some d.e
  | [], n, m, j, d, h => by simp [playL] at h
  | e :: l, n, m, 0, d, h => by
    simp only [playL, List.getElem?_cons_zero, Option.some.injEq] at h
    subst h
    simp
  | e :: l, n, m, j + 1, d, h => by
    simp only [playL, List.getElem?_cons_succ] at h
    have := playL_at l (n + 1) _ j d h
    refine ⟨by omega, by simpa using this.2⟩
theorem playL_ok : ∀ (l : List En) (n : Int) (m : Mc), m.Ok → (∀ e ∈ l, e.c.Fits) → (playL l n m).1.Ok ∧ ∀ d ∈ (playL l n m).2, d.e.c.Fits ∧ d.r.v.length ≤ 16 ∧ ∀ x ∈ d.r.v, x < 256
  | [], n, m, h, _ => ⟨h, by simp [playL]⟩
  | e :: l, n, m, h, hf => by
    have he := hf e (by simp)
    have ih := playL_ok l (n + 1) (m.step e).m (Mc.Ok.step h he) (fun x hx => hf x (by simp [hx]))
    refine ⟨ih.1, fun d hd => ?_⟩
    simp only [playL, List.mem_cons] at hd
    rcases hd with rfl | hd
    · exact ⟨he, Mc.step_v h⟩
    · exact ih.2 d hd
theorem playL_snoc (l : List En) (e : En) (n : Int) (m : Mc) : playL (l ++ [e]) n m = (((playL l n m).1.step e).m, (playL l n m).2 ++ [⟨n + l.length + 1, e, (playL l n m).1.step e⟩]) := by
  rw [playL_append]
  rfl
end Bk
/-- a result's three cells -/
def resL (A : Option Addr) (c : Nat) (r : MAns) : List Value := [.int .i64 r.e, .slice A r.v.length c, .int .i64 r.n]
theorem resL_length (A : Option Addr) (c : Nat) (r : MAns) : (resL A c r).length = 3 := rfl
theorem resL_one (A : Option Addr) (c : Nat) (r : MAns) : ∀ u ∈ resL A c r, u.oneCell' = true := by
  intro u hu
  unfold resL at hu
  simp only [List.mem_cons, List.not_mem_nil, or_false] at hu
  rcases hu with rfl | rfl | rfl <;> rfl
theorem resL_lt {A : Option Addr} {c : Nat} {r : MAns} {j : Nat} {v : Value} (h : (resL A c r)[j]? = some v) : j < 3 := by
  rcases Nat.lt_or_ge j 3 with h' | h'
  · exact h'
  · rw [List.getElem?_eq_none (by rw [resL_length]; exact h')] at h; cases h
structure CellsR (R : Option Addr → Nat → List Nat → Prop) (vs : List Value) (rs : List MAns) : Prop where
  len : vs.length = rs.length * 3
  cell : ∀ (i : Nat) (r : MAns), rs[i]? = some r → ∃ A c, (∀ j v, (resL A c r)[j]? = some v → vs[i * 3 + j]? = some v) ∧ R A c r.v
section
variable {R S : Option Addr → Nat → List Nat → Prop} {vs ws : List Value} {rs ts : List MAns}
theorem CellsR.imp (h : CellsR R vs rs) (hR : ∀ A c l, R A c l → S A c l) : CellsR S vs rs :=
  ⟨h.len, fun i d hd => by obtain ⟨A, c, h1, h2⟩ := h.cell i d hd; exact ⟨A, c, h1, hR _ _ _ h2⟩⟩
theorem CellsR.nil : CellsR R [] [] := ⟨rfl, fun i e h => by simp at h⟩
theorem CellsR.one {A : Option Addr} {c : Nat} {r : MAns} (h : R A c r.v) : CellsR R (resL A c r) [r] :=
  ⟨rfl, fun i e' he => by
    cases i with
    | zero => simp at he; subst he; exact ⟨A, c, fun j v hv => by simpa using hv, h⟩
    | succ i => simp at he⟩
theorem CellsR.append (h : CellsR R vs rs) (h' : CellsR R ws ts) : CellsR R (vs ++ ws) (rs ++ ts) := by
  refine ⟨by rw [List.length_append, List.length_append, h.len, h'.len, Nat.add_mul], fun i d hd => ?_⟩
  by_cases hi : i < rs.length
  · rw [List.getElem?_append_left hi] at hd
    obtain ⟨A, c, h1, h2⟩ := h.cell i d hd
    refine ⟨A, c, fun j v hv => ?_, h2⟩
    have hj := resL_lt hv
    rw [List.getElem?_append_left (by rw [h.len]; omega)]
    exact h1 j v hv
  · rw [List.getElem?_append_right (by omega)] at hd
    obtain ⟨A, c, h1, h2⟩ := h'.cell _ d hd
    refine ⟨A, c, fun j v hv => ?_, h2⟩
    rw [List.getElem?_append_right (by rw [h.len]; omega), h.len, show i * 3 + j - rs.length * 3 = (i - rs.length) * 3 + j by omega]
    exact h1 j v hv
end
theorem cellR3 : CellS Tryz.prog 73 47 (.agg #[.int .i64 0, .slice none 0 0, .int .i64 0]) 3 40 := ⟨Tryz.underlying73, by kernel_rfl, rfl, by omega⟩
def OwnRs (W w : World) (A : Option Addr) (n c : Nat) (rs : List MAns) : Prop := ∃ vs, w.ownsRow W.heap.size 47 3 (.slice A n c) n vs ∧ CellsR (fun A c l => OwnB W w A l.length c l) vs rs
section
variable {W w w' : World} {A : Option Addr} {n c k : Nat} {rs : List MAns}
theorem OwnRs.nil (W w : World) : OwnRs W w none 0 0 [] := ⟨[], ⟨rfl, .inl ⟨rfl, rfl⟩⟩, CellsR.nil⟩
theorem OwnRs.below (h : OwnRs W w A n c rs) (hb : Below w.heap.size w w') : OwnRs W w' A n c rs := by
  obtain ⟨vs, h1, h2⟩ := h
  exact ⟨vs, ownsRow_below h1 hb, h2.imp fun _ _ _ h => ownsRow_below h hb⟩
theorem OwnRs.keeps {S : Nat → Prop} {T : List TypeId} (h : OwnRs W w A n c rs) (hk : Keeps S w w') (ho : Of S T w) (h1 : 5 ∉ T) (h2 : 47 ∉ T) : OwnRs W w' A n c rs := by
  obtain ⟨vs, q1, q2⟩ := h
  exact ⟨vs, ownsRow_keeps q1 hk ho h2, q2.imp fun _ _ _ h => ownsRow_keeps h hk ho h1⟩
theorem OwnRs.len (h : OwnRs W w A n c rs) : rs.length = n := by
  obtain ⟨vs, h1, h2⟩ := h
  have := h2.len
  rw [h1.1] at this
  omega
theorem OwnRs.snoc {A2 : Option Addr} {c2 : Nat} {vs : List Value} {A1 : Option Addr} {c1 : Nat} {r : MAns} (ho : w.ownsRow W.heap.size 47 3 (.slice A n c) n vs) (hc : CellsR (fun A c l => OwnB W w A l.length c l) vs rs) (hv : OwnB W w A1 r.v.length c1 r.v)
    (hg : w.grownBy w' (Value.slice A n c).ownBlock) (ho2 : w'.ownsRow W.heap.size 47 3 (.slice A2 (n + 1) c2) (n + 1) (vs ++ resL A1 c1 r)) : OwnRs W w' A2 (n + 1) c2 (rs ++ [r]) := by
  have hk2 : ∀ {A : Option Addr} {c : Nat} {l : List Nat}, OwnB W w A l.length c l → OwnB W w' A l.length c l := fun h => own_grown_t h ho (by decide) hg
  exact ⟨vs ++ resL A1 c1 r, ho2, (hc.imp fun _ _ _ h => hk2 h).append (CellsR.one (R := fun A c l => OwnB W w' A l.length c l) (hk2 hv))⟩
/-- one of it -/
theorem OwnRs.at (h : OwnRs W w A n c rs) (hk : k < n) : ∃ b o r A1 c1, A = some ⟨b, o, none⟩ ∧ rs[k]? = some r ∧ w.rangeAt b (o + k * 3) (resL A1 c1 r) ∧ Rd w w.heap.size A1 r.v.length (bv r.v) := by
  have hlen := h.len
  obtain ⟨vs, h1, h2⟩ := h
  obtain ⟨b, o, e, _, hc⟩ := (Rd.ownS h1 (by omega)).2 (by omega)
  obtain ⟨d, hd⟩ : ∃ d, rs[k]? = some d := ⟨_, List.getElem?_eq_getElem (by omega)⟩
  obtain ⟨A1, c1, e1, r2⟩ := h2.cell k d hd
  refine ⟨b, o, d, A1, c1, e, hd, fun j v hv => ?_, Rd.own_ r2⟩
  have hj := resL_lt hv
  rw [Nat.add_assoc, hc _ (by omega), e1 j v hv]
end
theorem Rd.resAt (w : World) (A : Option Addr) (c : Nat) (r : MAns) (t : TypeId) {g : Nat} (hg : w.heap.size = g) : Rd (w.alloc (.cells #[.int .i64 r.e, .slice A r.v.length c, .int .i64 r.n] t)) (g + 1) (some ⟨g, 0, none⟩) (1 * 3) (resL A c r) := by
  subst hg; exact Rd.made w #[.int .i64 r.e, .slice A r.v.length c, .int .i64 r.n] t (0, 0) 3 rfl
/-- a row of what was done goes behind another -/
theorem OwnDs.append {W w w' : World} {A A2 : Option Addr} {n c c2 m : Nat} {vs ws : List Value} {ds es : List Bk.Dn} (ho : w.ownsRow W.heap.size 49 11 (.slice A n c) n vs) (hc : CellsD (fun a k => OwnC W w a k) (fun A c l => OwnB W w A l.length c l) vs ds) (hd : CellsD (fun a k => OwnC W w a k) (fun A c l => OwnB W w A l.length c l) ws es)
    (hg : w.grownBy w' (Value.slice A n c).ownBlock) (ho2 : w'.ownsRow W.heap.size 49 11 (.slice A2 (n + m) c2) (n + m) (vs ++ ws)) : OwnDs W w' A2 (n + m) c2 (ds ++ es) := by
  have hk : ∀ {a : CA} {k : Cm}, OwnC W w a k → OwnC W w' a k := fun h => ⟨own_grown_t h.k ho (by decide) hg, own_grown_t h.v ho (by decide) hg, own_grown_t h.o ho (by decide) hg⟩
  have hk2 : ∀ {A : Option Addr} {c : Nat} {l : List Nat}, OwnB W w A l.length c l → OwnB W w' A l.length c l := fun h => own_grown_t h ho (by decide) hg
  exact ⟨vs ++ ws, ho2, (hc.imp (fun _ _ h => hk h) (fun _ _ _ h => hk2 h)).append (hd.imp (fun _ _ h => hk h) (fun _ _ _ h => hk2 h))⟩
/-- a row of the call's own; the bytes of its entries lie in blocks of bytes -/
def OwnE9 (W w : World) (A : Option Addr) (n c : Nat) (es : List En) : Prop := ∃ vs, w.ownsRow W.heap.size 40 7 (.slice A n c) n vs ∧ CellsE (fun a k => RdC9 w a k) vs es
section
variable {W w w' : World} {A : Option Addr} {n c : Nat} {es : List En}
theorem OwnE9.nil (W w : World) : OwnE9 W w none 0 0 [] := ⟨[], ⟨rfl, .inl ⟨rfl, rfl⟩⟩, CellsE.nil⟩
theorem OwnE9.below (h : OwnE9 W w A n c es) (hb : Below w.heap.size w w') : OwnE9 W w' A n c es := by
  obtain ⟨vs, h1, h2⟩ := h
  exact ⟨vs, ownsRow_below h1 hb, h2.imp fun _ _ h => h.below hb⟩
theorem OwnE9.rd (h : OwnE9 W w A n c es) : RdE w w.heap.size A n es := by
  obtain ⟨vs, h1, h2⟩ := h
  exact ⟨vs, Rd.ownS h1 (by omega), h2.imp fun _ _ h => h.rd⟩
theorem OwnE9.cap (h : OwnE9 W w A n c es) : n ≤ c ∧ c ≤ maxLen := by obtain ⟨vs, h1, _⟩ := h; exact own_cap h1
theorem OwnE9.snoc {A2 : Option Addr} {c2 : Nat} {vs : List Value} {a : CA} {e : En} (ho : w.ownsRow W.heap.size 40 7 (.slice A n c) n vs) (hc : CellsE (fun a k => RdC9 w a k) vs es) (hr : RdC9 w a e.c)
    (hg : w.grownBy w' (Value.slice A n c).ownBlock) (ho2 : w'.ownsRow W.heap.size 40 7 (.slice A2 (n + 1) c2) (n + 1) (vs ++ entL a e)) : OwnE9 W w' A2 (n + 1) c2 (es ++ [e]) := by
  have kk : Keeps (fun q => (Value.slice A n c).ownBlock = some q) w w' := Keeps.of_grown hg (fun q hq => hq)
  have oo : Of (fun q => (Value.slice A n c).ownBlock = some q) [40] w := fun q hq _ => by
    rcases own_blk ho with ⟨h6, h7⟩ | ⟨g', cur, h6, hgb, hk'⟩
    · rw [h6] at hq; simp [Value.ownBlock] at hq
    · rw [h6] at hq
      have : g' = q := by simpa [Value.ownBlock] using hq
      subst this
      exact ⟨_, _, _, hk', by simp⟩
  exact ⟨vs ++ entL a e, ho2, (hc.imp fun _ _ h => h.keeps kk oo (by decide)).append (CellsE.one (R := fun a k => RdC9 w' a k) (hr.keeps kk oo (by decide)))⟩
end
end Go.Proofs.YtaknfmionkkdjaaGreat

