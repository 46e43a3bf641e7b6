/- RefFold -/
import Derived.Test.YtaknfmionkkdjaaGreatFO26
import Derived.Test.YtaknfmionkkdjaaGreatFO51
namespace Go.Proofs.YtaknfmionkkdjaaGreat
open Go.RowKit
set_option linter.unusedVariables false
theorem range5b {w : World} {b : Nat} {t : TypeId} {x0 x1 x2 x3 x4 : Value} (h : Blk w b t #[x0, x1, x2, x3, x4]) : w.rangeAt b 0 [x0, x1, x2, x3, x4] := fun q v hv => by
  rw [h.cell]
  match q with
  | 0 => simpa using hv
  | 1 => simpa using hv
  | 2 => simpa using hv
  | 3 => simpa using hv
  | 4 => simpa using hv
  | q + 5 => simp at hv
set_option maxHeartbeats 16000000 in
set_option maxRecDepth 100000 in
theorem refFold (w : World) {A : Option Addr} {n c : Nat} {es : List En} (hn : n ≤ 1000000) (hf : ∀ e ∈ es, e.c.Fits) (h : RdE w w.heap.size A n es) :
    Calls Tryz.prog 31 #[.slice A n c] w fun en w' => ∃ a A' c', en = .returned (.tuple #[machV a (Bk.playL es 0 Mc.zero).1, .slice A' n c']) ∧ OwnM w w' a (Bk.playL es 0 Mc.zero).1 ∧ OwnRs w w' A' n c' ((Bk.playL es 0 Mc.zero).2.map (·.r)) ∧ Below w.heap.size w w' := by
  have H := Lib.hid h
  have HF := Lib.hid hf
  have hn2 : (n : Int) ≤ 1000000 := by omega
  have HL := Lib.hid h.length
  obtain ⟨FM, hFM⟩ : ∃ x, (Bk.playL es 0 Mc.zero).1 = x := ⟨_, rfl⟩
  obtain ⟨FR, hFR⟩ : ∃ x, (Bk.playL es 0 Mc.zero).2.map (·.r) = x := ⟨_, rfl⟩
  rw [hFM, hFR]
  have HFM := Lib.hid (And.intro hFM hFR)
  clear h hf hFM hFR
  go_enter Tryz.func31, Tryz.ntmps31
  go_upto_region 1 with fail
  obtain ⟨g2, w1, hgE, hwE, hbE, hkE⟩ := alloced w #[.slice none 0 0, .slice none 0 0, .slice none 0 0, .slice none 0 0, .slice none 0 0] 33
  rw [hgE, hwE]
  have HB1 := Lib.hid hbE
  have HK2 := Lib.hid hkE
  have HG2 := Lib.hid hgE
  clear hgE hwE hbE hkE
  go_upto_region 2 with (first
    | (refine wpList_store_row rfl 33 (.tmp 4) (.tmp 9) rfl w1.heap.size #[.slice none 0 0, .slice none 0 0, .slice none 0 0, .slice none 0 0, .slice none 0 0] rfl rfl 33 #[.slice none 0 0, .slice none 0 0, .slice none 0 0, .slice none 0 0, .slice none 0 0] (Blk.new w1 33 #[.slice none 0 0, .slice none 0 0, .slice none 0 0, .slice none 0 0, .slice none 0 0]) (by kernel_rfl) rfl (by kernel_rfl) ?_)
    | fail)
  obtain ⟨g4, w2, hg4, hw2, hb2, hk4⟩ := boxed w1 #[.slice none 0 0, .slice none 0 0, .slice none 0 0, .slice none 0 0, .slice none 0 0] #[.slice none 0 0, .slice none 0 0, .slice none 0 0, .slice none 0 0, .slice none 0 0] 33
  rw [hg4, hw2]
  have HB2 := Lib.hid (HB1.out.trans (hb2.mono HB1.out.size))
  have HK22 := Lib.hid (HK2.out.below hb2)
  have HK4 := Lib.hid hk4
  have HG4 := Lib.hid (show w.heap.size ≤ g4 ∧ g2 ≠ g4 by rw [← hg4]; exact ⟨HB1.out.size, by have := HK2.out.lt; omega⟩)
  clear hg4 hw2 hb2 hk4 HB1 HK2
  go_wp2_with fail
  go_loopw [5, 6] (fun s5 s6 wr => ∃ (j : Nat) (A1 : Option Addr) (c1 : Nat) (am : MA) (m : Mc), j ≤ n ∧ s6 = .int .i64 (j : Int) ∧ s5 = .slice A1 j c1 ∧ Hid (m = (Bk.playL (es.take j) 0 Mc.zero).1) ∧ Hid (Blk wr g4 33 #[.slice am.o.A0 m.o.reg.length am.o.c0, .slice am.o.A1 m.o.q.length am.o.c1, .slice am.o.A2 m.o.lk.length am.o.c2, .slice am.o.A3 m.o.mp.length am.o.c3, .slice am.At m.t.length am.ct]) ∧ Hid (Blk wr g2 33 #[.slice none 0 0, .slice none 0 0, .slice none 0 0, .slice none 0 0, .slice none 0 0]) ∧ Hid (OwnM w wr am m) ∧ Hid (OwnRs w wr A1 j c1 ((Bk.playL (es.take j) 0 Mc.zero).2.map (·.r))) ∧ Hid (Below w.heap.size w wr)) (fun _ s6 _ => n - (intOf s6).toNat)
  case atStart => exact ⟨0, none, 0, ⟨⟨none, 0, none, 0, none, 0, none, 0⟩, none, 0⟩, Mc.zero, Nat.zero_le _, rfl, rfl, Lib.hid rfl, HK4, HK22, Lib.hid (OwnM.zero _ _), Lib.hid (OwnRs.nil _ _), HB2⟩
  case round =>
    clear HK4 HK22 HB2
    obtain ⟨j, A1, c1, am, m, hj, rfl, rfl, HM, HK4, HK2, HOM, HOR, HB⟩ := hrel
    have hwj : IntKind.i64.wrap ((j : Int) + 1) = (j : Int) + 1 := IntWalk.i64_in _ (by omega)
    by_cases hlt : j < n
    · have hji : (j : Int) < (n : Int) := by omega
      have hj0 : (0 : Int) ≤ (j : Int) := by omega
      obtain ⟨gb, ob, e, ca, rfl, hel, ⟨y0, y1, y2, y3, y4, y5, y6⟩, hrc⟩ := ((H.out.below HB.out).fit).at hlt
      have hrg : wr.rangeAt gb (ob + j * 7) [.int .i64 e.s, .int .i64 e.q, .int .i64 e.c.kind, .int .i64 e.c.who, .slice ca.Ak e.c.key.length ca.ck, .slice ca.Av e.c.val.length ca.cv, .slice ca.Ao e.c.old.length ca.co] := fun q v hv => by
        match q with
        | 0 => simp at hv; subst hv; exact y0
        | 1 => simp at hv; subst hv; exact y1
        | 2 => simp at hv; subst hv; exact y2
        | 3 => simp at hv; subst hv; exact y3
        | 4 => simp at hv; subst hv; exact y4
        | 5 => simp at hv; subst hv; exact y5
        | 6 => simp at hv; subst hv; exact y6
        | q + 7 => simp at hv
      have HRG := Lib.hid hrg
      have HRC := Lib.hid hrc
      have hfe := HF.out e (List.mem_of_getElem? hel)
      have htk : es.take (j + 1) = es.take j ++ [e] := by rw [List.take_add_one, hel]; rfl
      have hmo : m.Ok := by rw [HM.out]; exact (Bk.playL_ok _ 0 _ Mc.Ok.zero (fun x hx => HF.out x (List.mem_of_mem_take hx))).1
      obtain ⟨r, hr⟩ : ∃ r, m.step e = r := ⟨_, rfl⟩
      have hsn := Bk.playL_snoc (es.take j) e 0 Mc.zero
      rw [← htk, ← HM.out, hr] at hsn
      have HSN := Lib.hid hsn
      have HST : Hid (∀ wx, Below wr.drew.heap.size wr.drew wx → Calls Tryz.prog 37 #[.agg #[.slice am.o.A0 m.o.reg.length am.o.c0, .slice am.o.A1 m.o.q.length am.o.c1, .slice am.o.A2 m.o.lk.length am.o.c2, .slice am.o.A3 m.o.mp.length am.o.c3, .slice am.At m.t.length am.ct], .agg #[.int .i64 e.s, .int .i64 e.q, .int .i64 e.c.kind, .int .i64 e.c.who, .slice ca.Ak e.c.key.length ca.ck, .slice ca.Av e.c.val.length ca.cv, .slice ca.Ao e.c.old.length ca.co]] wx (GotM wr.drew wx r)) := Lib.hid (fun wx hb => by
        have hb' : Below wr.heap.size wr wx := (Below.refl wr.heap.size wr).drew.trans (hb.mono (Nat.le_refl _))
        have := refStep_any (W := wr.drew) (w := wx) hmo hfe ((HOM.out.below hb').rd) (hrc.below hb') hb
        rw [hr] at this
        exact this)
      have HJN := Lib.hid hji
      clear hel hrg hrc hfe htk hmo hr hsn y0 y1 y2 y3 y4 y5 y6
      go_upto_region 6 with fail
      go_cut [7, 8] from 16 to 24 (fun s7 s8 wx => ∃ (g6 g7 : Nat) (a2 : MA) (A2 : Option Addr) (c2 : Nat), s7 = .pointer (some ⟨g6, 0, none⟩) ∧ s8 = .pointer (some ⟨g7, 0, none⟩) ∧ Hid (StC wr.drew wx g6 g7 a2 A2 c2 r))
      case first =>
        obtain ⟨w4, hw4⟩ : ∃ w4, w4 = wr.drew := ⟨_, rfl⟩
        rw [← hw4] at HST
        have HW4 := Lib.hid hw4
        have HRB : Hid (∀ wx, Below w4.heap.size w4 wx → wx.rangeAt g4 0 [.slice am.o.A0 m.o.reg.length am.o.c0, .slice am.o.A1 m.o.q.length am.o.c1, .slice am.o.A2 m.o.lk.length am.o.c2, .slice am.o.A3 m.o.mp.length am.o.c3, .slice am.At m.t.length am.ct]) := Lib.hid (fun wx hb => range5b (Blk.below (by rw [hw4]; exact HK4.out.drew) hb))
        have HRE : Hid (∀ wx, Below w4.heap.size w4 wx → wx.rangeAt gb (ob + j * 7) [.int .i64 e.s, .int .i64 e.q, .int .i64 e.c.kind, .int .i64 e.c.who, .slice ca.Ak e.c.key.length ca.ck, .slice ca.Av e.c.val.length ca.cv, .slice ca.Ao e.c.old.length ca.co]) := Lib.hid (fun wx hb q v hv => by
          have q1 := HRG.out q v hv
          have q2 : w4.cell? ⟨gb, ob + j * 7 + q, none⟩ = some v := by rw [hw4]; exact q1
          exact (Below.cell hb (p := ⟨gb, ob + j * 7 + q, none⟩) (World.block_lt_of_cell? _ _ q2)).trans q2)
        have hS := Lib.hid (Below.refl w4.heap.size w4)
        refine wp_region_held_drew (S := fun wq => Below w4.heap.size w4 wq) (by kernel_rfl) (by rw [← hw4]; exact hS.out) (fun _ => ?_)
        rw [← hw4]
        clear hw4 HRG HRC HOM HOR
        refine wpAnyH_take (i := 0) (v := .agg #[.slice am.o.A0 m.o.reg.length am.o.c0, .slice am.o.A1 m.o.q.length am.o.c1, .slice am.o.A2 m.o.lk.length am.o.c2, .slice am.o.A3 m.o.mp.length am.o.c3, .slice am.At m.t.length am.ct]) rfl (by kernel_rfl) (by kernel_rfl) (by kernel_rfl) (fun _ _ _ h => h) (yieldsIf_load_mid (by kernel_rfl) 33 (.tmp 4) rfl g4 0 rfl [.slice am.o.A0 m.o.reg.length am.o.c0, .slice am.o.A1 m.o.q.length am.o.c1, .slice am.o.A2 m.o.lk.length am.o.c2, .slice am.o.A3 m.o.mp.length am.o.c3, .slice am.At m.t.length am.ct] _ (fun _ h => HRB.out _ h) Tryz.underlying33 rfl (by kernel_rfl)) hS.out ?_
        refine wpAnyH_take (i := 1) (v := .slice (some ⟨gb, ob, none⟩) n c) rfl (by kernel_rfl) (by kernel_rfl) (by kernel_rfl) (fun _ _ _ h => h) (Or.inl ⟨by kernel_rfl, fun w _ => by go_simp⟩) hS.out ?_
        refine wpAnyH_take (i := 2) (v := .int .i64 (j : Int)) rfl (by kernel_rfl) (by kernel_rfl) (by kernel_rfl) (fun _ _ _ h => h) (Or.inl ⟨by kernel_rfl, fun w _ => by go_simp⟩) hS.out ?_
        refine wpAnyH_take (i := 3) (v := .pointer (some ⟨gb, ob + j * 7, none⟩)) rfl (by kernel_rfl) (by kernel_rfl) (by kernel_rfl) (fun _ _ _ h => h) (Or.inl ⟨by kernel_rfl, fun w _ => by have hjn := HJN.out; go_simp⟩) hS.out ?_
        refine wpAnyH_take (i := 4) (v := .agg #[.int .i64 e.s, .int .i64 e.q, .int .i64 e.c.kind, .int .i64 e.c.who, .slice ca.Ak e.c.key.length ca.ck, .slice ca.Av e.c.val.length ca.cv, .slice ca.Ao e.c.old.length ca.co]) rfl (by kernel_rfl) (by kernel_rfl) (by kernel_rfl) (fun _ _ _ h => h) (yieldsIf_load_mid (by kernel_rfl) 40 (.tmp 20) rfl gb (ob + j * 7) rfl [.int .i64 e.s, .int .i64 e.q, .int .i64 e.c.kind, .int .i64 e.c.who, .slice ca.Ak e.c.key.length ca.ck, .slice ca.Av e.c.val.length ca.cv, .slice ca.Ao e.c.old.length ca.co] _ (fun _ h => HRE.out _ h) Tryz.underlying40 rfl (by kernel_rfl)) hS.out ?_
        refine wpAnyH_ready (rs := [5, 9, 10]) (by kernel_rfl) (by simp) ?_
        refine AllReadyH.cons rfl (fun K hK => ?_) (AllReadyH.cons rfl (fun K hK => ?_) (AllReadyH.cons rfl (fun K hK => ?_) AllReadyH.nil))
        · go_simp
          refine (HST.out _ hS.out).mono ?_
          rintro en w5 ⟨a2, A2, c2, rfl, hm5, hv5, hB5, hb5⟩
          unfold machV machC resV
          have hS := Lib.hid (hS.out.trans (hb5.mono hS.out.size))
          go_simp
          refine hK.out _ _ hS.out (fun _ => ?_)
          clear hK K
          refine wpAnyH_take (i := 6) (v := .tuple #[.agg #[.slice a2.o.A0 r.m.o.reg.length a2.o.c0, .slice a2.o.A1 r.m.o.q.length a2.o.c1, .slice a2.o.A2 r.m.o.lk.length a2.o.c2, .slice a2.o.A3 r.m.o.mp.length a2.o.c3, .slice a2.At r.m.t.length a2.ct], .agg #[.int .i64 r.e, .slice A2 r.v.length c2, .int .i64 r.n]]) rfl (by kernel_rfl) (by kernel_rfl) (by kernel_rfl) (fun _ _ _ h => h) (Or.inl ⟨by kernel_rfl, fun w _ => by go_simp⟩) hS.out ?_
          refine wpAnyH_take (i := 7) (v := .agg #[.slice a2.o.A0 r.m.o.reg.length a2.o.c0, .slice a2.o.A1 r.m.o.q.length a2.o.c1, .slice a2.o.A2 r.m.o.lk.length a2.o.c2, .slice a2.o.A3 r.m.o.mp.length a2.o.c3, .slice a2.At r.m.t.length a2.ct]) rfl (by kernel_rfl) (by kernel_rfl) (by kernel_rfl) (fun _ _ _ h => h) (Or.inl ⟨by kernel_rfl, fun w _ => by go_simp⟩) hS.out ?_
          refine wpAnyH_take (i := 8) (v := .agg #[.int .i64 r.e, .slice A2 r.v.length c2, .int .i64 r.n]) rfl (by kernel_rfl) (by kernel_rfl) (by kernel_rfl) (fun _ _ _ h => h) (Or.inl ⟨by kernel_rfl, fun w _ => by go_simp⟩) hS.out ?_
          refine wpAnyH_ready (rs := [9, 10]) (by kernel_rfl) (by simp) ?_
          refine AllReadyH.cons rfl (fun K hK => ?_) (AllReadyH.cons rfl (fun K hK => ?_) AllReadyH.nil)
          · go_simp
            obtain ⟨g6, wa9, hg6, hwa6, hbn, hk6⟩ := alloced w5 #[.slice none 0 0, .slice none 0 0, .slice none 0 0, .slice none 0 0, .slice none 0 0] 33
            have hq6 : w4.heap.size ≤ g6 := by rw [← hg6]; exact hS.out.size
            rw [hg6, hwa6]
            have hS := Lib.hid (hS.out.trans (hbn.mono hS.out.size))
            have hm5 := hm5.below hbn
            have hv5 := own_below hv5 hbn
            clear hg6 hwa6 hbn
            refine hK.out _ _ hS.out (fun _ => ?_)
            clear hK K
            refine wpAnyH_ready (rs := [10]) (by kernel_rfl) (by simp) ?_
            refine AllReadyH.cons rfl (fun K hK => ?_) AllReadyH.nil
            · go_simp
              obtain ⟨g7, wa10, hg7, hwa7, hbn, hk7⟩ := alloced wa9 #[.int .i64 0, .slice none 0 0, .int .i64 0] 47
              have hq7 : w4.heap.size ≤ g7 := by rw [← hg7]; exact hS.out.size
              rw [hg7, hwa7]
              have hS := Lib.hid (hS.out.trans (hbn.mono hS.out.size))
              have hm5 := hm5.below hbn
              have hv5 := own_below hv5 hbn
              have hk6 := hk6.below hbn
              clear hg7 hwa7 hbn
              refine hK.out _ _ hS.out (fun _ => ?_)
              clear hK K
              obtain ⟨z7, zb, zs⟩ := StC.mk2 hk6 hk7 hm5 hv5 hS.out hq6 hq7
              refine wpAnyH_ready (rs := [11]) (by kernel_rfl) (by simp) ?_
              refine AllReadyH.cons rfl (fun K hK => ?_) AllReadyH.nil
              refine wp_store_row 33 (.tmp 7) (.tmp 23) rfl g6 #[.slice a2.o.A0 r.m.o.reg.length a2.o.c0, .slice a2.o.A1 r.m.o.q.length a2.o.c1, .slice a2.o.A2 r.m.o.lk.length a2.o.c2, .slice a2.o.A3 r.m.o.mp.length a2.o.c3, .slice a2.At r.m.t.length a2.ct] rfl rfl 33 #[.slice none 0 0, .slice none 0 0, .slice none 0 0, .slice none 0 0, .slice none 0 0] hk6 (by kernel_rfl) rfl (by kernel_rfl) ?_
              refine hK.out _ _ zb (fun _ => ?_)
              clear hK K
              refine wpAnyH_ready (rs := [12]) (by kernel_rfl) (by simp) ?_
              refine AllReadyH.cons rfl (fun K hK => ?_) AllReadyH.nil
              refine wp_store_row 47 (.tmp 8) (.tmp 24) rfl g7 #[.int .i64 r.e, .slice A2 r.v.length c2, .int .i64 r.n] rfl rfl 47 #[.int .i64 0, .slice none 0 0, .int .i64 0] z7 (by kernel_rfl) rfl (by kernel_rfl) ?_
              refine hK.out _ _ zs.bel (fun _ => ?_)
              clear hK K
              refine wpAnyH_done (by kernel_rfl) ?_ _
              go_simp
              go_wp2_with fail
              go_meet
              exact ⟨g6, g7, a2, A2, c2, rfl, rfl, Lib.hid (by rw [← HW4.out]; exact zs)⟩
          · go_simp
            obtain ⟨g7, wa10, hg7, hwa7, hbn, hk7⟩ := alloced w5 #[.int .i64 0, .slice none 0 0, .int .i64 0] 47
            have hq7 : w4.heap.size ≤ g7 := by rw [← hg7]; exact hS.out.size
            rw [hg7, hwa7]
            have hS := Lib.hid (hS.out.trans (hbn.mono hS.out.size))
            have hm5 := hm5.below hbn
            have hv5 := own_below hv5 hbn
            clear hg7 hwa7 hbn
            refine hK.out _ _ hS.out (fun _ => ?_)
            clear hK K
            refine wpAnyH_ready (rs := [9]) (by kernel_rfl) (by simp) ?_
            refine AllReadyH.cons rfl (fun K hK => ?_) AllReadyH.nil
            · go_simp
              obtain ⟨g6, wa9, hg6, hwa6, hbn, hk6⟩ := alloced wa10 #[.slice none 0 0, .slice none 0 0, .slice none 0 0, .slice none 0 0, .slice none 0 0] 33
              have hq6 : w4.heap.size ≤ g6 := by rw [← hg6]; exact hS.out.size
              rw [hg6, hwa6]
              have hS := Lib.hid (hS.out.trans (hbn.mono hS.out.size))
              have hm5 := hm5.below hbn
              have hv5 := own_below hv5 hbn
              have hk7 := hk7.below hbn
              clear hg6 hwa6 hbn
              refine hK.out _ _ hS.out (fun _ => ?_)
              clear hK K
              obtain ⟨z7, zb, zs⟩ := StC.mk2 hk6 hk7 hm5 hv5 hS.out hq6 hq7
              refine wpAnyH_ready (rs := [11]) (by kernel_rfl) (by simp) ?_
              refine AllReadyH.cons rfl (fun K hK => ?_) AllReadyH.nil
              refine wp_store_row 33 (.tmp 7) (.tmp 23) rfl g6 #[.slice a2.o.A0 r.m.o.reg.length a2.o.c0, .slice a2.o.A1 r.m.o.q.length a2.o.c1, .slice a2.o.A2 r.m.o.lk.length a2.o.c2, .slice a2.o.A3 r.m.o.mp.length a2.o.c3, .slice a2.At r.m.t.length a2.ct] rfl rfl 33 #[.slice none 0 0, .slice none 0 0, .slice none 0 0, .slice none 0 0, .slice none 0 0] hk6 (by kernel_rfl) rfl (by kernel_rfl) ?_
              refine hK.out _ _ zb (fun _ => ?_)
              clear hK K
              refine wpAnyH_ready (rs := [12]) (by kernel_rfl) (by simp) ?_
              refine AllReadyH.cons rfl (fun K hK => ?_) AllReadyH.nil
              refine wp_store_row 47 (.tmp 8) (.tmp 24) rfl g7 #[.int .i64 r.e, .slice A2 r.v.length c2, .int .i64 r.n] rfl rfl 47 #[.int .i64 0, .slice none 0 0, .int .i64 0] z7 (by kernel_rfl) rfl (by kernel_rfl) ?_
              refine hK.out _ _ zs.bel (fun _ => ?_)
              clear hK K
              refine wpAnyH_done (by kernel_rfl) ?_ _
              go_simp
              go_wp2_with fail
              go_meet
              exact ⟨g6, g7, a2, A2, c2, rfl, rfl, Lib.hid (by rw [← HW4.out]; exact zs)⟩
        · go_simp
          obtain ⟨g6, wa9, hg6, hwa6, hbn, hk6⟩ := alloced w4 #[.slice none 0 0, .slice none 0 0, .slice none 0 0, .slice none 0 0, .slice none 0 0] 33
          have hq6 : w4.heap.size ≤ g6 := by rw [← hg6]; exact hS.out.size
          rw [hg6, hwa6]
          have hS := Lib.hid (hS.out.trans (hbn.mono hS.out.size))
          clear hg6 hwa6 hbn
          refine hK.out _ _ hS.out (fun _ => ?_)
          clear hK K
          refine wpAnyH_ready (rs := [5, 10]) (by kernel_rfl) (by simp) ?_
          refine AllReadyH.cons rfl (fun K hK => ?_) (AllReadyH.cons rfl (fun K hK => ?_) AllReadyH.nil)
          · go_simp
            refine (HST.out _ hS.out).mono ?_
            rintro en w5 ⟨a2, A2, c2, rfl, hm5, hv5, hB5, hb5⟩
            unfold machV machC resV
            have hS := Lib.hid (hS.out.trans (hb5.mono hS.out.size))
            have hk6 := hk6.below hb5
            go_simp
            refine hK.out _ _ hS.out (fun _ => ?_)
            clear hK K
            refine wpAnyH_take (i := 6) (v := .tuple #[.agg #[.slice a2.o.A0 r.m.o.reg.length a2.o.c0, .slice a2.o.A1 r.m.o.q.length a2.o.c1, .slice a2.o.A2 r.m.o.lk.length a2.o.c2, .slice a2.o.A3 r.m.o.mp.length a2.o.c3, .slice a2.At r.m.t.length a2.ct], .agg #[.int .i64 r.e, .slice A2 r.v.length c2, .int .i64 r.n]]) rfl (by kernel_rfl) (by kernel_rfl) (by kernel_rfl) (fun _ _ _ h => h) (Or.inl ⟨by kernel_rfl, fun w _ => by go_simp⟩) hS.out ?_
            refine wpAnyH_take (i := 7) (v := .agg #[.slice a2.o.A0 r.m.o.reg.length a2.o.c0, .slice a2.o.A1 r.m.o.q.length a2.o.c1, .slice a2.o.A2 r.m.o.lk.length a2.o.c2, .slice a2.o.A3 r.m.o.mp.length a2.o.c3, .slice a2.At r.m.t.length a2.ct]) rfl (by kernel_rfl) (by kernel_rfl) (by kernel_rfl) (fun _ _ _ h => h) (Or.inl ⟨by kernel_rfl, fun w _ => by go_simp⟩) hS.out ?_
            refine wpAnyH_take (i := 8) (v := .agg #[.int .i64 r.e, .slice A2 r.v.length c2, .int .i64 r.n]) rfl (by kernel_rfl) (by kernel_rfl) (by kernel_rfl) (fun _ _ _ h => h) (Or.inl ⟨by kernel_rfl, fun w _ => by go_simp⟩) hS.out ?_
            refine wpAnyH_ready (rs := [10]) (by kernel_rfl) (by simp) ?_
            refine AllReadyH.cons rfl (fun K hK => ?_) AllReadyH.nil
            · go_simp
              obtain ⟨g7, wa10, hg7, hwa7, hbn, hk7⟩ := alloced w5 #[.int .i64 0, .slice none 0 0, .int .i64 0] 47
              have hq7 : w4.heap.size ≤ g7 := by rw [← hg7]; exact hS.out.size
              rw [hg7, hwa7]
              have hS := Lib.hid (hS.out.trans (hbn.mono hS.out.size))
              have hm5 := hm5.below hbn
              have hv5 := own_below hv5 hbn
              have hk6 := hk6.below hbn
              clear hg7 hwa7 hbn
              refine hK.out _ _ hS.out (fun _ => ?_)
              clear hK K
              obtain ⟨z7, zb, zs⟩ := StC.mk2 hk6 hk7 hm5 hv5 hS.out hq6 hq7
              refine wpAnyH_ready (rs := [11]) (by kernel_rfl) (by simp) ?_
              refine AllReadyH.cons rfl (fun K hK => ?_) AllReadyH.nil
              refine wp_store_row 33 (.tmp 7) (.tmp 23) rfl g6 #[.slice a2.o.A0 r.m.o.reg.length a2.o.c0, .slice a2.o.A1 r.m.o.q.length a2.o.c1, .slice a2.o.A2 r.m.o.lk.length a2.o.c2, .slice a2.o.A3 r.m.o.mp.length a2.o.c3, .slice a2.At r.m.t.length a2.ct] rfl rfl 33 #[.slice none 0 0, .slice none 0 0, .slice none 0 0, .slice none 0 0, .slice none 0 0] hk6 (by kernel_rfl) rfl (by kernel_rfl) ?_
              refine hK.out _ _ zb (fun _ => ?_)
              clear hK K
              refine wpAnyH_ready (rs := [12]) (by kernel_rfl) (by simp) ?_
              refine AllReadyH.cons rfl (fun K hK => ?_) AllReadyH.nil
              refine wp_store_row 47 (.tmp 8) (.tmp 24) rfl g7 #[.int .i64 r.e, .slice A2 r.v.length c2, .int .i64 r.n] rfl rfl 47 #[.int .i64 0, .slice none 0 0, .int .i64 0] z7 (by kernel_rfl) rfl (by kernel_rfl) ?_
              refine hK.out _ _ zs.bel (fun _ => ?_)
              clear hK K
              refine wpAnyH_done (by kernel_rfl) ?_ _
              go_simp
              go_wp2_with fail
              go_meet
              exact ⟨g6, g7, a2, A2, c2, rfl, rfl, Lib.hid (by rw [← HW4.out]; exact zs)⟩
          · go_simp
            obtain ⟨g7, wa10, hg7, hwa7, hbn, hk7⟩ := alloced wa9 #[.int .i64 0, .slice none 0 0, .int .i64 0] 47
            have hq7 : w4.heap.size ≤ g7 := by rw [← hg7]; exact hS.out.size
            rw [hg7, hwa7]
            have hS := Lib.hid (hS.out.trans (hbn.mono hS.out.size))
            have hk6 := hk6.below hbn
            clear hg7 hwa7 hbn
            refine hK.out _ _ hS.out (fun _ => ?_)
            clear hK K
            refine wpAnyH_ready (rs := [5]) (by kernel_rfl) (by simp) ?_
            refine AllReadyH.cons rfl (fun K hK => ?_) AllReadyH.nil
            · go_simp
              refine (HST.out _ hS.out).mono ?_
              rintro en w5 ⟨a2, A2, c2, rfl, hm5, hv5, hB5, hb5⟩
              unfold machV machC resV
              have hS := Lib.hid (hS.out.trans (hb5.mono hS.out.size))
              have hk6 := hk6.below hb5
              have hk7 := hk7.below hb5
              go_simp
              refine hK.out _ _ hS.out (fun _ => ?_)
              clear hK K
              refine wpAnyH_take (i := 6) (v := .tuple #[.agg #[.slice a2.o.A0 r.m.o.reg.length a2.o.c0, .slice a2.o.A1 r.m.o.q.length a2.o.c1, .slice a2.o.A2 r.m.o.lk.length a2.o.c2, .slice a2.o.A3 r.m.o.mp.length a2.o.c3, .slice a2.At r.m.t.length a2.ct], .agg #[.int .i64 r.e, .slice A2 r.v.length c2, .int .i64 r.n]]) rfl (by kernel_rfl) (by kernel_rfl) (by kernel_rfl) (fun _ _ _ h => h) (Or.inl ⟨by kernel_rfl, fun w _ => by go_simp⟩) hS.out ?_
              refine wpAnyH_take (i := 7) (v := .agg #[.slice a2.o.A0 r.m.o.reg.length a2.o.c0, .slice a2.o.A1 r.m.o.q.length a2.o.c1, .slice a2.o.A2 r.m.o.lk.length a2.o.c2, .slice a2.o.A3 r.m.o.mp.length a2.o.c3, .slice a2.At r.m.t.length a2.ct]) rfl (by kernel_rfl) (by kernel_rfl) (by kernel_rfl) (fun _ _ _ h => h) (Or.inl ⟨by kernel_rfl, fun w _ => by go_simp⟩) hS.out ?_
              refine wpAnyH_take (i := 8) (v := .agg #[.int .i64 r.e, .slice A2 r.v.length c2, .int .i64 r.n]) rfl (by kernel_rfl) (by kernel_rfl) (by kernel_rfl) (fun _ _ _ h => h) (Or.inl ⟨by kernel_rfl, fun w _ => by go_simp⟩) hS.out ?_
              obtain ⟨z7, zb, zs⟩ := StC.mk2 hk6 hk7 hm5 hv5 hS.out hq6 hq7
              refine wpAnyH_ready (rs := [11]) (by kernel_rfl) (by simp) ?_
              refine AllReadyH.cons rfl (fun K hK => ?_) AllReadyH.nil
              refine wp_store_row 33 (.tmp 7) (.tmp 23) rfl g6 #[.slice a2.o.A0 r.m.o.reg.length a2.o.c0, .slice a2.o.A1 r.m.o.q.length a2.o.c1, .slice a2.o.A2 r.m.o.lk.length a2.o.c2, .slice a2.o.A3 r.m.o.mp.length a2.o.c3, .slice a2.At r.m.t.length a2.ct] rfl rfl 33 #[.slice none 0 0, .slice none 0 0, .slice none 0 0, .slice none 0 0, .slice none 0 0] hk6 (by kernel_rfl) rfl (by kernel_rfl) ?_
              refine hK.out _ _ zb (fun _ => ?_)
              clear hK K
              refine wpAnyH_ready (rs := [12]) (by kernel_rfl) (by simp) ?_
              refine AllReadyH.cons rfl (fun K hK => ?_) AllReadyH.nil
              refine wp_store_row 47 (.tmp 8) (.tmp 24) rfl g7 #[.int .i64 r.e, .slice A2 r.v.length c2, .int .i64 r.n] rfl rfl 47 #[.int .i64 0, .slice none 0 0, .int .i64 0] z7 (by kernel_rfl) rfl (by kernel_rfl) ?_
              refine hK.out _ _ zs.bel (fun _ => ?_)
              clear hK K
              refine wpAnyH_done (by kernel_rfl) ?_ _
              go_simp
              go_wp2_with fail
              go_meet
              exact ⟨g6, g7, a2, A2, c2, rfl, rfl, Lib.hid (by rw [← HW4.out]; exact zs)⟩
        · go_simp
          obtain ⟨g7, wa10, hg7, hwa7, hbn, hk7⟩ := alloced w4 #[.int .i64 0, .slice none 0 0, .int .i64 0] 47
          have hq7 : w4.heap.size ≤ g7 := by rw [← hg7]; exact hS.out.size
          rw [hg7, hwa7]
          have hS := Lib.hid (hS.out.trans (hbn.mono hS.out.size))
          clear hg7 hwa7 hbn
          refine hK.out _ _ hS.out (fun _ => ?_)
          clear hK K
          refine wpAnyH_ready (rs := [5, 9]) (by kernel_rfl) (by simp) ?_
          refine AllReadyH.cons rfl (fun K hK => ?_) (AllReadyH.cons rfl (fun K hK => ?_) AllReadyH.nil)
          · go_simp
            refine (HST.out _ hS.out).mono ?_
            rintro en w5 ⟨a2, A2, c2, rfl, hm5, hv5, hB5, hb5⟩
            unfold machV machC resV
            have hS := Lib.hid (hS.out.trans (hb5.mono hS.out.size))
            have hk7 := hk7.below hb5
            go_simp
            refine hK.out _ _ hS.out (fun _ => ?_)
            clear hK K
            refine wpAnyH_take (i := 6) (v := .tuple #[.agg #[.slice a2.o.A0 r.m.o.reg.length a2.o.c0, .slice a2.o.A1 r.m.o.q.length a2.o.c1, .slice a2.o.A2 r.m.o.lk.length a2.o.c2, .slice a2.o.A3 r.m.o.mp.length a2.o.c3, .slice a2.At r.m.t.length a2.ct], .agg #[.int .i64 r.e, .slice A2 r.v.length c2, .int .i64 r.n]]) rfl (by kernel_rfl) (by kernel_rfl) (by kernel_rfl) (fun _ _ _ h => h) (Or.inl ⟨by kernel_rfl, fun w _ => by go_simp⟩) hS.out ?_
            refine wpAnyH_take (i := 7) (v := .agg #[.slice a2.o.A0 r.m.o.reg.length a2.o.c0, .slice a2.o.A1 r.m.o.q.length a2.o.c1, .slice a2.o.A2 r.m.o.lk.length a2.o.c2, .slice a2.o.A3 r.m.o.mp.length a2.o.c3, .slice a2.At r.m.t.length a2.ct]) rfl (by kernel_rfl) (by kernel_rfl) (by kernel_rfl) (fun _ _ _ h => h) (Or.inl ⟨by kernel_rfl, fun w _ => by go_simp⟩) hS.out ?_
            refine wpAnyH_take (i := 8) (v := .agg #[.int .i64 r.e, .slice A2 r.v.length c2, .int .i64 r.n]) rfl (by kernel_rfl) (by kernel_rfl) (by kernel_rfl) (fun _ _ _ h => h) (Or.inl ⟨by kernel_rfl, fun w _ => by go_simp⟩) hS.out ?_
            refine wpAnyH_ready (rs := [9]) (by kernel_rfl) (by simp) ?_
            refine AllReadyH.cons rfl (fun K hK => ?_) AllReadyH.nil
            · go_simp
              obtain ⟨g6, wa9, hg6, hwa6, hbn, hk6⟩ := alloced w5 #[.slice none 0 0, .slice none 0 0, .slice none 0 0, .slice none 0 0, .slice none 0 0] 33
              have hq6 : w4.heap.size ≤ g6 := by rw [← hg6]; exact hS.out.size
              rw [hg6, hwa6]
              have hS := Lib.hid (hS.out.trans (hbn.mono hS.out.size))
              have hm5 := hm5.below hbn
              have hv5 := own_below hv5 hbn
              have hk7 := hk7.below hbn
              clear hg6 hwa6 hbn
              refine hK.out _ _ hS.out (fun _ => ?_)
              clear hK K
              obtain ⟨z7, zb, zs⟩ := StC.mk2 hk6 hk7 hm5 hv5 hS.out hq6 hq7
              refine wpAnyH_ready (rs := [11]) (by kernel_rfl) (by simp) ?_
              refine AllReadyH.cons rfl (fun K hK => ?_) AllReadyH.nil
              refine wp_store_row 33 (.tmp 7) (.tmp 23) rfl g6 #[.slice a2.o.A0 r.m.o.reg.length a2.o.c0, .slice a2.o.A1 r.m.o.q.length a2.o.c1, .slice a2.o.A2 r.m.o.lk.length a2.o.c2, .slice a2.o.A3 r.m.o.mp.length a2.o.c3, .slice a2.At r.m.t.length a2.ct] rfl rfl 33 #[.slice none 0 0, .slice none 0 0, .slice none 0 0, .slice none 0 0, .slice none 0 0] hk6 (by kernel_rfl) rfl (by kernel_rfl) ?_
              refine hK.out _ _ zb (fun _ => ?_)
              clear hK K
              refine wpAnyH_ready (rs := [12]) (by kernel_rfl) (by simp) ?_
              refine AllReadyH.cons rfl (fun K hK => ?_) AllReadyH.nil
              refine wp_store_row 47 (.tmp 8) (.tmp 24) rfl g7 #[.int .i64 r.e, .slice A2 r.v.length c2, .int .i64 r.n] rfl rfl 47 #[.int .i64 0, .slice none 0 0, .int .i64 0] z7 (by kernel_rfl) rfl (by kernel_rfl) ?_
              refine hK.out _ _ zs.bel (fun _ => ?_)
              clear hK K
              refine wpAnyH_done (by kernel_rfl) ?_ _
              go_simp
              go_wp2_with fail
              go_meet
              exact ⟨g6, g7, a2, A2, c2, rfl, rfl, Lib.hid (by rw [← HW4.out]; exact zs)⟩
          · go_simp
            obtain ⟨g6, wa9, hg6, hwa6, hbn, hk6⟩ := alloced wa10 #[.slice none 0 0, .slice none 0 0, .slice none 0 0, .slice none 0 0, .slice none 0 0] 33
            have hq6 : w4.heap.size ≤ g6 := by rw [← hg6]; exact hS.out.size
            rw [hg6, hwa6]
            have hS := Lib.hid (hS.out.trans (hbn.mono hS.out.size))
            have hk7 := hk7.below hbn
            clear hg6 hwa6 hbn
            refine hK.out _ _ hS.out (fun _ => ?_)
            clear hK K
            refine wpAnyH_ready (rs := [5]) (by kernel_rfl) (by simp) ?_
            refine AllReadyH.cons rfl (fun K hK => ?_) AllReadyH.nil
            · go_simp
              refine (HST.out _ hS.out).mono ?_
              rintro en w5 ⟨a2, A2, c2, rfl, hm5, hv5, hB5, hb5⟩
              unfold machV machC resV
              have hS := Lib.hid (hS.out.trans (hb5.mono hS.out.size))
              have hk7 := hk7.below hb5
              have hk6 := hk6.below hb5
              go_simp
              refine hK.out _ _ hS.out (fun _ => ?_)
              clear hK K
              refine wpAnyH_take (i := 6) (v := .tuple #[.agg #[.slice a2.o.A0 r.m.o.reg.length a2.o.c0, .slice a2.o.A1 r.m.o.q.length a2.o.c1, .slice a2.o.A2 r.m.o.lk.length a2.o.c2, .slice a2.o.A3 r.m.o.mp.length a2.o.c3, .slice a2.At r.m.t.length a2.ct], .agg #[.int .i64 r.e, .slice A2 r.v.length c2, .int .i64 r.n]]) rfl (by kernel_rfl) (by kernel_rfl) (by kernel_rfl) (fun _ _ _ h => h) (Or.inl ⟨by kernel_rfl, fun w _ => by go_simp⟩) hS.out ?_
              refine wpAnyH_take (i := 7) (v := .agg #[.slice a2.o.A0 r.m.o.reg.length a2.o.c0, .slice a2.o.A1 r.m.o.q.length a2.o.c1, .slice a2.o.A2 r.m.o.lk.length a2.o.c2, .slice a2.o.A3 r.m.o.mp.length a2.o.c3, .slice a2.At r.m.t.length a2.ct]) rfl (by kernel_rfl) (by kernel_rfl) (by kernel_rfl) (fun _ _ _ h => h) (Or.inl ⟨by kernel_rfl, fun w _ => by go_simp⟩) hS.out ?_
              refine wpAnyH_take (i := 8) (v := .agg #[.int .i64 r.e, .slice A2 r.v.length c2, .int .i64 r.n]) rfl (by kernel_rfl) (by kernel_rfl) (by kernel_rfl) (fun _ _ _ h => h) (Or.inl ⟨by kernel_rfl, fun w _ => by go_simp⟩) hS.out ?_
              obtain ⟨z7, zb, zs⟩ := StC.mk2 hk6 hk7 hm5 hv5 hS.out hq6 hq7
              refine wpAnyH_ready (rs := [11]) (by kernel_rfl) (by simp) ?_
              refine AllReadyH.cons rfl (fun K hK => ?_) AllReadyH.nil
              refine wp_store_row 33 (.tmp 7) (.tmp 23) rfl g6 #[.slice a2.o.A0 r.m.o.reg.length a2.o.c0, .slice a2.o.A1 r.m.o.q.length a2.o.c1, .slice a2.o.A2 r.m.o.lk.length a2.o.c2, .slice a2.o.A3 r.m.o.mp.length a2.o.c3, .slice a2.At r.m.t.length a2.ct] rfl rfl 33 #[.slice none 0 0, .slice none 0 0, .slice none 0 0, .slice none 0 0, .slice none 0 0] hk6 (by kernel_rfl) rfl (by kernel_rfl) ?_
              refine hK.out _ _ zb (fun _ => ?_)
              clear hK K
              refine wpAnyH_ready (rs := [12]) (by kernel_rfl) (by simp) ?_
              refine AllReadyH.cons rfl (fun K hK => ?_) AllReadyH.nil
              refine wp_store_row 47 (.tmp 8) (.tmp 24) rfl g7 #[.int .i64 r.e, .slice A2 r.v.length c2, .int .i64 r.n] rfl rfl 47 #[.int .i64 0, .slice none 0 0, .int .i64 0] z7 (by kernel_rfl) rfl (by kernel_rfl) ?_
              refine hK.out _ _ zs.bel (fun _ => ?_)
              clear hK K
              refine wpAnyH_done (by kernel_rfl) ?_ _
              go_simp
              go_wp2_with fail
              go_meet
              exact ⟨g6, g7, a2, A2, c2, rfl, rfl, Lib.hid (by rw [← HW4.out]; exact zs)⟩
      case rest =>
        obtain ⟨g6, g7, a2, A2, c2, rfl, rfl, HC⟩ := hcut
        rename World => wc
        have hbc : Below wr.heap.size wr wc := (Below.refl wr.heap.size wr).drew.trans HC.out.bel
        have HK4c := Lib.hid (HK4.out.below hbc)
        have HK2c := Lib.hid (HK2.out.below hbc)
        have HORc := Lib.hid (HOR.out.below hbc)
        have HBc := Lib.hid (HB.out.trans (hbc.mono HB.out.size))
        have HOMc := Lib.hid (HC.out.own.of (show w.heap.size ≤ wr.drew.heap.size from HB.out.size))
        have HVc := Lib.hid (more_ (show w.heap.size ≤ wr.drew.heap.size from HB.out.size) HC.out.res)
        clear hbc HK4 HK2 HOR HOM HST HRG HRC
        go_upto_region 8 with (first
          | (refine wpList_load_row rfl 33 (.tmp 7) rfl g6 rfl 33 #[.slice a2.o.A0 r.m.o.reg.length a2.o.c0, .slice a2.o.A1 r.m.o.q.length a2.o.c1, .slice a2.o.A2 r.m.o.lk.length a2.o.c2, .slice a2.o.A3 r.m.o.mp.length a2.o.c3, .slice a2.At r.m.t.length a2.ct] (0, 0) _ HC.out.k6 Tryz.underlying33 rfl (by kernel_rfl) ?_)
          | (refine wpList_store_row rfl 33 (.tmp 4) (.tmp 25) rfl g4 #[.slice a2.o.A0 r.m.o.reg.length a2.o.c0, .slice a2.o.A1 r.m.o.q.length a2.o.c1, .slice a2.o.A2 r.m.o.lk.length a2.o.c2, .slice a2.o.A3 r.m.o.mp.length a2.o.c3, .slice a2.At r.m.t.length a2.ct] rfl rfl 33 #[.slice am.o.A0 m.o.reg.length am.o.c0, .slice am.o.A1 m.o.q.length am.o.c1, .slice am.o.A2 m.o.lk.length am.o.c2, .slice am.o.A3 m.o.mp.length am.o.c3, .slice am.At m.t.length am.ct] HK4c.out (by kernel_rfl) rfl (by kernel_rfl) ?_)
          | fail)
        have k2 : Keeps (fun q => q = g4) wc (wc.setRow g4 #[.slice a2.o.A0 r.m.o.reg.length a2.o.c0, .slice a2.o.A1 r.m.o.q.length a2.o.c1, .slice a2.o.A2 r.m.o.lk.length a2.o.c2, .slice a2.o.A3 r.m.o.mp.length a2.o.c3, .slice a2.At r.m.t.length a2.ct]) := Keeps.of_only (only_row wc g4 _) rfl
        have o2 : Of (fun q => q = g4) [33] wc := fun q hq _ => by subst hq; exact ⟨_, _, _, HK4c.out, by simp⟩
        have HK4d := Lib.hid (HK4c.out.row #[.slice a2.o.A0 r.m.o.reg.length a2.o.c0, .slice a2.o.A1 r.m.o.q.length a2.o.c1, .slice a2.o.A2 r.m.o.lk.length a2.o.c2, .slice a2.o.A3 r.m.o.mp.length a2.o.c3, .slice a2.At r.m.t.length a2.ct])
        have HK2d := Lib.hid (HK2c.out.row_other HG4.out.2 #[.slice a2.o.A0 r.m.o.reg.length a2.o.c0, .slice a2.o.A1 r.m.o.q.length a2.o.c1, .slice a2.o.A2 r.m.o.lk.length a2.o.c2, .slice a2.o.A3 r.m.o.mp.length a2.o.c3, .slice a2.At r.m.t.length a2.ct])
        have HK7d := Lib.hid (HC.out.k7.row_other (HC.out.k7.apart HK4c.out (by decide)) #[.slice a2.o.A0 r.m.o.reg.length a2.o.c0, .slice a2.o.A1 r.m.o.q.length a2.o.c1, .slice a2.o.A2 r.m.o.lk.length a2.o.c2, .slice a2.o.A3 r.m.o.mp.length a2.o.c3, .slice a2.At r.m.t.length a2.ct])
        have HORd := Lib.hid (HORc.out.keeps k2 o2 (by decide) (by decide))
        have HOMd := Lib.hid (HOMc.out.keeps k2 o2 (by decide) (by decide) (by decide) (by decide) (by decide))
        have HVd := Lib.hid (ownsRow_keeps HVc.out k2 o2 (by decide))
        have HBd := Lib.hid (below_setRow HBc.out HG4.out.1 #[.slice a2.o.A0 r.m.o.reg.length a2.o.c0, .slice a2.o.A1 r.m.o.q.length a2.o.c1, .slice a2.o.A2 r.m.o.lk.length a2.o.c2, .slice a2.o.A3 r.m.o.mp.length a2.o.c3, .slice a2.At r.m.t.length a2.ct])
        clear k2 o2 HK4c HK2c HORc HOMc HVc HBc HC
        generalize wc.setRow g4 #[.slice a2.o.A0 r.m.o.reg.length a2.o.c0, .slice a2.o.A1 r.m.o.q.length a2.o.c1, .slice a2.o.A2 r.m.o.lk.length a2.o.c2, .slice a2.o.A3 r.m.o.mp.length a2.o.c3, .slice a2.At r.m.t.length a2.ct] = wd at HK4d HK2d HK7d HORd HOMd HVd HBd ⊢
        have b1 : Below wd.heap.size wd (wd.alloc (.cells #[.int .i64 r.e, .slice A2 r.v.length c2, .int .i64 r.n] 47)) := (Below.refl _ _).alloc (Nat.le_refl _) _
        obtain ⟨vs, q1, q2⟩ := HORd.out.below b1
        have HV1 := Lib.hid q1
        have HV2 := Lib.hid q2
        have HVe := Lib.hid (ownsRow_below HVd.out b1)
        have HBe := Lib.hid (HBd.out.trans (b1.mono HBd.out.size))
        have HK4e := Lib.hid (HK4d.out.below b1)
        have HK2e := Lib.hid (HK2d.out.below b1)
        have HOMe := Lib.hid (HOMd.out.below b1)
        clear q1 q2 b1 HVd HBd HK4d HK2d HOMd HORd
        go_wp2_with (first
          | (refine wpList_load_row rfl 47 (.tmp 8) rfl g7 rfl 47 #[.int .i64 r.e, .slice A2 r.v.length c2, .int .i64 r.n] (0, 0) _ HK7d.out Tryz.underlying47 rfl (by kernel_rfl) ?_)
          | (at_builtin
             refine wpList_append_atE w.heap.size HBe.out.size cellR3 (.tmp 26) (.tmp 28) rfl (by rfl) rfl HV1.out rfl (Rd.resAt _ A2 c2 r _ rfl) (resL_one _ _ _) (by omega) (by omega) ?_
             intro A4 c4 w4 hown4 hg4
             have HX4 := Lib.hid (And.intro hown4 hg4)
             clear hown4 hg4)
          | fail)
        go_roundw
        case rel =>
          have hg4 := HX4.out.2
          have hs := OwnRs.snoc (A1 := A2) (c1 := c2) (r := r) HV1.out HV2.out HVe.out hg4 HX4.out.1
          refine ⟨j + 1, A4, c4, a2, r.m, by omega, by go_num, rfl, Lib.hid (by rw [HSN.out]), Lib.hid (HK4e.out.apart_own HV1.out (by decide) hg4), Lib.hid (HK2e.out.apart_own HV1.out (by decide) hg4), Lib.hid ?_, Lib.hid ?_, Lib.hid (HBe.out.grown hg4 HBe.out.size (fun k hk => (HV1.out.lt k hk).1))⟩
          · have kk : Keeps (fun q => (Value.slice A1 j c1).ownBlock = some q) (wd.alloc (.cells #[.int .i64 r.e, .slice A2 r.v.length c2, .int .i64 r.n] 47)) w4 := Keeps.of_grown hg4 (fun q hq => hq)
            have oo : Of (fun q => (Value.slice A1 j c1).ownBlock = some q) [47] (wd.alloc (.cells #[.int .i64 r.e, .slice A2 r.v.length c2, .int .i64 r.n] 47)) := fun q hq _ => by
              rcases own_blk HV1.out with ⟨h6, h7⟩ | ⟨g', cur, h6, hgb, hk'⟩
              · rw [h6] at hq; simp [Value.ownBlock] at hq
              · rw [h6] at hq
                have : g' = q := by simpa [Value.ownBlock] using hq
                subst this
                exact ⟨_, _, _, hk', by simp⟩
            exact HOMe.out.keeps kk oo (by decide) (by decide) (by decide) (by decide) (by decide)
          · rw [HSN.out, List.map_append]; exact hs
        case measure => simp only [intOf]; omega
    · have hji : ¬ (j : Int) < (n : Int) := by omega
      have hjn : j = n := by omega
      subst hjn
      have htk : es.take j = es := List.take_of_length_le (by have := HL.out; omega)
      have hm := HM.out
      have hor := HOR.out
      rw [htk, HFM.out.1] at hm
      rw [htk, HFM.out.2] at hor
      subst hm
      have HOR2 := Lib.hid hor
      clear htk hor
      go_wp2_with (first
        | (refine wpList_load_row rfl 33 (.tmp 4) rfl g4 rfl 33 #[.slice am.o.A0 m.o.reg.length am.o.c0, .slice am.o.A1 m.o.q.length am.o.c1, .slice am.o.A2 m.o.lk.length am.o.c2, .slice am.o.A3 m.o.mp.length am.o.c3, .slice am.At m.t.length am.ct] (0, 0) _ HK4.out Tryz.underlying33 rfl (by kernel_rfl) ?_)
        | (refine wpList_store_row rfl 33 (.tmp 2) (.tmp 30) rfl g2 #[.slice am.o.A0 m.o.reg.length am.o.c0, .slice am.o.A1 m.o.q.length am.o.c1, .slice am.o.A2 m.o.lk.length am.o.c2, .slice am.o.A3 m.o.mp.length am.o.c3, .slice am.At m.t.length am.ct] rfl rfl 33 #[.slice none 0 0, .slice none 0 0, .slice none 0 0, .slice none 0 0, .slice none 0 0] HK2.out (by kernel_rfl) rfl (by kernel_rfl) ?_)
        | fail)
      refine bodyPost_ret (results_cell_tmp rfl _ _ _ _ _ _ rfl (Blk.row HK2.out #[.slice am.o.A0 m.o.reg.length am.o.c0, .slice am.o.A1 m.o.q.length am.o.c1, .slice am.o.A2 m.o.lk.length am.o.c2, .slice am.o.A3 m.o.mp.length am.o.c3, .slice am.At m.t.length am.ct]) Tryz.underlying33 rfl (by kernel_rfl)) rfl ?_
      have k2 : Keeps (fun q => q = g2) wr (wr.setRow g2 #[.slice am.o.A0 m.o.reg.length am.o.c0, .slice am.o.A1 m.o.q.length am.o.c1, .slice am.o.A2 m.o.lk.length am.o.c2, .slice am.o.A3 m.o.mp.length am.o.c3, .slice am.At m.t.length am.ct]) := Keeps.of_only (only_row wr g2 _) rfl
      have o2 : Of (fun q => q = g2) [33] wr := fun q hq _ => by subst hq; exact ⟨_, _, _, HK2.out, by simp⟩
      exact ⟨am, A1, c1, rfl, HOM.out.keeps k2 o2 (by decide) (by decide) (by decide) (by decide) (by decide), HOR2.out.keeps k2 o2 (by decide) (by decide), below_setRow HB.out (by have := HG2.out; omega) _⟩
end Go.Proofs.YtaknfmionkkdjaaGreat

