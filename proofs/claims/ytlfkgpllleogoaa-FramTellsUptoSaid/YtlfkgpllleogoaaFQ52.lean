/- RefOpen -/
import Derived.Test.YtlfkgpllleogoaaFQ36
import Derived.Test.YtlfkgpllleogoaaFQ44
import Derived.Test.YtlfkgpllleogoaaFQ51
namespace Go.Proofs.Ytlfkgpllleogoaa
open Go.RowKit
set_option linter.unusedVariables false
set_option maxHeartbeats 2000000 in
set_option maxRecDepth 100000 in
theorem refWrap_raw (w : World) {a : GA} {m : Mg} {B : Nat} (hM : m.Wide) (hr : RdG w B a m) : Calls Try.prog 24 #[msgV a m] w (GotIn w w (Fr.wrap m)) := by
  obtain ⟨wa, hwa⟩ : ∃ x, w.alloc (.cells #[.int .i64 m.kind, .int .i64 m.frm, .int .i64 m.dst, .int .i64 m.view, .int .i64 m.inst, .int .i64 m.len, .bool m.has, .int .i64 m.mem, .int .i64 m.src, .int .i64 m.pos, .int .i64 m.tot, .slice a.Ad m.data.length a.cd, .int .i64 m.hop, .int .i64 m.seq, .slice a.Ah m.hav.length a.ch, .slice a.An m.nee.length a.cn, .int .i64 m.idx, .int .i64 m.ent.s, .int .i64 m.ent.q, .int .i64 m.ent.c.kind, .int .i64 m.ent.c.who, .slice a.c.Ak m.ent.c.key.length a.c.ck, .slice a.c.Av m.ent.c.val.length a.c.cv, .slice a.c.Ao m.ent.c.old.length a.c.co] 29) = x := ⟨_, rfl⟩
  have bb : Below w.heap.size w wa := by rw [← hwa]; exact (Below.refl _ _).alloc (Nat.le_refl _) _
  obtain ⟨g, hg⟩ : ∃ g, w.heap.size = g := ⟨_, rfl⟩
  have k1 : Blk wa g 29 #[.int .i64 m.kind, .int .i64 m.frm, .int .i64 m.dst, .int .i64 m.view, .int .i64 m.inst, .int .i64 m.len, .bool m.has, .int .i64 m.mem, .int .i64 m.src, .int .i64 m.pos, .int .i64 m.tot, .slice a.Ad m.data.length a.cd, .int .i64 m.hop, .int .i64 m.seq, .slice a.Ah m.hav.length a.ch, .slice a.An m.nee.length a.cn, .int .i64 m.idx, .int .i64 m.ent.s, .int .i64 m.ent.q, .int .i64 m.ent.c.kind, .int .i64 m.ent.c.who, .slice a.c.Ak m.ent.c.key.length a.c.ck, .slice a.c.Av m.ent.c.val.length a.c.cv, .slice a.c.Ao m.ent.c.old.length a.c.co] := by rw [← hwa, ← hg]; exact Blk.new _ _ _
  have HR := Lib.hid (hr.fit.below bb)
  have HOK : Hid (Calls Try.prog 35 #[.agg #[.int .i64 m.kind, .int .i64 m.frm, .int .i64 m.dst, .int .i64 m.view, .int .i64 m.inst, .int .i64 m.len, .bool m.has, .int .i64 m.mem, .int .i64 m.src, .int .i64 m.pos, .int .i64 m.tot, .slice a.Ad m.data.length a.cd, .int .i64 m.hop, .int .i64 m.seq, .slice a.Ah m.hav.length a.ch, .slice a.An m.nee.length a.cn, .int .i64 m.idx, .int .i64 m.ent.s, .int .i64 m.ent.q, .int .i64 m.ent.c.kind, .int .i64 m.ent.c.who, .slice a.c.Ak m.ent.c.key.length a.c.ck, .slice a.c.Av m.ent.c.val.length a.c.cv, .slice a.c.Ao m.ent.c.old.length a.c.co]] wa fun e w' => e = .returned (.bool m.ok) ∧ Below wa.heap.size wa w') := Lib.hid (refOk11 wa hM (hr.fit.below bb))
  have HB := Lib.hid bb
  have HWA := Lib.hid hwa
  have HG := Lib.hid hg
  have HK1 := Lib.hid k1
  clear k1 bb hwa hg hr
  cases hok : m.ok with
  | false =>
    have HE : Hid (Fr.wrap m = []) := Lib.hid (by unfold Fr.wrap; rw [Mg.enc_none hok]; rfl)
    rw [hok] at HOK
    clear hok
    unfold msgV msgC
    go_enter Try.func24, Try.ntmps24
    go_upto_region 1 with fail
    rw [HG.out, HWA.out]
    clear HWA
    go_wp2_with (first
      | (refine wpList_load_row rfl 29 (.tmp 1) rfl g rfl 29 #[.int .i64 m.kind, .int .i64 m.frm, .int .i64 m.dst, .int .i64 m.view, .int .i64 m.inst, .int .i64 m.len, .bool m.has, .int .i64 m.mem, .int .i64 m.src, .int .i64 m.pos, .int .i64 m.tot, .slice a.Ad m.data.length a.cd, .int .i64 m.hop, .int .i64 m.seq, .slice a.Ah m.hav.length a.ch, .slice a.An m.nee.length a.cn, .int .i64 m.idx, .int .i64 m.ent.s, .int .i64 m.ent.q, .int .i64 m.ent.c.kind, .int .i64 m.ent.c.who, .slice a.c.Ak m.ent.c.key.length a.c.ck, .slice a.c.Av m.ent.c.val.length a.c.cv, .slice a.c.Ao m.ent.c.old.length a.c.co] (0, 0) _ HK1.out Try.underlying29 rfl (by kernel_rfl) ?_)
      | (go_at_call 35; refine HOK.out.mono ?_; rintro en w1 ⟨rfl, hb1⟩; have HB1 := Lib.hid (HB.out.trans (hb1.mono HB.out.size)); clear hb1)
      | fail)
    go_ret
    rw [HE.out]
    exact ⟨none, 0, rfl, own_nil _ _, HB1.out, HB1.out⟩
  | true =>
    have hwr : Fr.wrap m = Fr.four (Crc.sum m.enc) ++ m.enc := Fr.wrapL_eq (Mg.enc_some hok)
    have hln := Mg.enc_cases hM
    rw [hok] at HOK
    rw [hwr]
    have HE : Hid (∀ wx, Below wa.heap.size wa wx → Calls Try.prog 15 #[.agg #[.int .i64 m.kind, .int .i64 m.frm, .int .i64 m.dst, .int .i64 m.view, .int .i64 m.inst, .int .i64 m.len, .bool m.has, .int .i64 m.mem, .int .i64 m.src, .int .i64 m.pos, .int .i64 m.tot, .slice a.Ad m.data.length a.cd, .int .i64 m.hop, .int .i64 m.seq, .slice a.Ah m.hav.length a.ch, .slice a.An m.nee.length a.cn, .int .i64 m.idx, .int .i64 m.ent.s, .int .i64 m.ent.q, .int .i64 m.ent.c.kind, .int .i64 m.ent.c.who, .slice a.c.Ak m.ent.c.key.length a.c.ck, .slice a.c.Av m.ent.c.val.length a.c.cv, .slice a.c.Ao m.ent.c.old.length a.c.co]] wx (GotIn wx wx m.enc)) := Lib.hid (fun wx hb => refEncode11 (a := a) (m := m) hM (HR.out.fit.below hb) (Below.refl _ _))
    obtain ⟨L, hL⟩ : ∃ x, m.enc = x := ⟨_, rfl⟩
    rw [hL] at HE hln ⊢
    have HLN := Lib.hid hln.1
    have HLT := Lib.hid hln.2
    obtain ⟨L4, hL4⟩ : ∃ x, Fr.four (Crc.sum L) ++ L = x := ⟨_, rfl⟩
    have HL4 := Lib.hid hL4
    rw [hL4]
    clear hok hwr hln hL hL4 hM
    unfold msgV msgC
    go_enter Try.func24, Try.ntmps24
    go_upto_region 1 with fail
    rw [HG.out, HWA.out]
    clear HWA
    go_upto_region 3 with (first
      | (refine wpList_load_row rfl 29 (.tmp 1) rfl g rfl 29 #[.int .i64 m.kind, .int .i64 m.frm, .int .i64 m.dst, .int .i64 m.view, .int .i64 m.inst, .int .i64 m.len, .bool m.has, .int .i64 m.mem, .int .i64 m.src, .int .i64 m.pos, .int .i64 m.tot, .slice a.Ad m.data.length a.cd, .int .i64 m.hop, .int .i64 m.seq, .slice a.Ah m.hav.length a.ch, .slice a.An m.nee.length a.cn, .int .i64 m.idx, .int .i64 m.ent.s, .int .i64 m.ent.q, .int .i64 m.ent.c.kind, .int .i64 m.ent.c.who, .slice a.c.Ak m.ent.c.key.length a.c.ck, .slice a.c.Av m.ent.c.val.length a.c.cv, .slice a.c.Ao m.ent.c.old.length a.c.co] (0, 0) _ HK1.out Try.underlying29 rfl (by kernel_rfl) ?_)
      | (go_at_call 35; refine HOK.out.mono ?_; rintro en w1 ⟨rfl, hb1⟩; have HBA := Lib.hid hb1; clear hb1)
      | fail)
    have HK3 := Lib.hid (HK1.out.below HBA.out)
    go_wp2_with (first
      | (refine wpList_load_row rfl 29 (.tmp 1) rfl g rfl 29 #[.int .i64 m.kind, .int .i64 m.frm, .int .i64 m.dst, .int .i64 m.view, .int .i64 m.inst, .int .i64 m.len, .bool m.has, .int .i64 m.mem, .int .i64 m.src, .int .i64 m.pos, .int .i64 m.tot, .slice a.Ad m.data.length a.cd, .int .i64 m.hop, .int .i64 m.seq, .slice a.Ah m.hav.length a.ch, .slice a.An m.nee.length a.cn, .int .i64 m.idx, .int .i64 m.ent.s, .int .i64 m.ent.q, .int .i64 m.ent.c.kind, .int .i64 m.ent.c.who, .slice a.c.Ak m.ent.c.key.length a.c.ck, .slice a.c.Av m.ent.c.val.length a.c.cv, .slice a.c.Ao m.ent.c.old.length a.c.co] (0, 0) _ HK3.out Try.underlying29 rfl (by kernel_rfl) ?_)
      | (go_at_call 15; refine (HE.out _ HBA.out).mono ?_; rintro en w2 ⟨A2, c2, rfl, ho2, hB2, hb2⟩
         have HC4 := refFour (W := w) HLT.out (by have := HLN.out; omega) (Rd.own_ ho2) (c := c2) (HB.out.trans ((HBA.out.trans (hB2.mono HBA.out.size)).mono HB.out.size))
         rw [HL4.out] at HC4
         have HC4 := Lib.hid HC4
         clear ho2 hB2 hb2)
      | (go_at_call 54; refine HC4.out.mono ?_; rintro en w3 ⟨A3, c3, rfl, ho3, hB3, hb3⟩
         have HO3 := Lib.hid ho3
         have HB3 := Lib.hid hB3
         clear ho3 hB3 hb3)
      | fail)
    go_ret
    exact ⟨A3, c3, rfl, HO3.out, HB3.out, HB3.out⟩
theorem refWrap {W w : World} {a : GA} {m : Mg} {B : Nat} {l : List Nat} (he : Fr.wrap m = l) (hM : m.Wide) (hr : RdG w B a m) (hB : Below W.heap.size W w) : Calls Try.prog 24 #[msgV a m] w (GotIn W w l) := by
  subst he
  exact (refWrap_raw w hM hr).mono fun e w' ⟨A, c, h1, h2, h3, h4⟩ => ⟨A, c, h1, own_of hB.size h2, hB.trans (h3.mono hB.size), h4⟩
set_option maxHeartbeats 4000000 in
set_option maxRecDepth 100000 in
theorem refOpen_raw {w : World} {A : Option Addr} {n c B : Nat} {l : List Nat} (hl : l.length ≤ 2000000) (hb : ∀ x ∈ l, x < 256) (hc : n ≤ c ∧ c ≤ maxLen) (h : Rd w B A n (bv l)) : Calls Try.prog 25 #[.slice A n c] w (GotG w w (Fr.opn l)) := by
  obtain ⟨g, hg⟩ : ∃ g, w.heap.size = g := ⟨_, rfl⟩
  obtain ⟨wz, hwz⟩ : ∃ wz, w.alloc (.cells #[.int .i64 0, .int .i64 0, .int .i64 0, .int .i64 0, .int .i64 0, .int .i64 0, .bool false, .int .i64 0, .int .i64 0, .int .i64 0, .int .i64 0, .slice none 0 0, .int .i64 0, .int .i64 0, .slice none 0 0, .slice none 0 0, .int .i64 0, .int .i64 0, .int .i64 0, .int .i64 0, .int .i64 0, .slice none 0 0, .slice none 0 0, .slice none 0 0] 29) = wz := ⟨_, rfl⟩
  have hbb : Below w.heap.size w wz := by rw [← hwz]; exact (Below.refl _ _).alloc (Nat.le_refl _) _
  have k1 : Blk wz g 29 msgZ := by rw [← hwz, ← hg]; exact Blk.new _ _ _
  have HU := Lib.hid (refUnfour (W := wz) hb hl hc (h.fit.below hbb) (Below.refl _ _))
  have hop := Fr.opn_unf l
  have hsub : ∀ D, Fr.unf l = some D → D.length ≤ 2000000 ∧ ∀ x ∈ D, x < 256 := fun D hD => by
    unfold Fr.unf at hD
    split at hD
    · cases hD
    · split at hD
      · injection hD with hD
        subst hD
        exact ⟨by rw [List.length_drop]; omega, fun x hx => hb x (List.mem_of_mem_drop hx)⟩
      · cases hD
  have HB := Lib.hid hbb
  have HK1 := Lib.hid k1
  have HWZ := Lib.hid hwz
  have HG := Lib.hid hg
  have HEND : Hid (∀ (wx : World) (X : Option Mg) (aX : GA) (mX : Mg) (cs : Array Value), X.getD Mg.zero = mX → cs = msgC aX mX → Below wz.heap.size wz wx → OwnG wz wx aX mX → GotG w w X (.returned (.tuple #[.agg cs, .bool X.isSome])) (wx.setRow g cs)) := Lib.hid (by
    intro wx X aX mX cs h1 h2 h3 h4
    have hbel : Below w.heap.size w wx := hbb.trans (h3.mono hbb.size)
    have hbr : Below w.heap.size w (wx.setRow g cs) := below_setRow hbel (by rw [hg]; exact Nat.le_refl _) cs
    refine ⟨aX, by rw [h1, h2]; rfl, ?_, hbr, hbr⟩
    rw [h1]
    exact (h4.rowS (k1.below h3) (by decide) (by decide)).of hbb.size)
  clear hl hb hc h hbb k1 hwz hg
  obtain ⟨X, hX⟩ : ∃ X, Fr.opn l = X := ⟨_, rfl⟩
  rw [hX] at hop ⊢
  cases hu : Fr.unf l with
  | none =>
    have hXn : X = none := by rw [hop, hu]; rfl
    have HU : Hid (Calls Try.prog 55 #[.slice A n c] wz fun en w' => ∃ A c, en = .returned (.tuple #[.slice A 0 c, .bool false]) ∧ Below wz.heap.size wz w') := Lib.hid (by
      have q := HU.out
      rw [hu] at q
      exact q.mono fun e w' ⟨A, c, h1, _, h3, _⟩ => ⟨A, c, h1, h3⟩)
    clear hop hsub hX hu
    go_enter Try.func25, Try.ntmps25
    go_upto_region 1 with fail
    rw [HG.out, HWZ.out]
    clear HWZ
    go_upto_region 3 with (first
      | (go_at_call 55; refine HU.out.mono ?_; rintro en w2 ⟨A2, c2, rfl, hb2⟩; have HB2 := Lib.hid hb2; clear hb2)
      | fail)
    have HK2 := Lib.hid (HK1.out.below HB2.out)
    go_wp2_with (first
      | (refine wpList_store_row rfl 29 (.tmp 2) (.tmp 13) rfl g #[.int .i64 0, .int .i64 0, .int .i64 0, .int .i64 0, .int .i64 0, .int .i64 0, .bool false, .int .i64 0, .int .i64 0, .int .i64 0, .int .i64 0, .slice none 0 0, .int .i64 0, .int .i64 0, .slice none 0 0, .slice none 0 0, .int .i64 0, .int .i64 0, .int .i64 0, .int .i64 0, .int .i64 0, .slice none 0 0, .slice none 0 0, .slice none 0 0] rfl rfl 29 msgZ HK2.out (by kernel_rfl) rfl (by kernel_rfl) ?_)
      | fail)
    refine bodyPost_ret (results_cell_tmp rfl _ _ _ _ _ _ rfl (HK2.out.row #[.int .i64 0, .int .i64 0, .int .i64 0, .int .i64 0, .int .i64 0, .int .i64 0, .bool false, .int .i64 0, .int .i64 0, .int .i64 0, .int .i64 0, .slice none 0 0, .int .i64 0, .int .i64 0, .slice none 0 0, .slice none 0 0, .int .i64 0, .int .i64 0, .int .i64 0, .int .i64 0, .int .i64 0, .slice none 0 0, .slice none 0 0, .slice none 0 0]) Try.underlying29 rfl (by kernel_rfl)) rfl ?_
    rw [hXn]
    exact HEND.out _ none GA.zero Mg.zero _ rfl rfl HB2.out (OwnG.zero _ _)
  | some D =>
    have hXd : Mg.dec D = X := by rw [hop, hu]; rfl
    obtain ⟨hdl, hdb⟩ := hsub D hu
    have HU : Hid (Calls Try.prog 55 #[.slice A n c] wz fun en w' => ∃ A c, en = .returned (.tuple #[.slice A D.length c, .bool true]) ∧ OwnB wz w' A D.length c D ∧ Below wz.heap.size wz w') := Lib.hid (by
      have q := HU.out
      rw [hu] at q
      exact q.mono fun e w' ⟨A, c, h1, h2, h3, _⟩ => ⟨A, c, h1, h2, h3⟩)
    have HXD := Lib.hid hXd
    have HDL := Lib.hid hdl
    have HDB := Lib.hid hdb
    clear hop hsub hX hu hXd hdl hdb
    go_enter Try.func25, Try.ntmps25
    go_upto_region 1 with fail
    rw [HG.out, HWZ.out]
    clear HWZ
    go_upto_region 4 with (first
      | (go_at_call 55; refine HU.out.mono ?_; rintro en w2 ⟨A2, c2, rfl, ho2, hb2⟩; have HB2 := Lib.hid hb2; have HO2 := Lib.hid ho2; clear hb2 ho2)
      | fail)
    have HK2 := Lib.hid (HK1.out.below HB2.out)
    have HD := Lib.hid (refDecode11 (W := wz) HXD.out HDL.out HDB.out (own_cap HO2.out) (Rd.own_ HO2.out) HB2.out)
    go_wp2_with (first
      | (go_at_call 20; refine HD.out.mono ?_; rintro en w3 ⟨a, hen, ho, hB3, hb3⟩
         obtain ⟨M, hM⟩ : ∃ x, X.getD Mg.zero = x := ⟨_, rfl⟩
         have hen2 : en = .returned (.tuple #[.agg #[.int .i64 M.kind, .int .i64 M.frm, .int .i64 M.dst, .int .i64 M.view, .int .i64 M.inst, .int .i64 M.len, .bool M.has, .int .i64 M.mem, .int .i64 M.src, .int .i64 M.pos, .int .i64 M.tot, .slice a.Ad M.data.length a.cd, .int .i64 M.hop, .int .i64 M.seq, .slice a.Ah M.hav.length a.ch, .slice a.An M.nee.length a.cn, .int .i64 M.idx, .int .i64 M.ent.s, .int .i64 M.ent.q, .int .i64 M.ent.c.kind, .int .i64 M.ent.c.who, .slice a.c.Ak M.ent.c.key.length a.c.ck, .slice a.c.Av M.ent.c.val.length a.c.cv, .slice a.c.Ao M.ent.c.old.length a.c.co], .bool X.isSome]) := by rw [hM] at hen; exact hen
         rw [hM] at ho
         clear hen
         subst hen2
         have HO := Lib.hid ho
         have HM := Lib.hid hM
         have HB3 := Lib.hid hB3
         have HK3 := Lib.hid (HK2.out.below hb3)
         clear ho hB3 hb3 hM)
      | (refine wpList_store_row rfl 29 (.tmp 2) (.tmp 16) rfl g #[.int .i64 M.kind, .int .i64 M.frm, .int .i64 M.dst, .int .i64 M.view, .int .i64 M.inst, .int .i64 M.len, .bool M.has, .int .i64 M.mem, .int .i64 M.src, .int .i64 M.pos, .int .i64 M.tot, .slice a.Ad M.data.length a.cd, .int .i64 M.hop, .int .i64 M.seq, .slice a.Ah M.hav.length a.ch, .slice a.An M.nee.length a.cn, .int .i64 M.idx, .int .i64 M.ent.s, .int .i64 M.ent.q, .int .i64 M.ent.c.kind, .int .i64 M.ent.c.who, .slice a.c.Ak M.ent.c.key.length a.c.ck, .slice a.c.Av M.ent.c.val.length a.c.cv, .slice a.c.Ao M.ent.c.old.length a.c.co] rfl rfl 29 msgZ HK3.out (by kernel_rfl) rfl (by kernel_rfl) ?_)
      | fail)
    refine bodyPost_ret (results_cell_tmp rfl _ _ _ _ _ _ rfl (HK3.out.row #[.int .i64 M.kind, .int .i64 M.frm, .int .i64 M.dst, .int .i64 M.view, .int .i64 M.inst, .int .i64 M.len, .bool M.has, .int .i64 M.mem, .int .i64 M.src, .int .i64 M.pos, .int .i64 M.tot, .slice a.Ad M.data.length a.cd, .int .i64 M.hop, .int .i64 M.seq, .slice a.Ah M.hav.length a.ch, .slice a.An M.nee.length a.cn, .int .i64 M.idx, .int .i64 M.ent.s, .int .i64 M.ent.q, .int .i64 M.ent.c.kind, .int .i64 M.ent.c.who, .slice a.c.Ak M.ent.c.key.length a.c.ck, .slice a.c.Av M.ent.c.val.length a.c.cv, .slice a.c.Ao M.ent.c.old.length a.c.co]) Try.underlying29 rfl (by kernel_rfl)) rfl ?_
    exact HEND.out _ X a M _ HM.out rfl HB3.out HO.out
theorem refOpen {W w : World} {A : Option Addr} {n c B : Nat} {l : List Nat} {r : Option Mg} (he : Fr.opn l = r) (hl : l.length ≤ 2000000) (hb : ∀ x ∈ l, x < 256) (hc : n ≤ c ∧ c ≤ maxLen) (h : Rd w B A n (bv l)) (hB : Below W.heap.size W w) : Calls Try.prog 25 #[.slice A n c] w (GotG W w r) := by
  subst he
  exact (refOpen_raw hl hb hc h).mono fun e w' hh => GotG.of hB hh
end Go.Proofs.Ytlfkgpllleogoaa

