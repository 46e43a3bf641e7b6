/- FramSum FramOpen FramWrap MesgAwake -/
import Derived.Test.YtmdkbmafkglhdaaFT02
import Derived.Test.YtmdkbmafkglhdaaFT03
import Derived.Test.YtmdkbmafkglhdaaFT22
import Derived.Test.YtmdkbmafkglhdaaFT30
import Derived.Test.YtmdkbmafkglhdaaFT36
import Derived.Test.YtmdkbmafkglhdaaFT37
import Derived.Test.YtmdkbmafkglhdaaFT41
import Derived.Laws.OwnMore
import Derived.BigQuiet
import Derived.ArgAppend
import Derived.OwnWalk
namespace Go.Proofs.Ytmdkbmafkglhdaa
open Go.RowKit
set_option linter.unusedVariables false
theorem frsum_any {W w : World} {A : Option Addr} {n c B : Nat} {l : List Nat} (hl : ∀ x ∈ l, x < 256) (hn : n ≤ maxLen) (h : Rd w B A n (bv l)) (hB : Below W.heap.size W w) : Calls Try.prog 40 #[.slice A n c] w (GotIn W w (Fr.four (Crc.sum l))) := by
  have C := Lib.hid (sum_any l hl A n c B hn w h)
  have HB := Lib.hid hB
  obtain ⟨s, hs⟩ : ∃ s, Crc.sum l = s := ⟨_, rfl⟩
  rw [hs] at C ⊢
  clear hl hn h hB hs
  go_enter Try.func40, Try.ntmps40
  go_wp2_with (go_at_call 51; refine C.out.mono ?_; rintro e w' ⟨rfl, rfl⟩)
  go_ret
  have e : (#[.int .u8 ((s : Int) % 256), .int .u8 ((s : Int) / 256 % 256), .int .u8 ((s : Int) / 65536 % 256), .int .u8 ((s : Int) / 16777216 % 256)] : Array Value) = #[.int .u8 ((s % 256 : Nat) : Int), .int .u8 ((s / 256 % 256 : Nat) : Int), .int .u8 ((s / 65536 % 256 : Nat) : Int), .int .u8 ((s / 16777216 % 256 : Nat) : Int)] := rfl
  exact ⟨some ⟨w.heap.size, 0, none⟩, 4, rfl, World.ownsRow_lit w _ 4 HB.out.size (by decide) rfl, HB.out.alloc HB.out.size _, (Below.refl _ _).alloc (Nat.le_refl _) _⟩
end Go.Proofs.Ytmdkbmafkglhdaa

namespace Go.Proofs.Ytmdkbmafkglhdaa
open Go.RowKit
set_option linter.unusedVariables false
set_option maxHeartbeats 4000000 in
set_option maxRecDepth 100000 in
theorem fropen_raw {w : World} {A : Option Addr} {n c B : Nat} {l : List Nat} (hl : l.length ≤ 2000000) (hb : ∀ x ∈ l, x < 256) (hc : n ≤ c) (h : Rd w B A n (bv l)) : Calls Try.prog 18 #[.slice A n c] w (GotG w w (Fr.opn l)) := by
  obtain ⟨g, hg⟩ : ∃ g, w.heap.size = g := ⟨_, rfl⟩
  obtain ⟨wz, hwz⟩ : ∃ wz, w.alloc (.cells #[.int .i64 0, .int .i64 0, .int .i64 0, .int .i64 0, .int .i64 0, .int .i64 0, .bool false, .int .i64 0, .int .i64 0, .int .i64 0, .int .i64 0, .slice none 0 0, .int .i64 0, .int .i64 0, .slice none 0 0, .slice none 0 0, .int .i64 0, .int .i64 0, .int .i64 0, .int .i64 0, .int .i64 0, .slice none 0 0, .slice none 0 0, .slice none 0 0] 29) = wz := ⟨_, rfl⟩
  have hbb : Below w.heap.size w wz := by rw [← hwz]; exact (Below.refl _ _).alloc (Nat.le_refl _) _
  have k1 : Blk wz g 29 msgZ := by rw [← hwz, ← hg]; exact Blk.new _ _ _
  have hn := h.length
  have hgz : g < wz.heap.size := k1.lt
  have HRZ := Lib.hid (h.fit.below hbb)
  have HB := Lib.hid hbb
  have HK1 := Lib.hid k1
  have HWZ := Lib.hid hwz
  have HG := Lib.hid hg
  have HGZ := Lib.hid hgz
  have HL := Lib.hid hl
  have HBY := Lib.hid hb
  have HEND : Hid (∀ (wx : World) (X : Option Mg) (aX : GA) (mX : Mg) (cs : Array Value), X.getD Mg.zero = mX → cs = msgC aX mX → Below wz.heap.size wz wx → OwnG wz wx aX mX → GotG w w X (.returned (.tuple #[.agg cs, .bool X.isSome])) (wx.setRow g cs)) := Lib.hid (by
    intro wx X aX mX cs h1 h2 h3 h4
    have hbel : Below w.heap.size w wx := hbb.trans (h3.mono hbb.size)
    have hbr : Below w.heap.size w (wx.setRow g cs) := below_setRow hbel (by rw [hg]; exact Nat.le_refl _) cs
    refine ⟨aX, by rw [h1, h2]; rfl, ?_, hbr, hbr⟩
    rw [h1]
    exact (h4.rowS (k1.below h3) (by decide) (by decide)).of hbb.size)
  obtain ⟨i9, hi1, hi2, hi3, hi4⟩ := info_parts byteT.info
  clear hi2 hi4
  have HI1 := Lib.hid hi1
  have HI3 := Lib.hid hi3
  clear hl hb hbb k1 hwz hg hgz hi1 hi3 h
  by_cases h4 : n < 4
  · have hr : Fr.opn l = none := Fr.opn_short (by omega)
    clear hn
    go_enter Try.func18, Try.ntmps18
    go_upto_region 1 with fail
    rw [HG.out, HWZ.out]
    clear HWZ
    go_wp2_with (first
      | (refine wpList_store_row rfl 29 (.tmp 2) (.tmp 9) rfl g #[.int .i64 0, .int .i64 0, .int .i64 0, .int .i64 0, .int .i64 0, .int .i64 0, .bool false, .int .i64 0, .int .i64 0, .int .i64 0, .int .i64 0, .slice none 0 0, .int .i64 0, .int .i64 0, .slice none 0 0, .slice none 0 0, .int .i64 0, .int .i64 0, .int .i64 0, .int .i64 0, .int .i64 0, .slice none 0 0, .slice none 0 0, .slice none 0 0] rfl rfl 29 msgZ HK1.out (by kernel_rfl) rfl (by kernel_rfl) ?_)
      | fail)
    refine bodyPost_ret (results_cell_tmp rfl _ _ _ _ _ _ rfl (HK1.out.row #[.int .i64 0, .int .i64 0, .int .i64 0, .int .i64 0, .int .i64 0, .int .i64 0, .bool false, .int .i64 0, .int .i64 0, .int .i64 0, .int .i64 0, .slice none 0 0, .int .i64 0, .int .i64 0, .slice none 0 0, .slice none 0 0, .int .i64 0, .int .i64 0, .int .i64 0, .int .i64 0, .int .i64 0, .slice none 0 0, .slice none 0 0, .slice none 0 0]) Try.underlying29 rfl (by kernel_rfl)) rfl ?_
    rw [hr]
    exact HEND.out _ none GA.zero Mg.zero _ rfl rfl (Below.refl _ _) (OwnG.zero _ _)
  · have HR4 : Hid (Rd wz wz.heap.size (cutAt A c 4) (n - 4) (bv (l.drop 4))) := Lib.hid (by rw [bv_drop]; exact (HRZ.out.drop (by omega) hc).fit)
    have HRT : Hid (Rd wz wz.heap.size A 4 (bv (l.take 4))) := Lib.hid (by rw [bv_take]; exact (HRZ.out.take (by omega)).fit)
    have HD : Hid (∀ x ∈ l.drop 4, x < 256) := Lib.hid (fun x hx => HBY.out x (List.mem_of_mem_drop hx))
    have HT : Hid (∀ x ∈ l.take 4, x < 256) := Lib.hid (fun x hx => HBY.out x (List.mem_of_mem_take hx))
    have HDL : Hid ((l.drop 4).length ≤ 2000000) := Lib.hid (by have := HL.out; simp; omega)
    have HNM : Hid (n - 4 ≤ maxLen) := Lib.hid (by have := HL.out; unfold maxLen; omega)
    have HOP : Hid (Fr.opn l = if l.take 4 = Fr.four (Crc.sum (l.drop 4)) then Mg.dec (l.drop 4) else none) := Lib.hid (by unfold Fr.opn; rw [if_neg (by omega)])
    have hs1 : ∀ w : World, (Instr.slice 22 (.slice A n c) none (some (.int .i64 4)) none).run Try.prog w = .ok (.slice A 4 c) w := fun w => run_slice_to (P := Try.prog) (t := 22) byteT.under HI1.out A n c 4 (by omega) w
    have hs2 : ∀ w : World, (Instr.slice 22 (.slice A n c) (some (.int .i64 4)) none none).run Try.prog w = .ok (.slice (cutAt A c 4) (n - 4) (c - 4)) w := fun w => run_slice_from (P := Try.prog) (t := 22) byteT.under HI1.out HI3.out A n c 4 (by omega) w
    clear hn hc HL HBY
    obtain ⟨T, hT⟩ : ∃ x, l.take 4 = x := ⟨_, rfl⟩
    obtain ⟨D, hD⟩ : ∃ x, l.drop 4 = x := ⟨_, rfl⟩
    obtain ⟨AD, hAD⟩ : ∃ x, cutAt A c 4 = x := ⟨_, rfl⟩
    obtain ⟨X, hX⟩ : ∃ x, Fr.opn l = x := ⟨_, rfl⟩
    rw [hX] at HOP ⊢
    rw [hT, hD] at HOP
    rw [hT] at HRT HT
    rw [hD] at HR4 HD HDL
    rw [hAD] at HR4 hs2
    clear hT hD hX hAD
    go_enter Try.func18, Try.ntmps18
    go_upto_region 1 with fail
    rw [HG.out, HWZ.out]
    clear HWZ
    go_upto_region 3 with fail
    go_quiet (fail)
    have HR0 := HR4
    have hbd := belowN_ (Below.refl wz.heap.size wz) nq
    have HR4 := Lib.hid (HR4.out.below hbd)
    have HRT := Lib.hid (HRT.out.below hbd)
    have HBD := Lib.hid hbd
    generalize wz.drewN nq = wd at hbd HR4 HRT HBD ⊢
    clear hbd hs1 hs2
    by_cases he : T = Fr.four (Crc.sum D)
    · have hd : decide (T = Fr.four (Crc.sum D)) = true := by simpa using he
      have hXd : X = Mg.dec D := by rw [HOP.out, if_pos he]
      clear he
      have HDEC : Hid (∀ wx, Below wz.heap.size wz wx → Calls Try.prog 15 #[.slice AD (n - 4) (c - 4)] wx (GotG wz wx X)) := Lib.hid (fun wx hb => decode11.is hXd.symm HDL.out HD.out (HR0.out.below hb) hb)
      clear hXd
      go_upto_region 6 with (first
        | (go_at_call 40; refine (frsum_any HD.out HNM.out HR4.out HBD.out).mono ?_; rintro en w2 ⟨A2, c2, he2, ho2, hB2, hb2⟩
           have he3 : en = .returned (.slice A2 4 c2) := he2
           have ho3 : OwnB wz w2 A2 4 c2 (Fr.four (Crc.sum D)) := ho2
           clear he2 ho2
           subst he3
           have HS := Lib.hid (Rd.own_ ho3)
           have HB2 := Lib.hid hB2
           have HBB := Lib.hid (hb2.mono HBD.out.size)
           clear ho3 hB2 hb2)
        | (go_at_call 28; refine (equal_any _ _ _ _ _ _ _ _ _ T (Fr.four (Crc.sum D)) HT.out (Fr.four_lt _) (HRT.out.below HBB.out) HS.out).mono ?_; rintro en wq ⟨rfl, rfl⟩; rw [hd])
        | fail)
      have HK2 := Lib.hid (HK1.out.below HB2.out)
      go_wp2_with (first
        | (go_at_call 15; refine (HDEC.out _ HB2.out).mono ?_; rintro en w3 ⟨a, hen, ho, hB3, hb3⟩
           obtain ⟨M, hM⟩ : ∃ x, X.getD Mg.zero = x := ⟨_, rfl⟩
           have hen2 : en = .returned (.tuple #[.agg #[.int .i64 M.kind, .int .i64 M.frm, .int .i64 M.dst, .int .i64 M.view, .int .i64 M.inst, .int .i64 M.len, .bool M.has, .int .i64 M.mem, .int .i64 M.src, .int .i64 M.pos, .int .i64 M.tot, .slice a.Ad M.data.length a.cd, .int .i64 M.hop, .int .i64 M.seq, .slice a.Ah M.hav.length a.ch, .slice a.An M.nee.length a.cn, .int .i64 M.idx, .int .i64 M.ent.s, .int .i64 M.ent.q, .int .i64 M.ent.c.kind, .int .i64 M.ent.c.who, .slice a.c.Ak M.ent.c.key.length a.c.ck, .slice a.c.Av M.ent.c.val.length a.c.cv, .slice a.c.Ao M.ent.c.old.length a.c.co], .bool X.isSome]) := by rw [hM] at hen; exact hen
           rw [hM] at ho
           clear hen
           subst hen2
           have HO := Lib.hid ho
           have HM := Lib.hid hM
           have HB3 := Lib.hid hB3
           have HK3 := Lib.hid (HK2.out.below hb3)
           clear ho hB3 hb3 hM)
        | (refine wpList_store_row rfl 29 (.tmp 2) (.tmp 22) rfl g #[.int .i64 M.kind, .int .i64 M.frm, .int .i64 M.dst, .int .i64 M.view, .int .i64 M.inst, .int .i64 M.len, .bool M.has, .int .i64 M.mem, .int .i64 M.src, .int .i64 M.pos, .int .i64 M.tot, .slice a.Ad M.data.length a.cd, .int .i64 M.hop, .int .i64 M.seq, .slice a.Ah M.hav.length a.ch, .slice a.An M.nee.length a.cn, .int .i64 M.idx, .int .i64 M.ent.s, .int .i64 M.ent.q, .int .i64 M.ent.c.kind, .int .i64 M.ent.c.who, .slice a.c.Ak M.ent.c.key.length a.c.ck, .slice a.c.Av M.ent.c.val.length a.c.cv, .slice a.c.Ao M.ent.c.old.length a.c.co] rfl rfl 29 msgZ HK3.out (by kernel_rfl) rfl (by kernel_rfl) ?_)
        | fail)
      refine bodyPost_ret (results_cell_tmp rfl _ _ _ _ _ _ rfl (HK3.out.row #[.int .i64 M.kind, .int .i64 M.frm, .int .i64 M.dst, .int .i64 M.view, .int .i64 M.inst, .int .i64 M.len, .bool M.has, .int .i64 M.mem, .int .i64 M.src, .int .i64 M.pos, .int .i64 M.tot, .slice a.Ad M.data.length a.cd, .int .i64 M.hop, .int .i64 M.seq, .slice a.Ah M.hav.length a.ch, .slice a.An M.nee.length a.cn, .int .i64 M.idx, .int .i64 M.ent.s, .int .i64 M.ent.q, .int .i64 M.ent.c.kind, .int .i64 M.ent.c.who, .slice a.c.Ak M.ent.c.key.length a.c.ck, .slice a.c.Av M.ent.c.val.length a.c.cv, .slice a.c.Ao M.ent.c.old.length a.c.co]) Try.underlying29 rfl (by kernel_rfl)) rfl ?_
      exact HEND.out _ X a M _ HM.out rfl HB3.out HO.out
    · have hd : decide (T = Fr.four (Crc.sum D)) = false := by simpa using he
      have hXd : X = none := by rw [HOP.out, if_neg he]
      clear he
      go_upto_region 5 with (first
        | (go_at_call 40; refine (frsum_any HD.out HNM.out HR4.out HBD.out).mono ?_; rintro en w2 ⟨A2, c2, he2, ho2, hB2, hb2⟩
           have he3 : en = .returned (.slice A2 4 c2) := he2
           have ho3 : OwnB wz w2 A2 4 c2 (Fr.four (Crc.sum D)) := ho2
           clear he2 ho2
           subst he3
           have HS := Lib.hid (Rd.own_ ho3)
           have HB2 := Lib.hid hB2
           have HBB := Lib.hid (hb2.mono HBD.out.size)
           clear ho3 hB2 hb2)
        | (go_at_call 28; refine (equal_any _ _ _ _ _ _ _ _ _ T (Fr.four (Crc.sum D)) HT.out (Fr.four_lt _) (HRT.out.below HBB.out) HS.out).mono ?_; rintro en wq ⟨rfl, rfl⟩; rw [hd])
        | fail)
      have HK2 := Lib.hid (HK1.out.below HB2.out)
      go_wp2_with (first
        | (refine wpList_store_row rfl 29 (.tmp 2) (.tmp 19) rfl g #[.int .i64 0, .int .i64 0, .int .i64 0, .int .i64 0, .int .i64 0, .int .i64 0, .bool false, .int .i64 0, .int .i64 0, .int .i64 0, .int .i64 0, .slice none 0 0, .int .i64 0, .int .i64 0, .slice none 0 0, .slice none 0 0, .int .i64 0, .int .i64 0, .int .i64 0, .int .i64 0, .int .i64 0, .slice none 0 0, .slice none 0 0, .slice none 0 0] rfl rfl 29 msgZ HK2.out (by kernel_rfl) rfl (by kernel_rfl) ?_)
        | fail)
      refine bodyPost_ret (results_cell_tmp rfl _ _ _ _ _ _ rfl (HK2.out.row #[.int .i64 0, .int .i64 0, .int .i64 0, .int .i64 0, .int .i64 0, .int .i64 0, .bool false, .int .i64 0, .int .i64 0, .int .i64 0, .int .i64 0, .slice none 0 0, .int .i64 0, .int .i64 0, .slice none 0 0, .slice none 0 0, .int .i64 0, .int .i64 0, .int .i64 0, .int .i64 0, .int .i64 0, .slice none 0 0, .slice none 0 0, .slice none 0 0]) Try.underlying29 rfl (by kernel_rfl)) rfl ?_
      rw [hXd]
      exact HEND.out _ none GA.zero Mg.zero _ rfl rfl HB2.out (OwnG.zero _ _)
theorem fropen_any {W w : World} {A : Option Addr} {n c B : Nat} {l : List Nat} (hl : l.length ≤ 2000000) (hb : ∀ x ∈ l, x < 256) (hc : n ≤ c) (h : Rd w B A n (bv l)) (hB : Below W.heap.size W w) : Calls Try.prog 18 #[.slice A n c] w (GotG W w (Fr.opn l)) :=
  (fropen_raw hl hb hc h).mono fun e w' hh => GotG.of hB hh
theorem fropen_is {W w : World} {A : Option Addr} {n c B : Nat} {l : List Nat} {r : Option Mg} (he : Fr.opn l = r) (hl : l.length ≤ 2000000) (hb : ∀ x ∈ l, x < 256) (hc : n ≤ c) (h : Rd w B A n (bv l)) (hB : Below W.heap.size W w) : Calls Try.prog 18 #[.slice A n c] w (GotG W w r) := by
  subst he; exact fropen_any hl hb hc h hB
end Go.Proofs.Ytmdkbmafkglhdaa

namespace Go.Proofs.Ytmdkbmafkglhdaa
open Go.RowKit
set_option linter.unusedVariables false
theorem Mg.enc_cases {m : Mg} (hw : m.Wide) : m.enc.length ≤ 1000 ∧ ∀ x ∈ m.enc, x < 256 := by
  cases h : m.ok with
  | true => exact ⟨Mg.enc_len h, Mg.enc_lt h hw⟩
  | false => rw [Mg.enc_none h]; exact ⟨by simp, fun x hx => by cases hx⟩
set_option maxHeartbeats 2000000 in
set_option maxRecDepth 100000 in
theorem frwrap_raw {w : World} {a : GA} {m : Mg} {B : Nat} (hM : m.Wide) (hr : RdG w B a m) : Calls Try.prog 17 #[msgV a m] w (GotIn w w (Fr.wrap m)) := by
  obtain ⟨g, hg⟩ : ∃ g, w.heap.size = g := ⟨_, rfl⟩
  obtain ⟨wx, hwx⟩ : ∃ wx, w.alloc (.cells (msgC a m) 29) = wx := ⟨_, rfl⟩
  have hbb : Below w.heap.size w wx := by rw [← hwx]; exact (Below.refl _ _).alloc (Nat.le_refl _) _
  have k1 : Blk wx g 29 (msgC a m) := by rw [← hwx, ← hg]; exact Blk.new _ _ _
  have hE := encode11 (W := w) (w := wx) hM (hr.fit.below hbb) hbb
  have hln := Mg.enc_cases hM
  have hwr : Fr.wrap m = Fr.wrapL m.enc := rfl
  rw [hwr]
  obtain ⟨L, hL⟩ : ∃ x, m.enc = x := ⟨_, rfl⟩
  rw [hL] at hE hln ⊢
  have HE := Lib.hid hE
  have HK1 := Lib.hid k1
  have HWX := Lib.hid hwx
  have HG := Lib.hid hg
  have HLT := Lib.hid hln.2
  have HLN := Lib.hid hln.1
  clear hM hr hbb k1 hwx hg hE hln hwr hL
  unfold msgV msgC at HE
  unfold msgC at HK1 HWX
  unfold msgV msgC
  by_cases h0 : L = []
  · have b0 : ((L.length : Int) == 0) = true := by subst h0; rfl
    have HR : Hid (Fr.wrapL L = []) := Lib.hid (by subst h0; rfl)
    clear h0
    go_enter Try.func17, Try.ntmps17
    go_upto_region 1 with fail
    rw [HG.out, HWX.out]
    clear HWX
    go_wp2_with (first
      | (refine wpList_load_row rfl 29 (.tmp 1) rfl g rfl 29 #[.int .i64 m.kind, .int .i64 m.frm, .int .i64 m.dst, .int .i64 m.view, .int .i64 m.inst, .int .i64 m.len, .bool m.has, .int .i64 m.mem, .int .i64 m.src, .int .i64 m.pos, .int .i64 m.tot, .slice a.Ad m.data.length a.cd, .int .i64 m.hop, .int .i64 m.seq, .slice a.Ah m.hav.length a.ch, .slice a.An m.nee.length a.cn, .int .i64 m.idx, .int .i64 m.ent.s, .int .i64 m.ent.q, .int .i64 m.ent.c.kind, .int .i64 m.ent.c.who, .slice a.c.Ak m.ent.c.key.length a.c.ck, .slice a.c.Av m.ent.c.val.length a.c.cv, .slice a.c.Ao m.ent.c.old.length a.c.co] (0, 0) _ HK1.out Try.underlying29 rfl (by kernel_rfl) ?_)
      | (go_at_call 12; refine HE.out.mono ?_; rintro en w1 ⟨A, c, rfl, ho, hB, hb⟩; have HO := Lib.hid ho; have HB := Lib.hid hB; clear ho hB hb)
      | fail)
    go_ret
    rw [HR.out]
    exact ⟨none, 0, rfl, own_nil _ _, HB.out, HB.out⟩
  · have b0 : ((L.length : Int) == 0) = false := by
      rw [beq_eq_false_iff_ne]
      intro e
      exact h0 (List.length_eq_zero_iff.1 (by omega))
    have HR : Hid (Fr.wrapL L = Fr.four (Crc.sum L) ++ L ∧ 4 + L.length = (Fr.four (Crc.sum L) ++ L).length) := Lib.hid ⟨Fr.wrapL_eq h0, by rw [List.length_append, Fr.four_len]⟩
    clear h0
    go_enter Try.func17, Try.ntmps17
    go_upto_region 1 with fail
    rw [HG.out, HWX.out]
    clear HWX
    go_wp2_with (first
      | (refine wpList_load_row rfl 29 (.tmp 1) rfl g rfl 29 #[.int .i64 m.kind, .int .i64 m.frm, .int .i64 m.dst, .int .i64 m.view, .int .i64 m.inst, .int .i64 m.len, .bool m.has, .int .i64 m.mem, .int .i64 m.src, .int .i64 m.pos, .int .i64 m.tot, .slice a.Ad m.data.length a.cd, .int .i64 m.hop, .int .i64 m.seq, .slice a.Ah m.hav.length a.ch, .slice a.An m.nee.length a.cn, .int .i64 m.idx, .int .i64 m.ent.s, .int .i64 m.ent.q, .int .i64 m.ent.c.kind, .int .i64 m.ent.c.who, .slice a.c.Ak m.ent.c.key.length a.c.ck, .slice a.c.Av m.ent.c.val.length a.c.cv, .slice a.c.Ao m.ent.c.old.length a.c.co] (0, 0) _ HK1.out Try.underlying29 rfl (by kernel_rfl) ?_)
      | (go_at_call 12; refine HE.out.mono ?_; rintro en w1 ⟨A, c, rfl, ho, hB, hb⟩; have HO := Lib.hid ho; have HB := Lib.hid hB; clear ho hB hb)
      | (go_at_call 40; refine (frsum_any HLT.out (by have := HLN.out; unfold maxLen; omega) (Rd.own_ HO.out) HB.out).mono ?_; rintro en w2 ⟨A2, c2, he, ho2, hB2, hb2⟩
         have he2 : en = .returned (.slice A2 4 c2) := he
         have ho2' : OwnB w w2 A2 4 c2 (Fr.four (Crc.sum L)) := ho2
         clear he ho2
         subst he2
         have HS := Lib.hid ho2'
         have HB2 := Lib.hid hB2
         have HO2 := Lib.hid (own_below HO.out hb2)
         clear ho2' hB2 hb2)
      | (at_builtin
         refine wpList_append_bytes (W := w) byteT (.tmp 10) (.tmp 11) rfl (by rfl) rfl HS.out rfl (Rd.own_ HO2.out) (by have := HLN.out; omega) HB2.out ?_
         intro A3 c3 w3 ho3 hr3 hB3
         have HO3 := Lib.hid ho3
         have HB3 := Lib.hid hB3
         clear ho3 hr3 hB3)
      | fail)
    go_ret
    rw [HR.out.1]
    refine ⟨A3, c3, by rw [← HR.out.2]; rfl, ?_, HB3.out, HB3.out⟩
    rw [← HR.out.2]
    exact HO3.out
theorem frwrap_any {W w : World} {a : GA} {m : Mg} {B : Nat} (hM : m.Wide) (hr : RdG w B a m) (hB : Below W.heap.size W w) : Calls Try.prog 17 #[msgV a m] w (GotIn W w (Fr.wrap m)) :=
  (frwrap_raw hM hr).mono fun e w' ⟨A, c, h1, h2, h3, h4⟩ => ⟨A, c, h1, own_of hB.size h2, hB.trans (h3.mono hB.size), h4⟩
theorem frwrap_is {W w : World} {a : GA} {m : Mg} {B : Nat} {l : List Nat} (he : Fr.wrap m = l) (hM : m.Wide) (hr : RdG w B a m) (hB : Below W.heap.size W w) : Calls Try.prog 17 #[msgV a m] w (GotIn W w l) := by
  subst he; exact frwrap_any hM hr hB
end Go.Proofs.Ytmdkbmafkglhdaa

namespace Go.Proofs.Ytmdkbmafkglhdaa
open Go.RowKit
set_option linter.unusedVariables false
namespace mesgA
end mesgA
/-- a load of a whole block, where it is asked for -/
theorem wpList_load_rowG {P : Program} {ops : Array Oper} {rest : List Oper} {o : Oper} {a : Act} {w : World} {Q : Exit → Act → World → Prop} (hw : Region.wanted o (yielded ops a.tmps) = true) (ty : TypeId) (x : Operand) (ho : o.op = .load ty x)
    (g : Nat) (hx : a.eval x = .pointer (some ⟨g, 0, none⟩)) (t : TypeId) (cs : Array Value) (fr : Nat × Nat) (d : TypeDesc) (hg : w.heap[g]? = some (.cells cs t fr))
    (hu : P.underlying ty = some d) (hd : (match d with | .struct _ | .array _ _ => true | _ => false) = true) (hi : (P.info? ty).map (·.size) = some cs.size)
    (h : wpList P ops Q rest (a.put o.dst (.agg cs)) w) : wpList P ops Q (o :: rest) a w := by
  unfold wpList
  rw [if_pos hw]
  exact Or.inl (wp_load_row ty x ho g hx t cs fr d hg hu hd hi h)
end Go.Proofs.Ytmdkbmafkglhdaa

