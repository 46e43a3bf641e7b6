/- Ref11Enc -/
import Derived.Test.YtlfkgpllleogoaaMT47
namespace Go.Proofs.Ytlfkgpllleogoaa
open Go.RowKit
set_option linter.unusedVariables false
set_option maxHeartbeats 8000000 in
set_option maxRecDepth 100000 in
theorem refEncode_raw (w : World) {a : GA} {m : Mg} {B : Nat} (hM : m.Wide) (hr : RdG w B a m) : Calls Try.prog 15 #[msgV a m] w (GotIn w w m.enc) := by
  obtain ⟨wa, hwa⟩ : ∃ x, w.alloc (.cells #[.int .i64 m.kind, .int .i64 m.frm, .int .i64 m.dst, .int .i64 m.view, .int .i64 m.inst, .int .i64 m.len, .bool m.has, .int .i64 m.mem, .int .i64 m.src, .int .i64 m.pos, .int .i64 m.tot, .slice a.Ad m.data.length a.cd, .int .i64 m.hop, .int .i64 m.seq, .slice a.Ah m.hav.length a.ch, .slice a.An m.nee.length a.cn, .int .i64 m.idx, .int .i64 m.ent.s, .int .i64 m.ent.q, .int .i64 m.ent.c.kind, .int .i64 m.ent.c.who, .slice a.c.Ak m.ent.c.key.length a.c.ck, .slice a.c.Av m.ent.c.val.length a.c.cv, .slice a.c.Ao m.ent.c.old.length a.c.co] 29) = x := ⟨_, rfl⟩
  have bb : Below w.heap.size w wa := by rw [← hwa]; exact (Below.refl _ _).alloc (Nat.le_refl _) _
  obtain ⟨g, hg⟩ : ∃ g, w.heap.size = g := ⟨_, rfl⟩
  have k1 : Blk wa g 29 #[.int .i64 m.kind, .int .i64 m.frm, .int .i64 m.dst, .int .i64 m.view, .int .i64 m.inst, .int .i64 m.len, .bool m.has, .int .i64 m.mem, .int .i64 m.src, .int .i64 m.pos, .int .i64 m.tot, .slice a.Ad m.data.length a.cd, .int .i64 m.hop, .int .i64 m.seq, .slice a.Ah m.hav.length a.ch, .slice a.An m.nee.length a.cn, .int .i64 m.idx, .int .i64 m.ent.s, .int .i64 m.ent.q, .int .i64 m.ent.c.kind, .int .i64 m.ent.c.who, .slice a.c.Ak m.ent.c.key.length a.c.ck, .slice a.c.Av m.ent.c.val.length a.c.cv, .slice a.c.Ao m.ent.c.old.length a.c.co] := by rw [← hwa, ← hg]; exact Blk.new _ _ _
  have HF : Hid (∀ wx, Below wa.heap.size wa wx → Blk wx g 29 #[.int .i64 m.kind, .int .i64 m.frm, .int .i64 m.dst, .int .i64 m.view, .int .i64 m.inst, .int .i64 m.len, .bool m.has, .int .i64 m.mem, .int .i64 m.src, .int .i64 m.pos, .int .i64 m.tot, .slice a.Ad m.data.length a.cd, .int .i64 m.hop, .int .i64 m.seq, .slice a.Ah m.hav.length a.ch, .slice a.An m.nee.length a.cn, .int .i64 m.idx, .int .i64 m.ent.s, .int .i64 m.ent.q, .int .i64 m.ent.c.kind, .int .i64 m.ent.c.who, .slice a.c.Ak m.ent.c.key.length a.c.ck, .slice a.c.Av m.ent.c.val.length a.c.cv, .slice a.c.Ao m.ent.c.old.length a.c.co]) := Lib.hid (fun wx hb => k1.below hb)
  have HR := Lib.hid (hr.fit.below bb)
  have HOK : Hid (Calls Try.prog 35 #[.agg #[.int .i64 m.kind, .int .i64 m.frm, .int .i64 m.dst, .int .i64 m.view, .int .i64 m.inst, .int .i64 m.len, .bool m.has, .int .i64 m.mem, .int .i64 m.src, .int .i64 m.pos, .int .i64 m.tot, .slice a.Ad m.data.length a.cd, .int .i64 m.hop, .int .i64 m.seq, .slice a.Ah m.hav.length a.ch, .slice a.An m.nee.length a.cn, .int .i64 m.idx, .int .i64 m.ent.s, .int .i64 m.ent.q, .int .i64 m.ent.c.kind, .int .i64 m.ent.c.who, .slice a.c.Ak m.ent.c.key.length a.c.ck, .slice a.c.Av m.ent.c.val.length a.c.cv, .slice a.c.Ao m.ent.c.old.length a.c.co]] wa fun e w' => e = .returned (.bool m.ok) ∧ Below wa.heap.size wa w') := Lib.hid (refOk11 wa hM (hr.fit.below bb))
  have HB := Lib.hid bb
  have HWA := Lib.hid hwa
  have HG := Lib.hid hg
  have HK1 := Lib.hid k1
  clear k1 bb hwa hg hr
  cases hok : m.ok with
  | false =>
    have HE : Hid (m.enc = []) := Lib.hid (Mg.enc_none hok)
    rw [hok] at HOK
    clear hok
    unfold msgV msgC
    go_enter Try.func15, Try.ntmps15
    go_upto_region 1 with fail
    rw [HG.out, HWA.out]
    clear HWA
    go_wp2_with (first
      | (refine wpList_load_row rfl 29 (.tmp 1) rfl g rfl 29 #[.int .i64 m.kind, .int .i64 m.frm, .int .i64 m.dst, .int .i64 m.view, .int .i64 m.inst, .int .i64 m.len, .bool m.has, .int .i64 m.mem, .int .i64 m.src, .int .i64 m.pos, .int .i64 m.tot, .slice a.Ad m.data.length a.cd, .int .i64 m.hop, .int .i64 m.seq, .slice a.Ah m.hav.length a.ch, .slice a.An m.nee.length a.cn, .int .i64 m.idx, .int .i64 m.ent.s, .int .i64 m.ent.q, .int .i64 m.ent.c.kind, .int .i64 m.ent.c.who, .slice a.c.Ak m.ent.c.key.length a.c.ck, .slice a.c.Av m.ent.c.val.length a.c.cv, .slice a.c.Ao m.ent.c.old.length a.c.co] (0, 0) _ HK1.out Try.underlying29 rfl (by kernel_rfl) ?_)
      | (go_at_call 35; refine HOK.out.mono ?_; rintro en w1 ⟨rfl, hb1⟩; have HB1 := Lib.hid (HB.out.trans (hb1.mono HB.out.size)); clear hb1)
      | fail)
    go_ret
    rw [HE.out]
    exact ⟨none, 0, rfl, own_nil _ _, HB1.out, HB1.out⟩
  | true =>
    have hhead : [] ++ Pk.encs [m.kind, m.frm, m.dst, m.view] = m.head := by unfold Mg.head eI; simp [Pk.encs]
    have henc : m.enc = m.head ++ m.tail := by unfold Mg.enc; rw [if_pos hok]
    have hhl : m.head.length ≤ 36 := by
      have h1 := eI_len m.kind
      have h2 := eI_len m.frm
      have h3 := eI_len m.dst
      have h4 := eI_len m.view
      unfold Mg.head
      simp only [List.length_append]
      omega
    have htail : m.tailOk = true := by unfold Mg.ok at hok; rw [Bool.and_eq_true] at hok; exact hok.2
    rw [hok] at HOK
    obtain ⟨HD, hHD⟩ : ∃ x, m.head = x := ⟨_, rfl⟩
    rw [hHD] at hhead henc hhl
    obtain ⟨R, hR⟩ : ∃ x, m.enc = x := ⟨_, rfl⟩
    rw [hR] at henc ⊢
    have HENC := Lib.hid henc
    have HHEAD := Lib.hid hhead
    have HL : Hid (HD.length ≤ 1000) := Lib.hid (by omega)
    have HTAIL := Lib.hid htail
    have HM := Lib.hid hM
    clear hhead henc hhl htail hok hHD hR hM
    unfold msgV msgC
    go_enter Try.func15, Try.ntmps15
    go_upto_region 1 with fail
    rw [HG.out, HWA.out]
    clear HWA
    go_upto_region 3 with (first
      | (refine wpList_load_row rfl 29 (.tmp 1) rfl g rfl 29 #[.int .i64 m.kind, .int .i64 m.frm, .int .i64 m.dst, .int .i64 m.view, .int .i64 m.inst, .int .i64 m.len, .bool m.has, .int .i64 m.mem, .int .i64 m.src, .int .i64 m.pos, .int .i64 m.tot, .slice a.Ad m.data.length a.cd, .int .i64 m.hop, .int .i64 m.seq, .slice a.Ah m.hav.length a.ch, .slice a.An m.nee.length a.cn, .int .i64 m.idx, .int .i64 m.ent.s, .int .i64 m.ent.q, .int .i64 m.ent.c.kind, .int .i64 m.ent.c.who, .slice a.c.Ak m.ent.c.key.length a.c.ck, .slice a.c.Av m.ent.c.val.length a.c.cv, .slice a.c.Ao m.ent.c.old.length a.c.co] (0, 0) _ HK1.out Try.underlying29 rfl (by kernel_rfl) ?_)
      | (go_at_call 35; refine HOK.out.mono ?_; rintro en w1 ⟨rfl, hb1⟩; have HBA := Lib.hid hb1; have HB1 := Lib.hid (HB.out.trans (hb1.mono HB.out.size)); clear hb1)
      | fail)
    have x0 : w1.cell? ⟨g, 0, none⟩ = some (.int .i64 m.kind) := (HF.out _ HBA.out).cell 0
    have x1 : w1.cell? ⟨g, 1, none⟩ = some (.int .i64 m.frm) := (HF.out _ HBA.out).cell 1
    have x2 : w1.cell? ⟨g, 2, none⟩ = some (.int .i64 m.dst) := (HF.out _ HBA.out).cell 2
    have x3 : w1.cell? ⟨g, 3, none⟩ = some (.int .i64 m.view) := (HF.out _ HBA.out).cell 3
    have y0 : (w1.alloc (.cells #[.int .i64 m.kind, .int .i64 m.frm, .int .i64 m.dst, .int .i64 m.view] 3)).cell? ⟨g, 0, none⟩ = some (.int .i64 m.kind) := (HF.out _ (HBA.out.alloc HBA.out.size _)).cell 0
    have C3 : Hid (Calls Try.prog 36 #[.slice none 0 0, .slice (some ⟨w1.heap.size, 0, none⟩) 4 4] (w1.alloc (.cells #[.int .i64 m.kind, .int .i64 m.frm, .int .i64 m.dst, .int .i64 m.view] 3)) (GotIn w (w1.alloc (.cells #[.int .i64 m.kind, .int .i64 m.frm, .int .i64 m.dst, .int .i64 m.view] 3)) HD)) := Lib.hid (refNums_is (l := []) (zs := [m.kind, m.frm, m.dst, m.view]) rfl HHEAD.out (own_nil _ _) (Rd.made w1 #[.int .i64 m.kind, .int .i64 m.frm, .int .i64 m.dst, .int .i64 m.view] 3 (0, 0) 4 rfl) (by simp) (by omega) (HB1.out.alloc HB1.out.size _))
    have HB1A : Hid (Below w1.heap.size w1 (w1.alloc (.cells #[.int .i64 m.kind, .int .i64 m.frm, .int .i64 m.dst, .int .i64 m.view] 3))) := Lib.hid ((Below.refl _ _).alloc (Nat.le_refl _) _)
    go_upto_region 4 with (first
      | (go_at_call 36; refine C3.out.mono ?_; rintro en w2 ⟨A1, c1, rfl, ho2, hB2, hb2⟩
         have HO := Lib.hid ho2
         have HBW := Lib.hid hB2
         have HB12 := Lib.hid (HB1A.out.trans (hb2.mono HB1A.out.size))
         clear ho2 hB2 hb2)
      | fail)
    have ha2 : Below wa.heap.size wa w2 := HBA.out.trans (HB12.out.mono HBA.out.size)
    have HA2 := Lib.hid ha2
    have HR2 := Lib.hid (HR.out.fit.below ha2)
    have HR2 := Lib.hid HR2.out.fit
    clear ha2 C3 HB1A HB12 HB1 HBA HR
    have HF2 : Hid (∀ wx, Below w2.heap.size w2 wx → Blk wx g 29 #[.int .i64 m.kind, .int .i64 m.frm, .int .i64 m.dst, .int .i64 m.view, .int .i64 m.inst, .int .i64 m.len, .bool m.has, .int .i64 m.mem, .int .i64 m.src, .int .i64 m.pos, .int .i64 m.tot, .slice a.Ad m.data.length a.cd, .int .i64 m.hop, .int .i64 m.seq, .slice a.Ah m.hav.length a.ch, .slice a.An m.nee.length a.cn, .int .i64 m.idx, .int .i64 m.ent.s, .int .i64 m.ent.q, .int .i64 m.ent.c.kind, .int .i64 m.ent.c.who, .slice a.c.Ak m.ent.c.key.length a.c.ck, .slice a.c.Av m.ent.c.val.length a.c.cv, .slice a.c.Ao m.ent.c.old.length a.c.co]) := Lib.hid (fun wx hb => HF.out wx (HA2.out.trans (hb.mono HA2.out.size)))
    have z0 : w2.cell? ⟨g, 0, none⟩ = some (.int .i64 m.kind) := (HF2.out _ (Below.refl _ _)).cell 0
    clear x0 x1 x2 x3 y0
    go_upto_region 5 with fail
    clear z0
    by_cases hk : m.kind = 2
    · have s2 : (m.kind == 2) = true := by rw [hk]; rfl
      have s3 : (m.kind == 3) = false := by rw [hk]; rfl
      have s4 : (m.kind == 4) = false := by rw [hk]; rfl
      have s5 : (m.kind == 5) = false := by rw [hk]; rfl
      have s7 : (m.kind == 7) = false := by rw [hk]; rfl
      have s8 : (m.kind == 8) = false := by rw [hk]; rfl
      have hkk := Lib.hid hk
      clear hk
      cases hhas : m.has with
      | true =>
        have hT : HD ++ Pk.encs [m.inst, m.len, 1] = R := by
          rw [HENC.out]
          unfold Mg.tail Mg.has01
          simp [hkk.out, Pk.encs, eI, hhas]
        have CN : Hid (Calls Try.prog 36 #[.slice A1 HD.length c1, .slice (some ⟨w2.heap.size, 0, none⟩) 3 3] (w2.alloc (.cells #[.int .i64 m.inst, .int .i64 m.len, .int .i64 1] 3)) (GotIn w (w2.alloc (.cells #[.int .i64 m.inst, .int .i64 m.len, .int .i64 1] 3)) R)) := Lib.hid (refNums_is (l := HD) (zs := [m.inst, m.len, 1]) rfl hT (own_below HO.out ((Below.refl _ _).alloc (Nat.le_refl _) _)) (Rd.made w2 #[.int .i64 m.inst, .int .i64 m.len, .int .i64 1] 3 (0, 0) 3 rfl) (by have := HL.out; omega) (by omega) (HBW.out.alloc HBW.out.size _))
        clear hT
        have x4 : w2.cell? ⟨g, 4, none⟩ = some (.int .i64 m.inst) := (HF2.out _ (Below.refl _ _)).cell 4
        have x5 : w2.cell? ⟨g, 5, none⟩ = some (.int .i64 m.len) := (HF2.out _ (Below.refl _ _)).cell 5
        have x6 : w2.cell? ⟨g, 6, none⟩ = some (.bool true) := by rw [← hhas]; exact (HF2.out _ (Below.refl _ _)).cell 6
        clear hhas
        go_wp2_with (first | (go_at_call 36; refine CN.out.mono ?_; rintro en w9 ⟨A9, c9, rfl, ho9, hB9, hb9⟩; have HO9 := Lib.hid ho9; have HB9 := Lib.hid hB9; clear ho9 hB9 hb9) | fail)
        go_ret
        exact ⟨A9, c9, rfl, HO9.out, HB9.out, HB9.out⟩
      | false =>
        have hT : HD ++ Pk.encs [m.inst, m.len, 0] = R := by
          rw [HENC.out]
          unfold Mg.tail Mg.has01
          simp [hkk.out, Pk.encs, eI, hhas]
        have CN : Hid (Calls Try.prog 36 #[.slice A1 HD.length c1, .slice (some ⟨w2.heap.size, 0, none⟩) 3 3] (w2.alloc (.cells #[.int .i64 m.inst, .int .i64 m.len, .int .i64 0] 3)) (GotIn w (w2.alloc (.cells #[.int .i64 m.inst, .int .i64 m.len, .int .i64 0] 3)) R)) := Lib.hid (refNums_is (l := HD) (zs := [m.inst, m.len, 0]) rfl hT (own_below HO.out ((Below.refl _ _).alloc (Nat.le_refl _) _)) (Rd.made w2 #[.int .i64 m.inst, .int .i64 m.len, .int .i64 0] 3 (0, 0) 3 rfl) (by have := HL.out; omega) (by omega) (HBW.out.alloc HBW.out.size _))
        clear hT
        have x4 : w2.cell? ⟨g, 4, none⟩ = some (.int .i64 m.inst) := (HF2.out _ (Below.refl _ _)).cell 4
        have x5 : w2.cell? ⟨g, 5, none⟩ = some (.int .i64 m.len) := (HF2.out _ (Below.refl _ _)).cell 5
        have x6 : w2.cell? ⟨g, 6, none⟩ = some (.bool false) := by rw [← hhas]; exact (HF2.out _ (Below.refl _ _)).cell 6
        clear hhas
        go_wp2_with (first | (go_at_call 36; refine CN.out.mono ?_; rintro en w9 ⟨A9, c9, rfl, ho9, hB9, hb9⟩; have HO9 := Lib.hid ho9; have HB9 := Lib.hid hB9; clear ho9 hB9 hb9) | fail)
        go_ret
        exact ⟨A9, c9, rfl, HO9.out, HB9.out, HB9.out⟩
    by_cases hk : m.kind = 3
    · have s2 : (m.kind == 2) = false := by rw [hk]; rfl
      have s3 : (m.kind == 3) = true := by rw [hk]; rfl
      have s4 : (m.kind == 4) = false := by rw [hk]; rfl
      have s5 : (m.kind == 5) = false := by rw [hk]; rfl
      have s7 : (m.kind == 7) = false := by rw [hk]; rfl
      have s8 : (m.kind == 8) = false := by rw [hk]; rfl
      have hkk := Lib.hid hk
      clear hk
      have hT : HD ++ Pk.encs [m.mem, m.src, m.len] = R := by
        rw [HENC.out]
        unfold Mg.tail
        simp [hkk.out, Pk.encs, eI]
      have CN : Hid (Calls Try.prog 36 #[.slice A1 HD.length c1, .slice (some ⟨w2.heap.size, 0, none⟩) 3 3] (w2.alloc (.cells #[.int .i64 m.mem, .int .i64 m.src, .int .i64 m.len] 3)) (GotIn w (w2.alloc (.cells #[.int .i64 m.mem, .int .i64 m.src, .int .i64 m.len] 3)) R)) := Lib.hid (refNums_is (l := HD) (zs := [m.mem, m.src, m.len]) rfl hT (own_below HO.out ((Below.refl _ _).alloc (Nat.le_refl _) _)) (Rd.made w2 #[.int .i64 m.mem, .int .i64 m.src, .int .i64 m.len] 3 (0, 0) 3 rfl) (by have := HL.out; omega) (by omega) (HBW.out.alloc HBW.out.size _))
      clear hT
      have x7 : w2.cell? ⟨g, 7, none⟩ = some (.int .i64 m.mem) := (HF2.out _ (Below.refl _ _)).cell 7
      have x8 : w2.cell? ⟨g, 8, none⟩ = some (.int .i64 m.src) := (HF2.out _ (Below.refl _ _)).cell 8
      have x5 : w2.cell? ⟨g, 5, none⟩ = some (.int .i64 m.len) := (HF2.out _ (Below.refl _ _)).cell 5
      go_wp2_with (first | (go_at_call 36; refine CN.out.mono ?_; rintro en w9 ⟨A9, c9, rfl, ho9, hB9, hb9⟩; have HO9 := Lib.hid ho9; have HB9 := Lib.hid hB9; clear ho9 hB9 hb9) | fail)
      go_ret
      exact ⟨A9, c9, rfl, HO9.out, HB9.out, HB9.out⟩
    by_cases hk : m.kind = 4
    · have s2 : (m.kind == 2) = false := by rw [hk]; rfl
      have s3 : (m.kind == 3) = false := by rw [hk]; rfl
      have s4 : (m.kind == 4) = true := by rw [hk]; rfl
      have s5 : (m.kind == 5) = false := by rw [hk]; rfl
      have s7 : (m.kind == 7) = false := by rw [hk]; rfl
      have s8 : (m.kind == 8) = false := by rw [hk]; rfl
      have hkk := Lib.hid hk
      clear hk
      have hT : HD ++ Pk.encs [m.pos] = R := by
        rw [HENC.out]
        unfold Mg.tail
        simp [hkk.out, Pk.encs, eI]
      have CN : Hid (Calls Try.prog 36 #[.slice A1 HD.length c1, .slice (some ⟨w2.heap.size, 0, none⟩) 1 1] (w2.alloc (.cells #[.int .i64 m.pos] 3)) (GotIn w (w2.alloc (.cells #[.int .i64 m.pos] 3)) R)) := Lib.hid (refNums_is (l := HD) (zs := [m.pos]) rfl hT (own_below HO.out ((Below.refl _ _).alloc (Nat.le_refl _) _)) (Rd.made w2 #[.int .i64 m.pos] 3 (0, 0) 1 rfl) (by have := HL.out; omega) (by omega) (HBW.out.alloc HBW.out.size _))
      clear hT
      have x9 : w2.cell? ⟨g, 9, none⟩ = some (.int .i64 m.pos) := (HF2.out _ (Below.refl _ _)).cell 9
      go_wp2_with (first | (go_at_call 36; refine CN.out.mono ?_; rintro en w9 ⟨A9, c9, rfl, ho9, hB9, hb9⟩; have HO9 := Lib.hid ho9; have HB9 := Lib.hid hB9; clear ho9 hB9 hb9) | fail)
      go_ret
      exact ⟨A9, c9, rfl, HO9.out, HB9.out, HB9.out⟩
    by_cases hk : m.kind = 5
    · have s2 : (m.kind == 2) = false := by rw [hk]; rfl
      have s3 : (m.kind == 3) = false := by rw [hk]; rfl
      have s4 : (m.kind == 4) = false := by rw [hk]; rfl
      have s5 : (m.kind == 5) = true := by rw [hk]; rfl
      have s7 : (m.kind == 7) = false := by rw [hk]; rfl
      have s8 : (m.kind == 8) = false := by rw [hk]; rfl
      have hkk := Lib.hid hk
      clear hk
      have HOKL : Hid (m.data.length ≤ 64) := Lib.hid (by
        have h := HTAIL.out
        unfold Mg.tailOk at h
        simp [hkk.out] at h
        exact h.2.2)
      obtain ⟨L1, hL1⟩ : ∃ x, HD ++ Pk.encs [m.pos, m.tot] = x := ⟨_, rfl⟩
      obtain ⟨L2, hL2⟩ : ∃ x, L1 ++ Pk.encB m.data = x := ⟨_, rfl⟩
      have HLB1 : Hid (L1.length ≤ 2000) := Lib.hid (by
        have h1 := HL.out
        have h2 := Pk.encs_length [m.pos, m.tot]
        rw [← hL1, List.length_append]
        simp only [List.length_cons, List.length_nil] at h2
        omega)
      have HE1 := Lib.hid hL1
      have HE2 := Lib.hid hL2
      clear hL1 hL2
      have hT : L2 = R := by
        rw [HENC.out, ← HE2.out, ← HE1.out]
        unfold Mg.tail
        simp [hkk.out, Pk.encs, eI]
      have HTT := Lib.hid hT
      clear hT
      go_upto_region 15 with fail
      go_cut [2] from 52 to 61 (fun s2 wx => ∃ (A9 : Option Addr) (c9 : Nat), s2 = .slice A9 L2.length c9 ∧ Hid (OwnB w wx A9 L2.length c9 L2) ∧ Hid (Below w2.heap.size w2 wx))
      case first =>
        refine region_invL (L := 10) (U0 := fun _ => undef) (frameE15 w w2 g a m A1 c1 HD L1 L2 _ _ _ _ _ _ _ _ _ _ _ _ _ _ _ _ _ _ _ _ _ _ _ _ _ _ _ _ _ _ _ _ _ _ _ _ _ _ _ _ _ _ _ _ _ _ _ _ _ _ _ _ _ _ _ _ _ _ _ _ _ _ _ _ _ _ _ _ _ _ _ _ _ _ _ _ _ _ _ _ _ _ _ _ _) dstE15 depsE15 (fun _ => true) (VB (kindsE15 w w2 g a m A1 c1 HD L1 L2)) (FrE15 w w2 g a m A1 c1 HD L1 L2) rfl ?hm ?hb ?inj ?dst ?deps ?all ?want ?put ?ev ?fr (VB.ext _) (Below.refl _ _) ?hok ?last
        case hok =>
          refine all_opsL (AllFrom.cons ?s0 (AllFrom.cons ?s1 (AllFrom.cons ?s2 (AllFrom.cons ?s3 (AllFrom.cons ?s4 (AllFrom.cons ?s5 (AllFrom.cons ?s6 (AllFrom.cons ?s7 (AllFrom.cons ?s8 (AllFrom.cons ?s9 AllFrom.nil))))))))))
          case s0 =>
            intro ac w1 hF hB hdep K hK
            rw [if_pos rfl]
            have f3 : ac.tmps[3]?.getD undef = .slice A1 HD.length c1 := ev_tmpB hF.2
            go_simp
            exact hK.out _ _ (Below.refl _ _) hB ⟨A1, c1, rfl, own_below HO.out hB⟩
          case s1 =>
            intro ac w1 hF hB hdep K hK
            rw [if_pos rfl]
            have f1 : ac.tmps[1]?.getD undef = .pointer (some ⟨g, 0, none⟩) := ev_tmpB hF.1
            go_simp
            exact hK.out _ _ (Below.refl _ _) hB rfl
          case s2 =>
            intro ac w1 hF hB hdep K hK
            rw [if_pos rfl]
            have e1 : ac.tmps[53]?.getD undef = .pointer (some ⟨g, 9, none⟩) := ev_tmpB (show ac.eval (.tmp 53) = .pointer (some ⟨g, 9, none⟩) from hdep 1 (by decide))
            have c0 : w1.cell? ⟨g, 9, none⟩ = some (.int .i64 m.pos) := (HF2.out _ hB).cell 9
            go_simp
            exact hK.out _ _ (Below.refl _ _) hB rfl
          case s3 =>
            intro ac w1 hF hB hdep K hK
            rw [if_pos rfl]
            have f1 : ac.tmps[1]?.getD undef = .pointer (some ⟨g, 0, none⟩) := ev_tmpB hF.1
            go_simp
            exact hK.out _ _ (Below.refl _ _) hB rfl
          case s4 =>
            intro ac w1 hF hB hdep K hK
            rw [if_pos rfl]
            have e3 : ac.tmps[55]?.getD undef = .pointer (some ⟨g, 10, none⟩) := ev_tmpB (show ac.eval (.tmp 55) = .pointer (some ⟨g, 10, none⟩) from hdep 3 (by decide))
            have c0 : w1.cell? ⟨g, 10, none⟩ = some (.int .i64 m.tot) := (HF2.out _ hB).cell 10
            go_simp
            exact hK.out _ _ (Below.refl _ _) hB rfl
          case s5 =>
            intro ac w1 hF hB hdep K hK
            rw [if_pos rfl]
            have e2 : ac.tmps[54]?.getD undef = .int .i64 m.pos := ev_tmpB (show ac.eval (.tmp 54) = .int .i64 m.pos from hdep 2 (by decide))
            have e4 : ac.tmps[56]?.getD undef = .int .i64 m.tot := ev_tmpB (show ac.eval (.tmp 56) = .int .i64 m.tot from hdep 4 (by decide))
            go_simp
            exact hK.out _ _ ((Below.refl _ _).alloc (Nat.le_refl _) _) (hB.alloc hB.size _) ⟨_, _, rfl, (Rd.made w1 #[.int .i64 m.pos, .int .i64 m.tot] 3 (0, 0) 2 rfl).fit⟩
          case s6 =>
            intro ac w1 hF hB hdep K hK
            rw [if_pos rfl]
            obtain ⟨A5, c5, e5, ho5⟩ : ∃ A5 c5, ac.eval (.tmp 52) = .slice A5 HD.length c5 ∧ OwnB w w1 A5 HD.length c5 HD := hdep 0 (by decide)
            have e5 := ev_tmpB e5
            obtain ⟨A6, c6, e6, hr6⟩ : ∃ A6 c6, ac.eval (.tmp 57) = .slice A6 ([m.pos, m.tot]).length c6 ∧ Rd w1 w1.heap.size A6 ([m.pos, m.tot]).length (iv [m.pos, m.tot]) := hdep 5 (by decide)
            have e6 := ev_tmpB e6
            simp only [List.length_cons, List.length_nil, Nat.zero_add, Nat.reduceAdd] at e6 hr6
            have HC5 := Lib.hid (refNums_is (W := w) (c := c5) (c' := c6) rfl HE1.out ho5 hr6 (by have h1 := HL.out; have h2 := HLB1.out; omega) (by omega) (HBW.out.trans (hB.mono HBW.out.size)))
            clear ho5 hr6
            go_simp
            go_at_call 36
            refine HC5.out.mono ?_
            rintro en w9 ⟨A9, c9, rfl, ho9, hB9, hb9⟩
            go_simp
            exact hK.out _ _ hb9 (hB.trans (hb9.mono hB.size)) ⟨A9, c9, rfl, ho9⟩
          case s7 =>
            intro ac w1 hF hB hdep K hK
            rw [if_pos rfl]
            have f1 : ac.tmps[1]?.getD undef = .pointer (some ⟨g, 0, none⟩) := ev_tmpB hF.1
            go_simp
            exact hK.out _ _ (Below.refl _ _) hB rfl
          case s8 =>
            intro ac w1 hF hB hdep K hK
            rw [if_pos rfl]
            have e7 : ac.tmps[59]?.getD undef = .pointer (some ⟨g, 11, none⟩) := ev_tmpB (show ac.eval (.tmp 59) = .pointer (some ⟨g, 11, none⟩) from hdep 7 (by decide))
            have c0 : w1.cell? ⟨g, 11, none⟩ = some (.slice a.Ad m.data.length a.cd) := (HF2.out _ hB).cell 11
            go_simp
            exact hK.out _ _ (Below.refl _ _) hB rfl
          case s9 =>
            intro ac w1 hF hB hdep K hK
            rw [if_pos rfl]
            obtain ⟨A5, c5, e5, ho5⟩ : ∃ A5 c5, ac.eval (.tmp 58) = .slice A5 L1.length c5 ∧ OwnB w w1 A5 L1.length c5 L1 := hdep 6 (by decide)
            have e5 := ev_tmpB e5
            have e8 : ac.tmps[60]?.getD undef = .slice a.Ad m.data.length a.cd := ev_tmpB (show ac.eval (.tmp 60) = .slice a.Ad m.data.length a.cd from hdep 8 (by decide))
            have hr6 := HR2.out.d.below hB
            have HC5 := Lib.hid (refputb_in (W := w) (c := c5) (c' := a.cd) HE2.out (Rd.own_ ho5) hr6 (by have h1 := HLB1.out; have h2 := HOKL.out; unfold Lim; omega) (HBW.out.trans (hB.mono HBW.out.size)))
            clear ho5 hr6
            go_simp
            go_at_call 37
            refine HC5.out.mono ?_
            rintro en w9 ⟨A9, c9, rfl, ho9, hB9, hb9⟩
            go_simp
            exact hK.out _ _ hb9 (hB.trans (hb9.mono hB.size)) ⟨A9, c9, rfl, ho9⟩
        case hm => kernel_rfl
        case hb => kernel_rfl
        case inj =>
          intro i j hi hj h
          have h1 : ((List.range 10).all fun i => (List.range 10).all fun j => !(dstE15 i == dstE15 j) || (i == j)) = true := by kernel_rfl
          have h2 := List.all_eq_true.1 (List.all_eq_true.1 h1 i (List.mem_range.2 hi)) j (List.mem_range.2 hj)
          simpa [h] using h2
        case dst => exact all_opsL (AllFrom.cons rfl (AllFrom.cons rfl (AllFrom.cons rfl (AllFrom.cons rfl (AllFrom.cons rfl (AllFrom.cons rfl (AllFrom.cons rfl (AllFrom.cons rfl (AllFrom.cons rfl (AllFrom.cons rfl AllFrom.nil))))))))))
        case deps =>
          refine deps_ofL (deps := depsE15) ?_
          kernel_rfl
        case all =>
          refine alls_ofL ?_
          kernel_rfl
        case want => exact all_opsL (AllFrom.cons (fun U w hd => rfl) (AllFrom.cons (fun U w hd => rfl) (AllFrom.cons (fun U w hd => rfl) (AllFrom.cons (fun U w hd => rfl) (AllFrom.cons (fun U w hd => rfl) (AllFrom.cons (fun U w hd => rfl) (AllFrom.cons (fun U w hd => rfl) (AllFrom.cons (fun U w hd => rfl) (AllFrom.cons (fun U w hd => rfl) (AllFrom.cons (fun U w hd => rfl) AllFrom.nil))))))))))
        case put => exact all_opsL (AllFrom.cons (fun _ _ => by kernel_rfl) (AllFrom.cons (fun _ _ => by kernel_rfl) (AllFrom.cons (fun _ _ => by kernel_rfl) (AllFrom.cons (fun _ _ => by kernel_rfl) (AllFrom.cons (fun _ _ => by kernel_rfl) (AllFrom.cons (fun _ _ => by kernel_rfl) (AllFrom.cons (fun _ _ => by kernel_rfl) (AllFrom.cons (fun _ _ => by kernel_rfl) (AllFrom.cons (fun _ _ => by kernel_rfl) (AllFrom.cons (fun _ _ => by kernel_rfl) AllFrom.nil))))))))))
        case ev => exact all_opsL (AllFrom.cons (fun _ => by kernel_rfl) (AllFrom.cons (fun _ => by kernel_rfl) (AllFrom.cons (fun _ => by kernel_rfl) (AllFrom.cons (fun _ => by kernel_rfl) (AllFrom.cons (fun _ => by kernel_rfl) (AllFrom.cons (fun _ => by kernel_rfl) (AllFrom.cons (fun _ => by kernel_rfl) (AllFrom.cons (fun _ => by kernel_rfl) (AllFrom.cons (fun _ => by kernel_rfl) (AllFrom.cons (fun _ => by kernel_rfl) AllFrom.nil))))))))))
        case fr => exact fun U => ⟨by kernel_rfl, by kernel_rfl⟩
        case last =>
          intro o ho U w' hB hV K hK
          obtain rfl := Option.some.inj (show some _ = some o from ho)
          rw [if_pos (by rfl)]
          obtain ⟨A9, c9, e9, ho9⟩ : ∃ A c, U 61 = .slice A (L2).length c ∧ OwnB w w' A (L2).length c (L2) := hV 9 (by decide)
          refine wp_of_run (v := .slice A9 (L2).length c9) (ch_assign rfl ((show _ = U 61 from by kernel_rfl).trans e9)) ?_
          refine hK.out _ _ ?_
          have HB9 := Lib.hid hB
          have HO9 := Lib.hid ho9
          clear hV hB ho9
          unfold frameE15
          go_simp
          go_wp2_with fail
          go_meet
          exact ⟨A9, c9, rfl, HO9, HB9⟩
      case rest =>
        obtain ⟨A9, c9, rfl, HO9, HB9⟩ := hcut
        rename World => w9
        have HBF := Lib.hid (HBW.out.trans (HB9.out.mono HBW.out.size))
        go_wp2_with fail
        go_ret
        rw [← HTT.out]
        exact ⟨A9, c9, rfl, HO9.out, HBF.out, HBF.out⟩
    by_cases hk : m.kind = 7
    · have s2 : (m.kind == 2) = false := by rw [hk]; rfl
      have s3 : (m.kind == 3) = false := by rw [hk]; rfl
      have s4 : (m.kind == 4) = false := by rw [hk]; rfl
      have s5 : (m.kind == 5) = false := by rw [hk]; rfl
      have s7 : (m.kind == 7) = true := by rw [hk]; rfl
      have s8 : (m.kind == 8) = false := by rw [hk]; rfl
      have hkk := Lib.hid hk
      clear hk
      have HOKL : Hid (m.hav.length ≤ 7 ∧ m.nee.length ≤ 8) := Lib.hid (by
        have h := HTAIL.out
        unfold Mg.tailOk at h
        simp [hkk.out, wis] at h
        omega)
      obtain ⟨L1, hL1⟩ : ∃ x, HD ++ Pk.encs [m.hop, m.seq, (m.hav.length : Int)] = x := ⟨_, rfl⟩
      obtain ⟨L2, hL2⟩ : ∃ x, L1 ++ Pk.encs m.hav = x := ⟨_, rfl⟩
      have HLB1 : Hid (L1.length ≤ 2000) := Lib.hid (by
        have h1 := HL.out
        have h2 := Pk.encs_length [m.hop, m.seq, (m.hav.length : Int)]
        rw [← hL1, List.length_append]
        simp only [List.length_cons, List.length_nil] at h2
        omega)
      have HE1 := Lib.hid hL1
      have HE2 := Lib.hid hL2
      clear hL1 hL2
      have hT : L2 ++ Pk.encs [(m.nee.length : Int)] ++ Pk.encs m.nee = R := by
        rw [HENC.out, ← HE2.out, ← HE1.out]
        unfold Mg.tail
        simp [hkk.out, Pk.encs, eI, encN]
      have HTT := Lib.hid hT
      clear hT
      go_upto_region 17 with fail
      go_cut [3] from 64 to 76 (fun s3 wx => ∃ (A9 : Option Addr) (c9 : Nat), s3 = .slice A9 L2.length c9 ∧ Hid (OwnB w wx A9 L2.length c9 L2) ∧ Hid (Below w2.heap.size w2 wx))
      case first =>
        refine region_invL (L := 13) (U0 := fun _ => undef) (frameE17 w w2 g a m A1 c1 HD L1 L2 _ _ _ _ _ _ _ _ _ _ _ _ _ _ _ _ _ _ _ _ _ _ _ _ _ _ _ _ _ _ _ _ _ _ _ _ _ _ _ _ _ _ _ _ _ _ _ _ _ _ _ _ _ _ _ _ _ _ _ _ _ _ _ _ _ _ _ _ _ _ _ _ _ _ _ _ _ _ _ _ _ _) dstE17 depsE17 (fun _ => true) (VB (kindsE17 w w2 g a m A1 c1 HD L1 L2)) (FrE17 w w2 g a m A1 c1 HD L1 L2) rfl ?hm ?hb ?inj ?dst ?deps ?all ?want ?put ?ev ?fr (VB.ext _) (Below.refl _ _) ?hok ?last
        case hok =>
          refine all_opsL (AllFrom.cons ?s0 (AllFrom.cons ?s1 (AllFrom.cons ?s2 (AllFrom.cons ?s3 (AllFrom.cons ?s4 (AllFrom.cons ?s5 (AllFrom.cons ?s6 (AllFrom.cons ?s7 (AllFrom.cons ?s8 (AllFrom.cons ?s9 (AllFrom.cons ?s10 (AllFrom.cons ?s11 (AllFrom.cons ?s12 AllFrom.nil)))))))))))))
          case s0 =>
            intro ac w1 hF hB hdep K hK
            rw [if_pos rfl]
            have f3 : ac.tmps[3]?.getD undef = .slice A1 HD.length c1 := ev_tmpB hF.2
            go_simp
            exact hK.out _ _ (Below.refl _ _) hB ⟨A1, c1, rfl, own_below HO.out hB⟩
          case s1 =>
            intro ac w1 hF hB hdep K hK
            rw [if_pos rfl]
            have f1 : ac.tmps[1]?.getD undef = .pointer (some ⟨g, 0, none⟩) := ev_tmpB hF.1
            go_simp
            exact hK.out _ _ (Below.refl _ _) hB rfl
          case s2 =>
            intro ac w1 hF hB hdep K hK
            rw [if_pos rfl]
            have e1 : ac.tmps[65]?.getD undef = .pointer (some ⟨g, 12, none⟩) := ev_tmpB (show ac.eval (.tmp 65) = .pointer (some ⟨g, 12, none⟩) from hdep 1 (by decide))
            have c0 : w1.cell? ⟨g, 12, none⟩ = some (.int .i64 m.hop) := (HF2.out _ hB).cell 12
            go_simp
            exact hK.out _ _ (Below.refl _ _) hB rfl
          case s3 =>
            intro ac w1 hF hB hdep K hK
            rw [if_pos rfl]
            have f1 : ac.tmps[1]?.getD undef = .pointer (some ⟨g, 0, none⟩) := ev_tmpB hF.1
            go_simp
            exact hK.out _ _ (Below.refl _ _) hB rfl
          case s4 =>
            intro ac w1 hF hB hdep K hK
            rw [if_pos rfl]
            have e3 : ac.tmps[67]?.getD undef = .pointer (some ⟨g, 13, none⟩) := ev_tmpB (show ac.eval (.tmp 67) = .pointer (some ⟨g, 13, none⟩) from hdep 3 (by decide))
            have c0 : w1.cell? ⟨g, 13, none⟩ = some (.int .i64 m.seq) := (HF2.out _ hB).cell 13
            go_simp
            exact hK.out _ _ (Below.refl _ _) hB rfl
          case s5 =>
            intro ac w1 hF hB hdep K hK
            rw [if_pos rfl]
            have f1 : ac.tmps[1]?.getD undef = .pointer (some ⟨g, 0, none⟩) := ev_tmpB hF.1
            go_simp
            exact hK.out _ _ (Below.refl _ _) hB rfl
          case s6 =>
            intro ac w1 hF hB hdep K hK
            rw [if_pos rfl]
            have e5 : ac.tmps[69]?.getD undef = .pointer (some ⟨g, 14, none⟩) := ev_tmpB (show ac.eval (.tmp 69) = .pointer (some ⟨g, 14, none⟩) from hdep 5 (by decide))
            have c0 : w1.cell? ⟨g, 14, none⟩ = some (.slice a.Ah m.hav.length a.ch) := (HF2.out _ hB).cell 14
            go_simp
            exact hK.out _ _ (Below.refl _ _) hB rfl
          case s7 =>
            intro ac w1 hF hB hdep K hK
            rw [if_pos rfl]
            have e6 : ac.tmps[70]?.getD undef = .slice a.Ah m.hav.length a.ch := ev_tmpB (show ac.eval (.tmp 70) = .slice a.Ah m.hav.length a.ch from hdep 6 (by decide))
            go_simp
            exact hK.out _ _ (Below.refl _ _) hB rfl
          case s8 =>
            intro ac w1 hF hB hdep K hK
            rw [if_pos rfl]
            have e2 : ac.tmps[66]?.getD undef = .int .i64 m.hop := ev_tmpB (show ac.eval (.tmp 66) = .int .i64 m.hop from hdep 2 (by decide))
            have e4 : ac.tmps[68]?.getD undef = .int .i64 m.seq := ev_tmpB (show ac.eval (.tmp 68) = .int .i64 m.seq from hdep 4 (by decide))
            have e7 : ac.tmps[71]?.getD undef = .int .i64 (m.hav.length : Int) := ev_tmpB (show ac.eval (.tmp 71) = .int .i64 (m.hav.length : Int) from hdep 7 (by decide))
            go_simp
            exact hK.out _ _ ((Below.refl _ _).alloc (Nat.le_refl _) _) (hB.alloc hB.size _) ⟨_, _, rfl, (Rd.made w1 #[.int .i64 m.hop, .int .i64 m.seq, .int .i64 (m.hav.length : Int)] 3 (0, 0) 3 rfl).fit⟩
          case s9 =>
            intro ac w1 hF hB hdep K hK
            rw [if_pos rfl]
            obtain ⟨A5, c5, e5, ho5⟩ : ∃ A5 c5, ac.eval (.tmp 64) = .slice A5 HD.length c5 ∧ OwnB w w1 A5 HD.length c5 HD := hdep 0 (by decide)
            have e5 := ev_tmpB e5
            obtain ⟨A6, c6, e6, hr6⟩ : ∃ A6 c6, ac.eval (.tmp 72) = .slice A6 ([m.hop, m.seq, (m.hav.length : Int)]).length c6 ∧ Rd w1 w1.heap.size A6 ([m.hop, m.seq, (m.hav.length : Int)]).length (iv [m.hop, m.seq, (m.hav.length : Int)]) := hdep 8 (by decide)
            have e6 := ev_tmpB e6
            simp only [List.length_cons, List.length_nil, Nat.zero_add, Nat.reduceAdd] at e6 hr6
            have HC5 := Lib.hid (refNums_is (W := w) (c := c5) (c' := c6) rfl HE1.out ho5 hr6 (by have h1 := HL.out; have h2 := HLB1.out; omega) (by omega) (HBW.out.trans (hB.mono HBW.out.size)))
            clear ho5 hr6
            go_simp
            go_at_call 36
            refine HC5.out.mono ?_
            rintro en w9 ⟨A9, c9, rfl, ho9, hB9, hb9⟩
            go_simp
            exact hK.out _ _ hb9 (hB.trans (hb9.mono hB.size)) ⟨A9, c9, rfl, ho9⟩
          case s10 =>
            intro ac w1 hF hB hdep K hK
            rw [if_pos rfl]
            have f1 : ac.tmps[1]?.getD undef = .pointer (some ⟨g, 0, none⟩) := ev_tmpB hF.1
            go_simp
            exact hK.out _ _ (Below.refl _ _) hB rfl
          case s11 =>
            intro ac w1 hF hB hdep K hK
            rw [if_pos rfl]
            have e10 : ac.tmps[74]?.getD undef = .pointer (some ⟨g, 14, none⟩) := ev_tmpB (show ac.eval (.tmp 74) = .pointer (some ⟨g, 14, none⟩) from hdep 10 (by decide))
            have c0 : w1.cell? ⟨g, 14, none⟩ = some (.slice a.Ah m.hav.length a.ch) := (HF2.out _ hB).cell 14
            go_simp
            exact hK.out _ _ (Below.refl _ _) hB rfl
          case s12 =>
            intro ac w1 hF hB hdep K hK
            rw [if_pos rfl]
            obtain ⟨A5, c5, e5, ho5⟩ : ∃ A5 c5, ac.eval (.tmp 73) = .slice A5 L1.length c5 ∧ OwnB w w1 A5 L1.length c5 L1 := hdep 9 (by decide)
            have e5 := ev_tmpB e5
            have e11 : ac.tmps[75]?.getD undef = .slice a.Ah m.hav.length a.ch := ev_tmpB (show ac.eval (.tmp 75) = .slice a.Ah m.hav.length a.ch from hdep 11 (by decide))
            have hr6 := HR2.out.h.below hB
            have HC5 := Lib.hid (refNums_is (W := w) (c := c5) (c' := a.ch) rfl HE2.out ho5 hr6 (by have h1 := HL.out; have h2 := HLB1.out; omega) (by have h2 := HOKL.out; omega) (HBW.out.trans (hB.mono HBW.out.size)))
            clear ho5 hr6
            go_simp
            go_at_call 36
            refine HC5.out.mono ?_
            rintro en w9 ⟨A9, c9, rfl, ho9, hB9, hb9⟩
            go_simp
            exact hK.out _ _ hb9 (hB.trans (hb9.mono hB.size)) ⟨A9, c9, rfl, ho9⟩
        case hm => kernel_rfl
        case hb => kernel_rfl
        case inj =>
          intro i j hi hj h
          have h1 : ((List.range 13).all fun i => (List.range 13).all fun j => !(dstE17 i == dstE17 j) || (i == j)) = true := by kernel_rfl
          have h2 := List.all_eq_true.1 (List.all_eq_true.1 h1 i (List.mem_range.2 hi)) j (List.mem_range.2 hj)
          simpa [h] using h2
        case dst => exact all_opsL (AllFrom.cons rfl (AllFrom.cons rfl (AllFrom.cons rfl (AllFrom.cons rfl (AllFrom.cons rfl (AllFrom.cons rfl (AllFrom.cons rfl (AllFrom.cons rfl (AllFrom.cons rfl (AllFrom.cons rfl (AllFrom.cons rfl (AllFrom.cons rfl (AllFrom.cons rfl AllFrom.nil)))))))))))))
        case deps =>
          refine deps_ofL (deps := depsE17) ?_
          kernel_rfl
        case all =>
          refine alls_ofL ?_
          kernel_rfl
        case want => exact all_opsL (AllFrom.cons (fun U w hd => rfl) (AllFrom.cons (fun U w hd => rfl) (AllFrom.cons (fun U w hd => rfl) (AllFrom.cons (fun U w hd => rfl) (AllFrom.cons (fun U w hd => rfl) (AllFrom.cons (fun U w hd => rfl) (AllFrom.cons (fun U w hd => rfl) (AllFrom.cons (fun U w hd => rfl) (AllFrom.cons (fun U w hd => rfl) (AllFrom.cons (fun U w hd => rfl) (AllFrom.cons (fun U w hd => rfl) (AllFrom.cons (fun U w hd => rfl) (AllFrom.cons (fun U w hd => rfl) AllFrom.nil)))))))))))))
        case put => exact all_opsL (AllFrom.cons (fun _ _ => by kernel_rfl) (AllFrom.cons (fun _ _ => by kernel_rfl) (AllFrom.cons (fun _ _ => by kernel_rfl) (AllFrom.cons (fun _ _ => by kernel_rfl) (AllFrom.cons (fun _ _ => by kernel_rfl) (AllFrom.cons (fun _ _ => by kernel_rfl) (AllFrom.cons (fun _ _ => by kernel_rfl) (AllFrom.cons (fun _ _ => by kernel_rfl) (AllFrom.cons (fun _ _ => by kernel_rfl) (AllFrom.cons (fun _ _ => by kernel_rfl) (AllFrom.cons (fun _ _ => by kernel_rfl) (AllFrom.cons (fun _ _ => by kernel_rfl) (AllFrom.cons (fun _ _ => by kernel_rfl) AllFrom.nil)))))))))))))
        case ev => exact all_opsL (AllFrom.cons (fun _ => by kernel_rfl) (AllFrom.cons (fun _ => by kernel_rfl) (AllFrom.cons (fun _ => by kernel_rfl) (AllFrom.cons (fun _ => by kernel_rfl) (AllFrom.cons (fun _ => by kernel_rfl) (AllFrom.cons (fun _ => by kernel_rfl) (AllFrom.cons (fun _ => by kernel_rfl) (AllFrom.cons (fun _ => by kernel_rfl) (AllFrom.cons (fun _ => by kernel_rfl) (AllFrom.cons (fun _ => by kernel_rfl) (AllFrom.cons (fun _ => by kernel_rfl) (AllFrom.cons (fun _ => by kernel_rfl) (AllFrom.cons (fun _ => by kernel_rfl) AllFrom.nil)))))))))))))
        case fr => exact fun U => ⟨by kernel_rfl, by kernel_rfl⟩
        case last =>
          intro o ho U w' hB hV K hK
          obtain rfl := Option.some.inj (show some _ = some o from ho)
          rw [if_pos (by rfl)]
          obtain ⟨A9, c9, e9, ho9⟩ : ∃ A c, U 76 = .slice A (L2).length c ∧ OwnB w w' A (L2).length c (L2) := hV 12 (by decide)
          refine wp_of_run (v := .slice A9 (L2).length c9) (ch_assign rfl ((show _ = U 76 from by kernel_rfl).trans e9)) ?_
          refine hK.out _ _ ?_
          have HB9 := Lib.hid hB
          have HO9 := Lib.hid ho9
          clear hV hB ho9
          unfold frameE17
          go_simp
          go_wp2_with fail
          go_meet
          exact ⟨A9, c9, rfl, HO9, HB9⟩
      case rest =>
        obtain ⟨A3, c3, rfl, HO3, HB3⟩ := hcut
        rename World => w3
        have HXL : Hid (L2.length ≤ 5000) := Lib.hid (by
          rw [← HE2.out, List.length_append]
          have h1 := HLB1.out
          have h2 := HOKL.out
          have h5 := Pk.encs_length m.hav
          omega)
        have HBW3 := Lib.hid (HBW.out.trans (HB3.out.mono HBW.out.size))
        have HR3 := Lib.hid (HR2.out.below' HB3.out)
        have HF3 : Hid (∀ wx, Below w3.heap.size w3 wx → Blk wx g 29 #[.int .i64 m.kind, .int .i64 m.frm, .int .i64 m.dst, .int .i64 m.view, .int .i64 m.inst, .int .i64 m.len, .bool m.has, .int .i64 m.mem, .int .i64 m.src, .int .i64 m.pos, .int .i64 m.tot, .slice a.Ad m.data.length a.cd, .int .i64 m.hop, .int .i64 m.seq, .slice a.Ah m.hav.length a.ch, .slice a.An m.nee.length a.cn, .int .i64 m.idx, .int .i64 m.ent.s, .int .i64 m.ent.q, .int .i64 m.ent.c.kind, .int .i64 m.ent.c.who, .slice a.c.Ak m.ent.c.key.length a.c.ck, .slice a.c.Av m.ent.c.val.length a.c.cv, .slice a.c.Ao m.ent.c.old.length a.c.co]) := Lib.hid (fun wx hb => HF2.out wx (HB3.out.trans (hb.mono HB3.out.size)))
        clear HO HBW HR2 HF2 HB3 HL HA2 HE1 HE2 HLB1
        have HO := HO3
        have HBW := HBW3
        have HR2 := HR3
        have HF2 := HF3
        have HL := HXL
        clear HO3 HBW3 HR3 HF3 HXL
        obtain ⟨HDX, hHDX⟩ : ∃ x, L2 = x := ⟨_, rfl⟩
        rw [hHDX] at HO HL HTT ⊢
        clear hHDX
        clear L2 L1
        obtain ⟨L1, hL1⟩ : ∃ x, HDX ++ Pk.encs [(m.nee.length : Int)] = x := ⟨_, rfl⟩
        obtain ⟨L2, hL2⟩ : ∃ x, L1 ++ Pk.encs m.nee = x := ⟨_, rfl⟩
        have HLB1 : Hid (L1.length ≤ 6000) := Lib.hid (by
          have h1 := HL.out
          have h2 := Pk.encs_length [(m.nee.length : Int)]
          rw [← hL1, List.length_append]
          simp only [List.length_cons, List.length_nil] at h2
          omega)
        have HE1 := Lib.hid hL1
        have HE2 := Lib.hid hL2
        clear hL1 hL2
        have HTT : Hid (L2 = R) := Lib.hid (by rw [← HE2.out, ← HE1.out]; exact HTT.out)
        go_upto_region 18 with fail
        go_cut [2] from 77 to 85 (fun s2 wx => ∃ (A9 : Option Addr) (c9 : Nat), s2 = .slice A9 L2.length c9 ∧ Hid (OwnB w wx A9 L2.length c9 L2) ∧ Hid (Below w3.heap.size w3 wx))
        case first =>
          refine region_invL (L := 9) (U0 := fun _ => undef) (frameE18 w w3 g a m A3 c3 HDX L1 L2 _ _ _ _ _ _ _ _ _ _ _ _ _ _ _ _ _ _ _ _ _ _ _ _ _ _ _ _ _ _ _ _ _ _ _ _ _ _ _ _ _ _ _ _ _ _ _ _ _ _ _ _ _ _ _ _ _ _ _ _ _ _ _ _ _ _ _ _ _ _ _ _ _ _ _ _ _ _ _ _ _ _ _ _ _ _) dstE18 depsE18 (fun _ => true) (VB (kindsE18 w w3 g a m A3 c3 HDX L1 L2)) (FrE18 w w3 g a m A3 c3 HDX L1 L2) rfl ?hm ?hb ?inj ?dst ?deps ?all ?want ?put ?ev ?fr (VB.ext _) (Below.refl _ _) ?hok ?last
          case hok =>
            refine all_opsL (AllFrom.cons ?s0 (AllFrom.cons ?s1 (AllFrom.cons ?s2 (AllFrom.cons ?s3 (AllFrom.cons ?s4 (AllFrom.cons ?s5 (AllFrom.cons ?s6 (AllFrom.cons ?s7 (AllFrom.cons ?s8 AllFrom.nil)))))))))
            case s0 =>
              intro ac w1 hF hB hdep K hK
              rw [if_pos rfl]
              have f3 : ac.tmps[3]?.getD undef = .slice A3 HDX.length c3 := ev_tmpB hF.2
              go_simp
              exact hK.out _ _ (Below.refl _ _) hB ⟨A3, c3, rfl, own_below HO.out hB⟩
            case s1 =>
              intro ac w1 hF hB hdep K hK
              rw [if_pos rfl]
              have f1 : ac.tmps[1]?.getD undef = .pointer (some ⟨g, 0, none⟩) := ev_tmpB hF.1
              go_simp
              exact hK.out _ _ (Below.refl _ _) hB rfl
            case s2 =>
              intro ac w1 hF hB hdep K hK
              rw [if_pos rfl]
              have e1 : ac.tmps[78]?.getD undef = .pointer (some ⟨g, 15, none⟩) := ev_tmpB (show ac.eval (.tmp 78) = .pointer (some ⟨g, 15, none⟩) from hdep 1 (by decide))
              have c0 : w1.cell? ⟨g, 15, none⟩ = some (.slice a.An m.nee.length a.cn) := (HF2.out _ hB).cell 15
              go_simp
              exact hK.out _ _ (Below.refl _ _) hB rfl
            case s3 =>
              intro ac w1 hF hB hdep K hK
              rw [if_pos rfl]
              have e2 : ac.tmps[79]?.getD undef = .slice a.An m.nee.length a.cn := ev_tmpB (show ac.eval (.tmp 79) = .slice a.An m.nee.length a.cn from hdep 2 (by decide))
              go_simp
              exact hK.out _ _ (Below.refl _ _) hB rfl
            case s4 =>
              intro ac w1 hF hB hdep K hK
              rw [if_pos rfl]
              have e3 : ac.tmps[80]?.getD undef = .int .i64 (m.nee.length : Int) := ev_tmpB (show ac.eval (.tmp 80) = .int .i64 (m.nee.length : Int) from hdep 3 (by decide))
              go_simp
              exact hK.out _ _ ((Below.refl _ _).alloc (Nat.le_refl _) _) (hB.alloc hB.size _) ⟨_, _, rfl, (Rd.made w1 #[.int .i64 (m.nee.length : Int)] 3 (0, 0) 1 rfl).fit⟩
            case s5 =>
              intro ac w1 hF hB hdep K hK
              rw [if_pos rfl]
              obtain ⟨A5, c5, e5, ho5⟩ : ∃ A5 c5, ac.eval (.tmp 77) = .slice A5 HDX.length c5 ∧ OwnB w w1 A5 HDX.length c5 HDX := hdep 0 (by decide)
              have e5 := ev_tmpB e5
              obtain ⟨A6, c6, e6, hr6⟩ : ∃ A6 c6, ac.eval (.tmp 81) = .slice A6 ([(m.nee.length : Int)]).length c6 ∧ Rd w1 w1.heap.size A6 ([(m.nee.length : Int)]).length (iv [(m.nee.length : Int)]) := hdep 4 (by decide)
              have e6 := ev_tmpB e6
              simp only [List.length_cons, List.length_nil, Nat.zero_add] at e6 hr6
              have HC5 := Lib.hid (refNums_is (W := w) (c := c5) (c' := c6) rfl HE1.out ho5 hr6 (by have h1 := HL.out; have h2 := HLB1.out; omega) (by omega) (HBW.out.trans (hB.mono HBW.out.size)))
              clear ho5 hr6
              go_simp
              go_at_call 36
              refine HC5.out.mono ?_
              rintro en w9 ⟨A9, c9, rfl, ho9, hB9, hb9⟩
              go_simp
              exact hK.out _ _ hb9 (hB.trans (hb9.mono hB.size)) ⟨A9, c9, rfl, ho9⟩
            case s6 =>
              intro ac w1 hF hB hdep K hK
              rw [if_pos rfl]
              have f1 : ac.tmps[1]?.getD undef = .pointer (some ⟨g, 0, none⟩) := ev_tmpB hF.1
              go_simp
              exact hK.out _ _ (Below.refl _ _) hB rfl
            case s7 =>
              intro ac w1 hF hB hdep K hK
              rw [if_pos rfl]
              have e6 : ac.tmps[83]?.getD undef = .pointer (some ⟨g, 15, none⟩) := ev_tmpB (show ac.eval (.tmp 83) = .pointer (some ⟨g, 15, none⟩) from hdep 6 (by decide))
              have c0 : w1.cell? ⟨g, 15, none⟩ = some (.slice a.An m.nee.length a.cn) := (HF2.out _ hB).cell 15
              go_simp
              exact hK.out _ _ (Below.refl _ _) hB rfl
            case s8 =>
              intro ac w1 hF hB hdep K hK
              rw [if_pos rfl]
              obtain ⟨A5, c5, e5, ho5⟩ : ∃ A5 c5, ac.eval (.tmp 82) = .slice A5 L1.length c5 ∧ OwnB w w1 A5 L1.length c5 L1 := hdep 5 (by decide)
              have e5 := ev_tmpB e5
              have e7 : ac.tmps[84]?.getD undef = .slice a.An m.nee.length a.cn := ev_tmpB (show ac.eval (.tmp 84) = .slice a.An m.nee.length a.cn from hdep 7 (by decide))
              have hr6 := HR2.out.n.below hB
              have HC5 := Lib.hid (refNums_is (W := w) (c := c5) (c' := a.cn) rfl HE2.out ho5 hr6 (by have h1 := HL.out; have h2 := HLB1.out; omega) (by have h2 := HOKL.out; omega) (HBW.out.trans (hB.mono HBW.out.size)))
              clear ho5 hr6
              go_simp
              go_at_call 36
              refine HC5.out.mono ?_
              rintro en w9 ⟨A9, c9, rfl, ho9, hB9, hb9⟩
              go_simp
              exact hK.out _ _ hb9 (hB.trans (hb9.mono hB.size)) ⟨A9, c9, rfl, ho9⟩
          case hm => kernel_rfl
          case hb => kernel_rfl
          case inj =>
            intro i j hi hj h
            have h1 : ((List.range 9).all fun i => (List.range 9).all fun j => !(dstE18 i == dstE18 j) || (i == j)) = true := by kernel_rfl
            have h2 := List.all_eq_true.1 (List.all_eq_true.1 h1 i (List.mem_range.2 hi)) j (List.mem_range.2 hj)
            simpa [h] using h2
          case dst => exact all_opsL (AllFrom.cons rfl (AllFrom.cons rfl (AllFrom.cons rfl (AllFrom.cons rfl (AllFrom.cons rfl (AllFrom.cons rfl (AllFrom.cons rfl (AllFrom.cons rfl (AllFrom.cons rfl AllFrom.nil)))))))))
          case deps =>
            refine deps_ofL (deps := depsE18) ?_
            kernel_rfl
          case all =>
            refine alls_ofL ?_
            kernel_rfl
          case want => exact all_opsL (AllFrom.cons (fun U w hd => rfl) (AllFrom.cons (fun U w hd => rfl) (AllFrom.cons (fun U w hd => rfl) (AllFrom.cons (fun U w hd => rfl) (AllFrom.cons (fun U w hd => rfl) (AllFrom.cons (fun U w hd => rfl) (AllFrom.cons (fun U w hd => rfl) (AllFrom.cons (fun U w hd => rfl) (AllFrom.cons (fun U w hd => rfl) AllFrom.nil)))))))))
          case put => exact all_opsL (AllFrom.cons (fun _ _ => by kernel_rfl) (AllFrom.cons (fun _ _ => by kernel_rfl) (AllFrom.cons (fun _ _ => by kernel_rfl) (AllFrom.cons (fun _ _ => by kernel_rfl) (AllFrom.cons (fun _ _ => by kernel_rfl) (AllFrom.cons (fun _ _ => by kernel_rfl) (AllFrom.cons (fun _ _ => by kernel_rfl) (AllFrom.cons (fun _ _ => by kernel_rfl) (AllFrom.cons (fun _ _ => by kernel_rfl) AllFrom.nil)))))))))
          case ev => exact all_opsL (AllFrom.cons (fun _ => by kernel_rfl) (AllFrom.cons (fun _ => by kernel_rfl) (AllFrom.cons (fun _ => by kernel_rfl) (AllFrom.cons (fun _ => by kernel_rfl) (AllFrom.cons (fun _ => by kernel_rfl) (AllFrom.cons (fun _ => by kernel_rfl) (AllFrom.cons (fun _ => by kernel_rfl) (AllFrom.cons (fun _ => by kernel_rfl) (AllFrom.cons (fun _ => by kernel_rfl) AllFrom.nil)))))))))
          case fr => exact fun U => ⟨by kernel_rfl, by kernel_rfl⟩
          case last =>
            intro o ho U w' hB hV K hK
            obtain rfl := Option.some.inj (show some _ = some o from ho)
            rw [if_pos (by rfl)]
            obtain ⟨A9, c9, e9, ho9⟩ : ∃ A c, U 85 = .slice A (L2).length c ∧ OwnB w w' A (L2).length c (L2) := hV 8 (by decide)
            refine wp_of_run (v := .slice A9 (L2).length c9) (ch_assign rfl ((show _ = U 85 from by kernel_rfl).trans e9)) ?_
            refine hK.out _ _ ?_
            have HB9 := Lib.hid hB
            have HO9 := Lib.hid ho9
            clear hV hB ho9
            unfold frameE18
            go_simp
            go_wp2_with fail
            go_meet
            exact ⟨A9, c9, rfl, HO9, HB9⟩
        case rest =>
          obtain ⟨A9, c9, rfl, HO9, HB9⟩ := hcut
          rename World => w9
          have HBF := Lib.hid (HBW.out.trans (HB9.out.mono HBW.out.size))
          go_wp2_with fail
          go_ret
          rw [← HTT.out]
          exact ⟨A9, c9, rfl, HO9.out, HBF.out, HBF.out⟩
    by_cases hk : m.kind = 8
    · have s2 : (m.kind == 2) = false := by rw [hk]; rfl
      have s3 : (m.kind == 3) = false := by rw [hk]; rfl
      have s4 : (m.kind == 4) = false := by rw [hk]; rfl
      have s5 : (m.kind == 5) = false := by rw [hk]; rfl
      have s7 : (m.kind == 7) = false := by rw [hk]; rfl
      have s8 : (m.kind == 8) = true := by rw [hk]; rfl
      have hkk := Lib.hid hk
      clear hk
      have HCE : Hid (∀ wx, Below w2.heap.size w2 wx → wx.rangeAt g 17 [.int .i64 m.ent.s, .int .i64 m.ent.q, .int .i64 m.ent.c.kind, .int .i64 m.ent.c.who, .slice a.c.Ak m.ent.c.key.length a.c.ck, .slice a.c.Av m.ent.c.val.length a.c.cv, .slice a.c.Ao m.ent.c.old.length a.c.co]) := Lib.hid (fun wx hb => show wx.rangeAt g 17 ((#[.int .i64 m.kind, .int .i64 m.frm, .int .i64 m.dst, .int .i64 m.view, .int .i64 m.inst, .int .i64 m.len, .bool m.has, .int .i64 m.mem, .int .i64 m.src, .int .i64 m.pos, .int .i64 m.tot, .slice a.Ad m.data.length a.cd, .int .i64 m.hop, .int .i64 m.seq, .slice a.Ah m.hav.length a.ch, .slice a.An m.nee.length a.cn, .int .i64 m.idx, .int .i64 m.ent.s, .int .i64 m.ent.q, .int .i64 m.ent.c.kind, .int .i64 m.ent.c.who, .slice a.c.Ak m.ent.c.key.length a.c.ck, .slice a.c.Av m.ent.c.val.length a.c.cv, .slice a.c.Ao m.ent.c.old.length a.c.co] : Array Value).toList.drop 17) from fun j v hv => by
        have q := (HF2.out _ hb).cell (17 + j)
        rw [List.getElem?_drop] at hv
        rw [q]
        simpa using hv)
      have HFIT : Hid (m.ent.c.Fits) := Lib.hid (by
        have h := HTAIL.out
        unfold Mg.tailOk at h
        simp [hkk.out, En.ok] at h
        have hw := HM.out.c
        exact ⟨⟨by omega, hw.key.2⟩, ⟨by omega, hw.val.2⟩, ⟨by omega, hw.old.2⟩⟩)
      obtain ⟨L1, hL1⟩ : ∃ x, HD ++ Pk.encs [m.idx] = x := ⟨_, rfl⟩
      obtain ⟨L2, hL2⟩ : ∃ x, L1 ++ m.ent.enc = x := ⟨_, rfl⟩
      have HLB1 : Hid (L1.length ≤ 2000) := Lib.hid (by
        have h1 := HL.out
        have h2 := Pk.encs_length [m.idx]
        rw [← hL1, List.length_append]
        simp only [List.length_cons, List.length_nil] at h2
        omega)
      have HE1 := Lib.hid hL1
      have HE2 := Lib.hid hL2
      clear hL1 hL2
      have hT : L2 = R := by
        rw [HENC.out, ← HE2.out, ← HE1.out]
        unfold Mg.tail
        simp [hkk.out, Pk.encs, eI]
      have HTT := Lib.hid hT
      clear hT
      go_upto_region 20 with fail
      go_cut [2] from 88 to 95 (fun s2 wx => ∃ (A9 : Option Addr) (c9 : Nat), s2 = .slice A9 L2.length c9 ∧ Hid (OwnB w wx A9 L2.length c9 L2) ∧ Hid (Below w2.heap.size w2 wx))
      case first =>
        refine region_invL (L := 8) (U0 := fun _ => undef) (frameE20 w w2 g a m A1 c1 HD L1 L2 _ _ _ _ _ _ _ _ _ _ _ _ _ _ _ _ _ _ _ _ _ _ _ _ _ _ _ _ _ _ _ _ _ _ _ _ _ _ _ _ _ _ _ _ _ _ _ _ _ _ _ _ _ _ _ _ _ _ _ _ _ _ _ _ _ _ _ _ _ _ _ _ _ _ _ _ _ _ _ _ _ _ _ _ _ _ _) dstE20 depsE20 (fun _ => true) (VB (kindsE20 w w2 g a m A1 c1 HD L1 L2)) (FrE20 w w2 g a m A1 c1 HD L1 L2) rfl ?hm ?hb ?inj ?dst ?deps ?all ?want ?put ?ev ?fr (VB.ext _) (Below.refl _ _) ?hok ?last
        case hok =>
          refine all_opsL (AllFrom.cons ?s0 (AllFrom.cons ?s1 (AllFrom.cons ?s2 (AllFrom.cons ?s3 (AllFrom.cons ?s4 (AllFrom.cons ?s5 (AllFrom.cons ?s6 (AllFrom.cons ?s7 AllFrom.nil))))))))
          case s0 =>
            intro ac w1 hF hB hdep K hK
            rw [if_pos rfl]
            have f3 : ac.tmps[3]?.getD undef = .slice A1 HD.length c1 := ev_tmpB hF.2
            go_simp
            exact hK.out _ _ (Below.refl _ _) hB ⟨A1, c1, rfl, own_below HO.out hB⟩
          case s1 =>
            intro ac w1 hF hB hdep K hK
            rw [if_pos rfl]
            have f1 : ac.tmps[1]?.getD undef = .pointer (some ⟨g, 0, none⟩) := ev_tmpB hF.1
            go_simp
            exact hK.out _ _ (Below.refl _ _) hB rfl
          case s2 =>
            intro ac w1 hF hB hdep K hK
            rw [if_pos rfl]
            have e1 : ac.tmps[89]?.getD undef = .pointer (some ⟨g, 16, none⟩) := ev_tmpB (show ac.eval (.tmp 89) = .pointer (some ⟨g, 16, none⟩) from hdep 1 (by decide))
            have c0 : w1.cell? ⟨g, 16, none⟩ = some (.int .i64 m.idx) := (HF2.out _ hB).cell 16
            go_simp
            exact hK.out _ _ (Below.refl _ _) hB rfl
          case s3 =>
            intro ac w1 hF hB hdep K hK
            rw [if_pos rfl]
            have e2 : ac.tmps[90]?.getD undef = .int .i64 m.idx := ev_tmpB (show ac.eval (.tmp 90) = .int .i64 m.idx from hdep 2 (by decide))
            go_simp
            exact hK.out _ _ ((Below.refl _ _).alloc (Nat.le_refl _) _) (hB.alloc hB.size _) ⟨_, _, rfl, (Rd.made w1 #[.int .i64 m.idx] 3 (0, 0) 1 rfl).fit⟩
          case s4 =>
            intro ac w1 hF hB hdep K hK
            rw [if_pos rfl]
            obtain ⟨A5, c5, e5, ho5⟩ : ∃ A5 c5, ac.eval (.tmp 88) = .slice A5 HD.length c5 ∧ OwnB w w1 A5 HD.length c5 HD := hdep 0 (by decide)
            have e5 := ev_tmpB e5
            obtain ⟨A6, c6, e6, hr6⟩ : ∃ A6 c6, ac.eval (.tmp 91) = .slice A6 ([m.idx]).length c6 ∧ Rd w1 w1.heap.size A6 ([m.idx]).length (iv [m.idx]) := hdep 3 (by decide)
            have e6 := ev_tmpB e6
            simp only [List.length_cons, List.length_nil, Nat.zero_add] at e6 hr6
            have HC5 := Lib.hid (refNums_is (W := w) (c := c5) (c' := c6) rfl HE1.out ho5 hr6 (by have h1 := HL.out; have h2 := HLB1.out; omega) (by omega) (HBW.out.trans (hB.mono HBW.out.size)))
            clear ho5 hr6
            go_simp
            go_at_call 36
            refine HC5.out.mono ?_
            rintro en w9 ⟨A9, c9, rfl, ho9, hB9, hb9⟩
            go_simp
            exact hK.out _ _ hb9 (hB.trans (hb9.mono hB.size)) ⟨A9, c9, rfl, ho9⟩
          case s5 =>
            intro ac w1 hF hB hdep K hK
            rw [if_pos rfl]
            have f1 : ac.tmps[1]?.getD undef = .pointer (some ⟨g, 0, none⟩) := ev_tmpB hF.1
            go_simp
            exact hK.out _ _ (Below.refl _ _) hB rfl
          case s6 =>
            intro ac w1 hF hB hdep K hK
            rw [if_pos rfl]
            refine wp_load_mid 27 (.tmp 93) rfl g 17 (hdep 5 (by decide)) [.int .i64 m.ent.s, .int .i64 m.ent.q, .int .i64 m.ent.c.kind, .int .i64 m.ent.c.who, .slice a.c.Ak m.ent.c.key.length a.c.ck, .slice a.c.Av m.ent.c.val.length a.c.cv, .slice a.c.Ao m.ent.c.old.length a.c.co] _ (HCE.out _ hB) Try.underlying27 rfl (by kernel_rfl) ?_
            exact hK.out _ _ (Below.refl _ _) hB rfl
          case s7 =>
            intro ac w1 hF hB hdep K hK
            rw [if_pos rfl]
            obtain ⟨A5, c5, e5, ho5⟩ : ∃ A5 c5, ac.eval (.tmp 92) = .slice A5 L1.length c5 ∧ OwnB w w1 A5 L1.length c5 L1 := hdep 4 (by decide)
            have e5 := ev_tmpB e5
            have e6 : ac.tmps[94]?.getD undef = .agg #[.int .i64 m.ent.s, .int .i64 m.ent.q, .int .i64 m.ent.c.kind, .int .i64 m.ent.c.who, .slice a.c.Ak m.ent.c.key.length a.c.ck, .slice a.c.Av m.ent.c.val.length a.c.cv, .slice a.c.Ao m.ent.c.old.length a.c.co] := ev_tmpB (show ac.eval (.tmp 94) = .agg #[.int .i64 m.ent.s, .int .i64 m.ent.q, .int .i64 m.ent.c.kind, .int .i64 m.ent.c.who, .slice a.c.Ak m.ent.c.key.length a.c.ck, .slice a.c.Av m.ent.c.val.length a.c.cv, .slice a.c.Ao m.ent.c.old.length a.c.co] from hdep 6 (by decide))
            have hr6 := HR2.out.c.below hB
            have hc5 := refPutEntry_any (W := w) (c := c5) (l := L1) (ca := a.c) (e := m.ent) (by have h1 := HLB1.out; omega) HFIT.out (Rd.own_ ho5) hr6 (HBW.out.trans (hB.mono HBW.out.size))
            rw [HE2.out] at hc5
            unfold entV at hc5
            have HC5 := Lib.hid hc5
            clear hc5
            clear ho5 hr6
            go_simp
            go_at_call 38
            refine HC5.out.mono ?_
            rintro en w9 ⟨A9, c9, rfl, ho9, hB9, hb9⟩
            go_simp
            exact hK.out _ _ hb9 (hB.trans (hb9.mono hB.size)) ⟨A9, c9, rfl, ho9⟩
        case hm => kernel_rfl
        case hb => kernel_rfl
        case inj =>
          intro i j hi hj h
          have h1 : ((List.range 8).all fun i => (List.range 8).all fun j => !(dstE20 i == dstE20 j) || (i == j)) = true := by kernel_rfl
          have h2 := List.all_eq_true.1 (List.all_eq_true.1 h1 i (List.mem_range.2 hi)) j (List.mem_range.2 hj)
          simpa [h] using h2
        case dst => exact all_opsL (AllFrom.cons rfl (AllFrom.cons rfl (AllFrom.cons rfl (AllFrom.cons rfl (AllFrom.cons rfl (AllFrom.cons rfl (AllFrom.cons rfl (AllFrom.cons rfl AllFrom.nil))))))))
        case deps =>
          refine deps_ofL (deps := depsE20) ?_
          kernel_rfl
        case all =>
          refine alls_ofL ?_
          kernel_rfl
        case want => exact all_opsL (AllFrom.cons (fun U w hd => rfl) (AllFrom.cons (fun U w hd => rfl) (AllFrom.cons (fun U w hd => rfl) (AllFrom.cons (fun U w hd => rfl) (AllFrom.cons (fun U w hd => rfl) (AllFrom.cons (fun U w hd => rfl) (AllFrom.cons (fun U w hd => rfl) (AllFrom.cons (fun U w hd => rfl) AllFrom.nil))))))))
        case put => exact all_opsL (AllFrom.cons (fun _ _ => by kernel_rfl) (AllFrom.cons (fun _ _ => by kernel_rfl) (AllFrom.cons (fun _ _ => by kernel_rfl) (AllFrom.cons (fun _ _ => by kernel_rfl) (AllFrom.cons (fun _ _ => by kernel_rfl) (AllFrom.cons (fun _ _ => by kernel_rfl) (AllFrom.cons (fun _ _ => by kernel_rfl) (AllFrom.cons (fun _ _ => by kernel_rfl) AllFrom.nil))))))))
        case ev => exact all_opsL (AllFrom.cons (fun _ => by kernel_rfl) (AllFrom.cons (fun _ => by kernel_rfl) (AllFrom.cons (fun _ => by kernel_rfl) (AllFrom.cons (fun _ => by kernel_rfl) (AllFrom.cons (fun _ => by kernel_rfl) (AllFrom.cons (fun _ => by kernel_rfl) (AllFrom.cons (fun _ => by kernel_rfl) (AllFrom.cons (fun _ => by kernel_rfl) AllFrom.nil))))))))
        case fr => exact fun U => ⟨by kernel_rfl, by kernel_rfl⟩
        case last =>
          intro o ho U w' hB hV K hK
          obtain rfl := Option.some.inj (show some _ = some o from ho)
          rw [if_pos (by rfl)]
          obtain ⟨A9, c9, e9, ho9⟩ : ∃ A c, U 95 = .slice A (L2).length c ∧ OwnB w w' A (L2).length c (L2) := hV 7 (by decide)
          refine wp_of_run (v := .slice A9 (L2).length c9) (ch_assign rfl ((show _ = U 95 from by kernel_rfl).trans e9)) ?_
          refine hK.out _ _ ?_
          have HB9 := Lib.hid hB
          have HO9 := Lib.hid ho9
          clear hV hB ho9
          unfold frameE20
          go_simp
          go_wp2_with fail
          go_meet
          exact ⟨A9, c9, rfl, HO9, HB9⟩
      case rest =>
        obtain ⟨A9, c9, rfl, HO9, HB9⟩ := hcut
        rename World => w9
        have HBF := Lib.hid (HBW.out.trans (HB9.out.mono HBW.out.size))
        go_wp2_with fail
        go_ret
        rw [← HTT.out]
        exact ⟨A9, c9, rfl, HO9.out, HBF.out, HBF.out⟩
    have s2 : (m.kind == 2) = false := by rw [beq_eq_false_iff_ne]; assumption
    have s3 : (m.kind == 3) = false := by rw [beq_eq_false_iff_ne]; assumption
    have s4 : (m.kind == 4) = false := by rw [beq_eq_false_iff_ne]; assumption
    have s5 : (m.kind == 5) = false := by rw [beq_eq_false_iff_ne]; assumption
    have s7 : (m.kind == 7) = false := by rw [beq_eq_false_iff_ne]; assumption
    have s8 : (m.kind == 8) = false := by rw [beq_eq_false_iff_ne]; assumption
    have hT : HD = R := by
      rw [HENC.out]
      unfold Mg.tail
      simp [*]
    have HTT := Lib.hid hT
    clear hT
    go_wp2
    go_ret
    rw [← HTT.out]
    exact ⟨A1, c1, rfl, HO.out, HBW.out, HBW.out⟩
theorem refEncode11 {W w : World} {a : GA} {m : Mg} {B : Nat} (hM : m.Wide) (hr : RdG w B a m) (hB : Below W.heap.size W w) : Calls Try.prog 15 #[msgV a m] w (GotIn W w m.enc) :=
  (refEncode_raw w hM hr).mono fun e w' ⟨A, c, h1, h2, h3, h4⟩ => ⟨A, c, h1, own_of hB.size h2, hB.trans (h3.mono hB.size), h4⟩
end Go.Proofs.Ytlfkgpllleogoaa

