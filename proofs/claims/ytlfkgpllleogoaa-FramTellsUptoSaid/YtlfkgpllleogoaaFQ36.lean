/- FramWrap -/
import Derived.Test.YtlfkgpllleogoaaFQ30
import Derived.Test.YtlfkgpllleogoaaFQ33
namespace Go.Proofs.Ytlfkgpllleogoaa
open Go.RowKit
set_option linter.unusedVariables false
theorem Mg.enc_cases {m : Mg} (hw : m.Wide) : m.enc.length ≤ 1000 ∧ ∀ x ∈ m.enc, x < 256 := by
  cases h : m.ok with
  | true => exact ⟨Mg.enc_len h, Mg.enc_lt h hw⟩
  | false => rw [Mg.enc_none h]; exact ⟨by simp, fun x hx => by cases hx⟩
set_option maxHeartbeats 2000000 in
set_option maxRecDepth 100000 in
theorem frwrap_raw {w : World} {a : GA} {m : Mg} {B : Nat} (hM : m.Wide) (hr : RdG w B a m) : Calls Try.prog 21 #[msgV a m] w (GotIn w w (Fr.wrap m)) := by
  obtain ⟨g, hg⟩ : ∃ g, w.heap.size = g := ⟨_, rfl⟩
  obtain ⟨wx, hwx⟩ : ∃ wx, w.alloc (.cells (msgC a m) 29) = wx := ⟨_, rfl⟩
  have hbb : Below w.heap.size w wx := by rw [← hwx]; exact (Below.refl _ _).alloc (Nat.le_refl _) _
  have k1 : Blk wx g 29 (msgC a m) := by rw [← hwx, ← hg]; exact Blk.new _ _ _
  have hE := encode11 (W := w) (w := wx) hM (hr.fit.below hbb) hbb
  have hln := Mg.enc_cases hM
  have hwr : Fr.wrap m = Fr.wrapL m.enc := rfl
  rw [hwr]
  obtain ⟨L, hL⟩ : ∃ x, m.enc = x := ⟨_, rfl⟩
  rw [hL] at hE hln ⊢
  have HE := Lib.hid hE
  have HK1 := Lib.hid k1
  have HWX := Lib.hid hwx
  have HG := Lib.hid hg
  have HLT := Lib.hid hln.2
  have HLN := Lib.hid hln.1
  clear hM hr hbb k1 hwx hg hE hln hwr hL
  unfold msgV msgC at HE
  unfold msgC at HK1 HWX
  unfold msgV msgC
  by_cases h0 : L = []
  · have b0 : ((L.length : Int) == 0) = true := by subst h0; rfl
    have HR : Hid (Fr.wrapL L = []) := Lib.hid (by subst h0; rfl)
    clear h0
    go_enter Try.func21, Try.ntmps21
    go_upto_region 1 with fail
    rw [HG.out, HWX.out]
    clear HWX
    go_wp2_with (first
      | (refine wpList_load_row rfl 29 (.tmp 1) rfl g rfl 29 #[.int .i64 m.kind, .int .i64 m.frm, .int .i64 m.dst, .int .i64 m.view, .int .i64 m.inst, .int .i64 m.len, .bool m.has, .int .i64 m.mem, .int .i64 m.src, .int .i64 m.pos, .int .i64 m.tot, .slice a.Ad m.data.length a.cd, .int .i64 m.hop, .int .i64 m.seq, .slice a.Ah m.hav.length a.ch, .slice a.An m.nee.length a.cn, .int .i64 m.idx, .int .i64 m.ent.s, .int .i64 m.ent.q, .int .i64 m.ent.c.kind, .int .i64 m.ent.c.who, .slice a.c.Ak m.ent.c.key.length a.c.ck, .slice a.c.Av m.ent.c.val.length a.c.cv, .slice a.c.Ao m.ent.c.old.length a.c.co] (0, 0) _ HK1.out Try.underlying29 rfl (by kernel_rfl) ?_)
      | (go_at_call 16; refine HE.out.mono ?_; rintro en w1 ⟨A, c, rfl, ho, hB, hb⟩; have HO := Lib.hid ho; have HB := Lib.hid hB; clear ho hB hb)
      | fail)
    go_ret
    rw [HR.out]
    exact ⟨none, 0, rfl, own_nil _ _, HB.out, HB.out⟩
  · have b0 : ((L.length : Int) == 0) = false := by
      rw [beq_eq_false_iff_ne]
      intro e
      exact h0 (List.length_eq_zero_iff.1 (by omega))
    have HR : Hid (Fr.lay L = Fr.wrapL L) := Lib.hid (by rw [Fr.wrapL_eq h0]; rfl)
    clear h0
    go_enter Try.func21, Try.ntmps21
    go_upto_region 1 with fail
    rw [HG.out, HWX.out]
    clear HWX
    go_wp2_with (first
      | (refine wpList_load_row rfl 29 (.tmp 1) rfl g rfl 29 #[.int .i64 m.kind, .int .i64 m.frm, .int .i64 m.dst, .int .i64 m.view, .int .i64 m.inst, .int .i64 m.len, .bool m.has, .int .i64 m.mem, .int .i64 m.src, .int .i64 m.pos, .int .i64 m.tot, .slice a.Ad m.data.length a.cd, .int .i64 m.hop, .int .i64 m.seq, .slice a.Ah m.hav.length a.ch, .slice a.An m.nee.length a.cn, .int .i64 m.idx, .int .i64 m.ent.s, .int .i64 m.ent.q, .int .i64 m.ent.c.kind, .int .i64 m.ent.c.who, .slice a.c.Ak m.ent.c.key.length a.c.ck, .slice a.c.Av m.ent.c.val.length a.c.cv, .slice a.c.Ao m.ent.c.old.length a.c.co] (0, 0) _ HK1.out Try.underlying29 rfl (by kernel_rfl) ?_)
      | (go_at_call 16; refine HE.out.mono ?_; rintro en w1 ⟨A, c, rfl, ho, hB, hb⟩; have HO := Lib.hid ho; have HB := Lib.hid hB; clear ho hB hb)
      | (go_at_call 52; refine (seallay (W := w) HR.out HLT.out (by have := HLN.out; omega) (Rd.own_ HO.out) HB.out).mono ?_; rintro en w2 ⟨A2, c2, rfl, ho2, hB2, hb2⟩
         have HO2 := Lib.hid ho2
         have HB2 := Lib.hid hB2
         clear ho2 hB2 hb2)
      | fail)
    go_ret
    exact ⟨A2, c2, rfl, HO2.out, HB2.out, HB2.out⟩
theorem frwrap_any {W w : World} {a : GA} {m : Mg} {B : Nat} (hM : m.Wide) (hr : RdG w B a m) (hB : Below W.heap.size W w) : Calls Try.prog 21 #[msgV a m] w (GotIn W w (Fr.wrap m)) :=
  (frwrap_raw hM hr).mono fun e w' ⟨A, c, h1, h2, h3, h4⟩ => ⟨A, c, h1, own_of hB.size h2, hB.trans (h3.mono hB.size), h4⟩
theorem frwrap_is {W w : World} {a : GA} {m : Mg} {B : Nat} {l : List Nat} (he : Fr.wrap m = l) (hM : m.Wide) (hr : RdG w B a m) (hB : Below W.heap.size W w) : Calls Try.prog 21 #[msgV a m] w (GotIn W w l) := by
  subst he; exact frwrap_any hM hr hB
end Go.Proofs.Ytlfkgpllleogoaa

