/- GathCode4 -/
import Derived.Test.YtneehnoolhadbaaGF37
namespace Go.Proofs.Ytneehnoolhadbaa
open Go.RowKit
set_option linter.unusedVariables false
set_option linter.unusedSimpArgs false
set_option maxHeartbeats 2000000 in
set_option maxRecDepth 100000 in
theorem gtake_any {W w : World} {S : Nat → Prop} {b : Nat} {g g2 : Gm} (h : GthAt W w S b g) {a : GA} {m : Mg} (hlo : Vw.lo ≤ m.inst) (hf : In64 m.frm) {r : Bool} (hr : g.may (svM m) m.view = r) (h2 : g.take (svM m) m.view = g2) :
    Calls Try.prog 9 #[.pointer (some ⟨b, 0, none⟩), msgV a m] w fun e w' => e = .returned (.bool r) ∧ GotGa W w S b g2 w' := by
  obtain ⟨x, hx⟩ : ∃ x, g.lacking = x := ⟨_, rfl⟩
  have hx7 : x < 128 := by rw [← hx]; exact h.ok.lack_lt
  have HXE := Lib.hid hx
  have HH := Lib.hid h
  have H2 := Lib.hid h2
  have HR := Lib.hid hr
  have HF := Lib.hid hf
  have HLO := Lib.hid hlo
  obtain ⟨su, hsu⟩ : ∃ x, g.com.isSome = x := ⟨_, rfl⟩
  obtain ⟨v, hv⟩ : ∃ x, g.v = x := ⟨_, rfl⟩
  have HSU := Lib.hid (And.intro hsu hv)
  clear h hx h2 hr hf hlo hsu hv
  unfold msgV msgC
  go_enter Try.func9, Try.ntmps9
  go_upto_region 1 with fail
  obtain ⟨h, w1, hgE, hwE, hbE, hkE⟩ := alloced w (msgC a m) 31
  unfold msgC at hwE
  rw [hgE, hwE]
  have HB1 := Lib.hid hbE
  have HKH := Lib.hid hkE
  have HH1 := Lib.hid (HH.out.below hbE)
  have HHG := Lib.hid hgE
  have k0 := hkE.cell 0
  have k1 := hkE.cell 1
  have k3 := hkE.cell 3
  simp [msgC] at k0 k1 k3
  have c29 : w1.cell? ⟨b, 29, none⟩ = some (.bool su) ∧ w1.cell? ⟨b, 2, none⟩ = some (.int .i64 v) := by
    obtain ⟨A, k, c, es, m0, m1, m3, m5, m7, m8, h1, rfl⟩ := HH1.out
    have q1 := h1.blk.cell 29
    have q2 := h1.blk.cell 2
    simp [gthC, HSU.out.1, HSU.out.2] at q1 q2
    exact ⟨q1, q2⟩
  obtain ⟨c29, c2⟩ := c29
  clear hgE hwE hbE hkE HH
  go_cut [30] from 5 to 30 (fun s30 wx => s30 = .bool (!r) ∧ Hid (Below w1.heap.size w1 wx))
  case first =>
    cases su with
    | true =>
      obtain rfl : r = false := by rw [← HR.out]; unfold Gm.may; rw [HSU.out.1]; rfl
      clear k0 k1 k3 c2
      go_quiet (fail)
      go_wp2_with fail
      go_meet
      exact ⟨rfl, Lib.hid (bel_drewN _ _)⟩
    | false =>
      by_cases hk : m.kind = 2
      · have hd1 : decide (m.kind = 2) = true := decide_eq_true hk
        rw [hk] at k0
        have HK := Lib.hid hk
        clear hk
        by_cases hv : m.view = v
        · rw [hv] at k3
          have HV := Lib.hid hv
          obtain ⟨fr, hfr⟩ : ∃ z, m.frm = z := ⟨_, rfl⟩
          have hR : (decide (0 ≤ fr) && x.testBit fr.toNat) = r := by
            rw [← HR.out, ← HXE.out, ← hfr]
            unfold Gm.may
            rw [HSU.out.1, HSU.out.2]
            simp [svM, HK.out, HV.out]
          rw [hfr] at k1
          have HFR := Lib.hid hfr
          have C1 := Lib.hid (fun n => glackQ (HH1.out.below (bel_drewN w1 n)) HXE.out)
          have C2 := Lib.hid (fun n => ghas_any (w1.drewN n) x fr hx7 (by rw [← HFR.out]; exact HF.out))
          rw [hR] at C2
          clear hR hfr hd1 hv
          go_quiet ((first | (go_at_call 32; exact Calls.quiet_of (C1.out _)) | (go_at_call 31; exact Calls.quiet_of_same ((C2.out _).mono (fun _ _ h => ⟨h.1, h.2.symm⟩)))))
          go_wp2_with fail
          go_meet
          exact ⟨rfl, Lib.hid (bel_drewN _ _)⟩
        · obtain rfl : r = false := by rw [← HR.out]; unfold Gm.may; rw [HSU.out.1, HSU.out.2, decide_eq_false hv]; simp
          have hd2 : (m.view == v) = false := by simpa using hv
          have hd3 : decide (m.view = v) = false := decide_eq_false hv
          have hd4 : (m.view != v) = true := by simpa using hv
          clear hv hd1 k1
          go_quiet (fail)
          go_wp2_with fail
          go_meet
          exact ⟨rfl, Lib.hid (bel_drewN _ _)⟩
      · obtain rfl : r = false := by rw [← HR.out]; unfold Gm.may; rw [HSU.out.1, show (svM m).kind = m.kind from rfl, decide_eq_false hk]; simp
        have hd2 : (m.kind == 2) = false := by simpa using hk
        have hd3 : decide (m.kind = 2) = false := decide_eq_false hk
        have hd4 : (m.kind != 2) = true := by simpa using hk
        clear hk k1 k3 c2
        go_quiet (fail)
        go_wp2_with fail
        go_meet
        exact ⟨rfl, Lib.hid (bel_drewN _ _)⟩
  rename_i hcut
  obtain ⟨rfl, hb2⟩ := hcut
  rename World => w2
  have HB2 := Lib.hid (HB1.out.trans (hb2.out.mono HB1.out.size))
  have HH2 := Lib.hid (HH1.out.below hb2.out)
  have HKH2 := Lib.hid (HKH.out.below hb2.out)
  clear hb2 HH1 HKH k0 k1 k3 c29 c2
  cases r with
  | false =>
    go_wp2_with fail
    go_ret
    refine ⟨rfl, S, ?_, Adv.of_below _ HB2.out⟩
    rw [← H2.out]; unfold Gm.take; rw [if_neg (by rw [HR.out]; decide)]; exact HH2.out
  | true =>
    obtain ⟨q1, q2, q3, q4, q5, q6⟩ := HH2.out.ok.may_is.1 HR.out
    obtain ⟨f, hfE⟩ : ∃ f : Nat, m.frm = (f : Int) := ⟨m.frm.toNat, by have : 0 ≤ m.frm := q4; omega⟩
    have e1 : svM m = ⟨2, (f : Int), m.inst, m.len, m.has⟩ := by
      have : m.kind = 2 := q2
      unfold svM; rw [this, hfE]
    have CA := Lib.hid (gadd_any HH2.out (a := a) (m := m) (f := f) (v' := m.view) (by rw [← e1]; exact HR.out) HLO.out)
    have k1 := HKH2.out.cell 1
    simp [msgC, hfE] at k1
    have HE := Lib.hid e1
    have HK2 : Hid (w2.heap[h]? = some (.cells #[.int .i64 m.kind, .int .i64 m.frm, .int .i64 m.dst, .int .i64 m.view, .int .i64 m.inst, .int .i64 m.len, .bool m.has, .int .i64 m.mem, .int .i64 m.src, .int .i64 m.pos, .int .i64 m.tot, .slice a.Ad m.data.length a.cd, .int .i64 m.hop, .int .i64 m.seq, .slice a.Ah m.hav.length a.ch, .slice a.An m.nee.length a.cn, .int .i64 m.idx, .int .i64 m.ent.s, .int .i64 m.ent.q, .int .i64 m.ent.c.kind, .int .i64 m.ent.c.who, .slice a.c.Ak m.ent.c.key.length a.c.ck, .slice a.c.Av m.ent.c.val.length a.c.cv, .slice a.c.Ao m.ent.c.old.length a.c.co] 31 (0, 0))) := HKH2
    unfold msgV msgC at CA
    clear q1 q2 q3 q4 q5 q6 e1 hfE
    go_wp2_with (first
      | (refine wpList_load_row rfl 31 (.tmp 3) rfl h rfl 31 #[.int .i64 m.kind, .int .i64 m.frm, .int .i64 m.dst, .int .i64 m.view, .int .i64 m.inst, .int .i64 m.len, .bool m.has, .int .i64 m.mem, .int .i64 m.src, .int .i64 m.pos, .int .i64 m.tot, .slice a.Ad m.data.length a.cd, .int .i64 m.hop, .int .i64 m.seq, .slice a.Ah m.hav.length a.ch, .slice a.An m.nee.length a.cn, .int .i64 m.idx, .int .i64 m.ent.s, .int .i64 m.ent.q, .int .i64 m.ent.c.kind, .int .i64 m.ent.c.who, .slice a.c.Ak m.ent.c.key.length a.c.ck, .slice a.c.Av m.ent.c.val.length a.c.cv, .slice a.c.Ao m.ent.c.old.length a.c.co] (0, 0) _ HK2.out Try.underlying31 rfl (by kernel_rfl) ?_)
      | fail)
    refine CA.out.mono ?_
    rintro e w3 ⟨rfl, hg⟩
    have HG := Lib.hid hg
    clear hg
    go_wp2_with fail
    go_ret
    obtain ⟨S', h1, h3⟩ := HG.out
    refine ⟨rfl, S', ?_, (Adv.of_below S HB2.out).trans h3⟩
    rw [← H2.out]; unfold Gm.take; rw [if_pos HR.out, HE.out]; exact h1
end Go.Proofs.Ytneehnoolhadbaa

