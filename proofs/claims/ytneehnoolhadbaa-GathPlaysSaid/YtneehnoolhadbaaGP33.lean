/- GathCode4 GathCode5 -/
import Derived.Test.YtneehnoolhadbaaGP31
import Derived.Test.YtneehnoolhadbaaGP32
namespace Go.Proofs.Ytneehnoolhadbaa
open Go.RowKit
set_option linter.unusedVariables false
set_option linter.unusedSimpArgs false
set_option maxHeartbeats 2000000 in
set_option maxRecDepth 100000 in
theorem gtake_any {W w : World} {S : Nat → Prop} {b : Nat} {g g2 : Gm} (h : GthAt W w S b g) {a : GA} {m : Mg} (hlo : Vw.lo ≤ m.inst) (hf : In64 m.frm) {r : Bool} (hr : g.may (svM m) m.view = r) (h2 : g.take (svM m) m.view = g2) :
    Calls Try.prog 9 #[.pointer (some ⟨b, 0, none⟩), msgV a m] w fun e w' => e = .returned (.bool r) ∧ GotGa W w S b g2 w' := by
  obtain ⟨x, hx⟩ : ∃ x, g.lacking = x := ⟨_, rfl⟩
  have hx7 : x < 128 := by rw [← hx]; exact h.ok.lack_lt
  have HXE := Lib.hid hx
  have HH := Lib.hid h
  have H2 := Lib.hid h2
  have HR := Lib.hid hr
  have HF := Lib.hid hf
  have HLO := Lib.hid hlo
  obtain ⟨su, hsu⟩ : ∃ x, g.com.isSome = x := ⟨_, rfl⟩
  obtain ⟨v, hv⟩ : ∃ x, g.v = x := ⟨_, rfl⟩
  have HSU := Lib.hid (And.intro hsu hv)
  clear h hx h2 hr hf hlo hsu hv
  unfold msgV msgC
  go_enter Try.func9, Try.ntmps9
  go_upto_region 1 with fail
  obtain ⟨h, w1, hgE, hwE, hbE, hkE⟩ := alloced w (msgC a m) 31
  unfold msgC at hwE
  rw [hgE, hwE]
  have HB1 := Lib.hid hbE
  have HKH := Lib.hid hkE
  have HH1 := Lib.hid (HH.out.below hbE)
  have HHG := Lib.hid hgE
  have k0 := hkE.cell 0
  have k1 := hkE.cell 1
  have k3 := hkE.cell 3
  simp [msgC] at k0 k1 k3
  have c29 : w1.cell? ⟨b, 29, none⟩ = some (.bool su) ∧ w1.cell? ⟨b, 2, none⟩ = some (.int .i64 v) := by
    obtain ⟨A, k, c, es, m0, m1, m3, m5, m7, m8, h1, rfl⟩ := HH1.out
    have q1 := h1.blk.cell 29
    have q2 := h1.blk.cell 2
    simp [gthC, HSU.out.1, HSU.out.2] at q1 q2
    exact ⟨q1, q2⟩
  obtain ⟨c29, c2⟩ := c29
  clear hgE hwE hbE hkE HH
  go_cut [30] from 5 to 30 (fun s30 wx => s30 = .bool (!r) ∧ Hid (Below w1.heap.size w1 wx))
  case first =>
    cases su with
    | true =>
      obtain rfl : r = false := by rw [← HR.out]; unfold Gm.may; rw [HSU.out.1]; rfl
      clear k0 k1 k3 c2
      go_quiet (fail)
      go_wp2_with fail
      go_meet
      exact ⟨rfl, Lib.hid (bel_drewN _ _)⟩
    | false =>
      by_cases hk : m.kind = 2
      · have hd1 : decide (m.kind = 2) = true := decide_eq_true hk
        rw [hk] at k0
        have HK := Lib.hid hk
        clear hk
        by_cases hv : m.view = v
        · rw [hv] at k3
          have HV := Lib.hid hv
          obtain ⟨fr, hfr⟩ : ∃ z, m.frm = z := ⟨_, rfl⟩
          have hR : (decide (0 ≤ fr) && x.testBit fr.toNat) = r := by
            rw [← HR.out, ← HXE.out, ← hfr]
            unfold Gm.may
            rw [HSU.out.1, HSU.out.2]
            simp [svM, HK.out, HV.out]
          rw [hfr] at k1
          have HFR := Lib.hid hfr
          have C1 := Lib.hid (fun n => glackQ (HH1.out.below (bel_drewN w1 n)) HXE.out)
          have C2 := Lib.hid (fun n => ghas_any (w1.drewN n) x fr hx7 (by rw [← HFR.out]; exact HF.out))
          rw [hR] at C2
          clear hR hfr hd1 hv
          go_quiet ((first | (go_at_call 32; exact Calls.quiet_of (C1.out _)) | (go_at_call 31; exact Calls.quiet_of_same ((C2.out _).mono (fun _ _ h => ⟨h.1, h.2.symm⟩)))))
          go_wp2_with fail
          go_meet
          exact ⟨rfl, Lib.hid (bel_drewN _ _)⟩
        · obtain rfl : r = false := by rw [← HR.out]; unfold Gm.may; rw [HSU.out.1, HSU.out.2, decide_eq_false hv]; simp
          have hd2 : (m.view == v) = false := by simpa using hv
          have hd3 : decide (m.view = v) = false := decide_eq_false hv
          have hd4 : (m.view != v) = true := by simpa using hv
          clear hv hd1 k1
          go_quiet (fail)
          go_wp2_with fail
          go_meet
          exact ⟨rfl, Lib.hid (bel_drewN _ _)⟩
      · obtain rfl : r = false := by rw [← HR.out]; unfold Gm.may; rw [HSU.out.1, show (svM m).kind = m.kind from rfl, decide_eq_false hk]; simp
        have hd2 : (m.kind == 2) = false := by simpa using hk
        have hd3 : decide (m.kind = 2) = false := decide_eq_false hk
        have hd4 : (m.kind != 2) = true := by simpa using hk
        clear hk k1 k3 c2
        go_quiet (fail)
        go_wp2_with fail
        go_meet
        exact ⟨rfl, Lib.hid (bel_drewN _ _)⟩
  rename_i hcut
  obtain ⟨rfl, hb2⟩ := hcut
  rename World => w2
  have HB2 := Lib.hid (HB1.out.trans (hb2.out.mono HB1.out.size))
  have HH2 := Lib.hid (HH1.out.below hb2.out)
  have HKH2 := Lib.hid (HKH.out.below hb2.out)
  clear hb2 HH1 HKH k0 k1 k3 c29 c2
  cases r with
  | false =>
    go_wp2_with fail
    go_ret
    refine ⟨rfl, S, ?_, Adv.of_below _ HB2.out⟩
    rw [← H2.out]; unfold Gm.take; rw [if_neg (by rw [HR.out]; decide)]; exact HH2.out
  | true =>
    obtain ⟨q1, q2, q3, q4, q5, q6⟩ := HH2.out.ok.may_is.1 HR.out
    obtain ⟨f, hfE⟩ : ∃ f : Nat, m.frm = (f : Int) := ⟨m.frm.toNat, by have : 0 ≤ m.frm := q4; omega⟩
    have e1 : svM m = ⟨2, (f : Int), m.inst, m.len, m.has⟩ := by
      have : m.kind = 2 := q2
      unfold svM; rw [this, hfE]
    have CA := Lib.hid (gadd_any HH2.out (a := a) (m := m) (f := f) (v' := m.view) (by rw [← e1]; exact HR.out) HLO.out)
    have k1 := HKH2.out.cell 1
    simp [msgC, hfE] at k1
    have HE := Lib.hid e1
    have HK2 : Hid (w2.heap[h]? = some (.cells #[.int .i64 m.kind, .int .i64 m.frm, .int .i64 m.dst, .int .i64 m.view, .int .i64 m.inst, .int .i64 m.len, .bool m.has, .int .i64 m.mem, .int .i64 m.src, .int .i64 m.pos, .int .i64 m.tot, .slice a.Ad m.data.length a.cd, .int .i64 m.hop, .int .i64 m.seq, .slice a.Ah m.hav.length a.ch, .slice a.An m.nee.length a.cn, .int .i64 m.idx, .int .i64 m.ent.s, .int .i64 m.ent.q, .int .i64 m.ent.c.kind, .int .i64 m.ent.c.who, .slice a.c.Ak m.ent.c.key.length a.c.ck, .slice a.c.Av m.ent.c.val.length a.c.cv, .slice a.c.Ao m.ent.c.old.length a.c.co] 31 (0, 0))) := HKH2
    unfold msgV msgC at CA
    clear q1 q2 q3 q4 q5 q6 e1 hfE
    go_wp2_with (first
      | (refine wpList_load_row rfl 31 (.tmp 3) rfl h rfl 31 #[.int .i64 m.kind, .int .i64 m.frm, .int .i64 m.dst, .int .i64 m.view, .int .i64 m.inst, .int .i64 m.len, .bool m.has, .int .i64 m.mem, .int .i64 m.src, .int .i64 m.pos, .int .i64 m.tot, .slice a.Ad m.data.length a.cd, .int .i64 m.hop, .int .i64 m.seq, .slice a.Ah m.hav.length a.ch, .slice a.An m.nee.length a.cn, .int .i64 m.idx, .int .i64 m.ent.s, .int .i64 m.ent.q, .int .i64 m.ent.c.kind, .int .i64 m.ent.c.who, .slice a.c.Ak m.ent.c.key.length a.c.ck, .slice a.c.Av m.ent.c.val.length a.c.cv, .slice a.c.Ao m.ent.c.old.length a.c.co] (0, 0) _ HK2.out Try.underlying31 rfl (by kernel_rfl) ?_)
      | fail)
    refine CA.out.mono ?_
    rintro e w3 ⟨rfl, hg⟩
    have HG := Lib.hid hg
    clear hg
    go_wp2_with fail
    go_ret
    obtain ⟨S', h1, h3⟩ := HG.out
    refine ⟨rfl, S', ?_, (Adv.of_below S HB2.out).trans h3⟩
    rw [← H2.out]; unfold Gm.take; rw [if_pos HR.out, HE.out]; exact h1
end Go.Proofs.Ytneehnoolhadbaa

namespace Go.Proofs.Ytneehnoolhadbaa
open Go.RowKit
set_option linter.unusedVariables false
set_option linter.unusedSimpArgs false
theorem rangeCom {w : World} {b : Nat} {n : Nat} {id v : Int} {cm : Nat} {A : Option Addr} {k c : Nat} {m0 m1 m3 m5 m7 m8 : Int} {su : Bool} {rd : Nat} (h : Blk w b 54 (gthC n id v cm A k c m0 m1 m3 m5 m7 m8 su rd)) : w.rangeAt b 5 (comC m0 m1 m3 m5 m7 m8) := by
  have := World.rangeAt_of_block h 5 24
  simpa [gthC, comC] using this
theorem setL_gth (n : Nat) (id v : Int) (cm : Nat) (A : Option Addr) (k c : Nat) (m0 m1 m3 m5 m7 m8 p0 p1 p3 p5 p7 p8 : Int) (su : Bool) (rd : Nat) : setL (gthC n id v cm A k c m0 m1 m3 m5 m7 m8 su rd) 5 (comC p0 p1 p3 p5 p7 p8) = gthC n id v cm A k c p0 p1 p3 p5 p7 p8 su rd := by kernel_rfl
theorem blk_setCells_other {w : World} {b h : Nat} {t : TypeId} {C : Array Value} (hk : Blk w h t C) (hne : ¬ h = b) (vs : List Value) (o : Nat) : Blk (w.setCells b o vs) h t C :=
  ((keeps_setCells (S := fun q => q = b) rfl vs o w (Keeps.refl _ _)).block h hk.lt hne).trans hk
theorem Gm.commit_com {g : Gm} (h : g.com.isSome = true) : g.commit = g := by
  obtain ⟨c, hc⟩ := Option.isSome_iff_exists.1 h
  unfold Gm.commit Gm.pick
  rw [hc]
  cases g
  simp only at hc
  subst hc
  rfl
set_option maxHeartbeats 2000000 in
set_option maxRecDepth 100000 in
theorem gcommit_any {W w : World} {S : Nat → Prop} {b : Nat} {g g2 : Gm} (h : GthAt W w S b g) (h2 : g.commit = g2) :
    Calls Try.prog 14 #[.pointer (some ⟨b, 0, none⟩)] w fun e w' => e = .returned (.tuple #[msgV GA.zero g2.msg, .bool g2.com.isSome]) ∧ GotGa W w S b g2 w' := by
  obtain ⟨A, k, c, es, m0, m1, m3, m5, m7, m8, h1, rfl⟩ := h
  obtain ⟨su, hsu⟩ : ∃ x, g.com.isSome = x := ⟨_, rfl⟩
  obtain ⟨n, hn⟩ : ∃ n, g.n = n := ⟨_, rfl⟩
  obtain ⟨id, hid⟩ : ∃ n, g.id = n := ⟨_, rfl⟩
  obtain ⟨v, hv⟩ : ∃ n, g.v = n := ⟨_, rfl⟩
  obtain ⟨cm, hcm⟩ : ∃ n, Gm.came g.l = n := ⟨_, rfl⟩
  obtain ⟨rd, hrd⟩ : ∃ n, g.ready = n := ⟨_, rfl⟩
  have HKB : Hid (Blk w b 54 (gthC n id v cm A k c m0 m1 m3 m5 m7 m8 su rd)) := Lib.hid (by have := h1.blk; rwa [hn, hid, hv, hcm, hrd, hsu] at this)
  have H1 := Lib.hid h1
  have H2 := Lib.hid h2
  have HN := Lib.hid (And.intro hn (And.intro hid (And.intro hv (And.intro hcm (And.intro hrd hsu)))))
  have hn7 : 1 ≤ n ∧ n ≤ 7 := by rw [← hn]; exact ⟨h1.ok.n1, h1.ok.n7⟩
  clear h1 h2 hn hid hv hcm hrd hsu
  go_enter Try.func14, Try.ntmps14
  go_upto_region 1 with fail
  obtain ⟨h, w1, hgE, hwE, hbE, hkE⟩ := alloced w msgZ 31
  unfold msgZ at hwE
  rw [hgE, hwE]
  have HB1 := Lib.hid hbE
  have HKH := Lib.hid hkE
  have HHG := Lib.hid hgE
  have HK1 := Lib.hid (HKB.out.below hbE)
  have c29 := HK1.out.cell 29
  have f29 := HK1.out.frozen 29
  have c0 := HK1.out.cell 0
  have c1 := HK1.out.cell 1
  have c2 := HK1.out.cell 2
  have c4 := HK1.out.cell 4
  have f4 := HK1.out.frozen 4
  have f5 := HK1.out.frozen 5
  simp [gthC] at c29 c0 c1 c2 c4
  have HLT := Lib.hid HK1.out.lt
  clear hgE hwE hbE hkE
  have HBH : Hid (¬ h = b) := Lib.hid (by intro e; have := HHG.out; have := HKB.out.lt; omega)
  cases su with
  | true =>
    have e2 : g2 = g := by rw [← H2.out]; exact Gm.commit_com HN.out.2.2.2.2.2
    have HR5 := Lib.hid (rangeCom HK1.out)
    unfold comC at HR5
    clear c0 c1 c2 c4
    go_wp2_with (first
      | (refine wpList_load_mid rfl 31 (.tmp 14) rfl b 5 rfl [.int .i64 m0, .int .i64 m1, .int .i64 0, .int .i64 m3, .int .i64 0, .int .i64 m5, .bool false, .int .i64 m7, .int .i64 m8, .int .i64 0, .int .i64 0, .slice none 0 0, .int .i64 0, .int .i64 0, .slice none 0 0, .slice none 0 0, .int .i64 0, .int .i64 0, .int .i64 0, .int .i64 0, .int .i64 0, .slice none 0 0, .slice none 0 0, .slice none 0 0] _ HR5.out Try.underlying31 rfl (by kernel_rfl) ?_)
      | (refine wpList_store_row rfl 31 (.tmp 2) (.tmp 15) rfl h #[.int .i64 m0, .int .i64 m1, .int .i64 0, .int .i64 m3, .int .i64 0, .int .i64 m5, .bool false, .int .i64 m7, .int .i64 m8, .int .i64 0, .int .i64 0, .slice none 0 0, .int .i64 0, .int .i64 0, .slice none 0 0, .slice none 0 0, .int .i64 0, .int .i64 0, .int .i64 0, .int .i64 0, .int .i64 0, .slice none 0 0, .slice none 0 0, .slice none 0 0] rfl rfl 31 msgZ HKH.out (by kernel_rfl) rfl (by kernel_rfl) ?_)
      | fail)
    refine bodyPost_ret (results_cell_tmp rfl _ _ _ _ _ _ rfl (HKH.out.row #[.int .i64 m0, .int .i64 m1, .int .i64 0, .int .i64 m3, .int .i64 0, .int .i64 m5, .bool false, .int .i64 m7, .int .i64 m8, .int .i64 0, .int .i64 0, .slice none 0 0, .int .i64 0, .int .i64 0, .slice none 0 0, .slice none 0 0, .int .i64 0, .int .i64 0, .int .i64 0, .int .i64 0, .int .i64 0, .slice none 0 0, .slice none 0 0, .slice none 0 0]) Try.underlying31 rfl (by kernel_rfl)) rfl ?_
    have hb3 := below_setRow HB1.out (show w.heap.size ≤ h from Nat.le_of_eq HHG.out) #[.int .i64 m0, .int .i64 m1, .int .i64 0, .int .i64 m3, .int .i64 0, .int .i64 m5, .bool false, .int .i64 m7, .int .i64 m8, .int .i64 0, .int .i64 0, .slice none 0 0, .int .i64 0, .int .i64 0, .slice none 0 0, .slice none 0 0, .int .i64 0, .int .i64 0, .int .i64 0, .int .i64 0, .int .i64 0, .slice none 0 0, .slice none 0 0, .slice none 0 0]
    rw [e2, H1.out.com.cells, HN.out.2.2.2.2.2]
    exact ⟨rfl, gaS b A, ⟨A, k, c, es, m0, m1, m3, m5, m7, m8, H1.out.below hb3, rfl⟩, Adv.of_below _ hb3⟩
  | false =>
    have hnone : g.com = none := by have := HN.out.2.2.2.2.2; cases hc : g.com with
      | none => rfl
      | some c => rw [hc] at this; cases this
    have hR0 : RdV w w.heap.size A k es := by
      have := H1.out.own; have h2 := H1.out.len
      subst h2
      exact OwnV.rd this H1.out.ms
    have hk7 := H1.out.few hnone
    obtain ⟨r, hr⟩ : ∃ r, Vw.choose g.l (n : Int) = r := ⟨_, rfl⟩
    obtain ⟨r1, r2, r3, r4⟩ := r
    have HRR := Lib.hid hr
    have CC : Hid (∀ wz, Below w1.heap.size w1 wz → Calls Try.prog 34 #[.slice A k c, .int .i64 (n : Int)] wz fun e w' => e = .returned (.tuple #[.int .i64 r1, .int .i64 r2, .int .i64 r3, .bool r4]) ∧ Below wz.heap.size wz w') := Lib.hid (fun wz hz =>
      choose14 (es := es) (r := (r1, r2, r3, r4)) (n : Int) (by rw [H1.out.st hnone]; exact hr) ⟨by omega, by omega⟩ (by omega) ((hR0.below (HB1.out.trans (hz.mono HB1.out.size))).fit))
    have HNO := Lib.hid hnone
    clear hR0 hr hnone f5
    go_upto_region 3 with fail
    have hS0 : Below w1.heap.size w1 w1.drew := bel_drewN w1 1
    refine wp_region_held_drew (S := fun w' => Below w1.heap.size w1 w') (by kernel_rfl) hS0 (fun _ => ?_)
    have hS := Lib.hid hS0
    clear hS0
    generalize w1.drew = w2 at hS ⊢
    -- REGION3
    refine wpAnyH_take (i := 0) (v := .pointer (some ⟨b, 0, none⟩)) rfl (by kernel_rfl) (by kernel_rfl) (by kernel_rfl) (fun _ _ _ h => h) (Or.inl ⟨by kernel_rfl, fun w _ => by go_simp⟩) hS.out ?_
    refine wpAnyH_take (i := 1) (v := .pointer (some ⟨b, 0, none⟩)) rfl (by kernel_rfl) (by kernel_rfl) (by kernel_rfl) (fun _ _ _ h => h) (Or.inl ⟨by kernel_rfl, fun w _ => by go_simp⟩) hS.out ?_
    refine wpAnyH_take (i := 2) (v := .pointer (some ⟨b, 4, none⟩)) rfl (by kernel_rfl) (by kernel_rfl) (by kernel_rfl) (fun _ _ _ h => h) (Or.inl ⟨by kernel_rfl, fun w _ => by go_simp⟩) hS.out ?_
    refine wpAnyH_take (i := 3) (v := .slice A k c) rfl (by kernel_rfl) (by kernel_rfl) (by kernel_rfl) (fun _ _ _ h => h) (Or.inl ⟨by kernel_rfl, fun wq hq => by have q := (hq.cell (p := ⟨b, 4, none⟩) HLT.out).trans c4; go_simp⟩) hS.out ?_
    refine wpAnyH_take (i := 4) (v := .pointer (some ⟨b, 0, none⟩)) rfl (by kernel_rfl) (by kernel_rfl) (by kernel_rfl) (fun _ _ _ h => h) (Or.inl ⟨by kernel_rfl, fun w _ => by go_simp⟩) hS.out ?_
    refine wpAnyH_take (i := 5) (v := .pointer (some ⟨b, 0, none⟩)) rfl (by kernel_rfl) (by kernel_rfl) (by kernel_rfl) (fun _ _ _ h => h) (Or.inl ⟨by kernel_rfl, fun w _ => by go_simp⟩) hS.out ?_
    refine wpAnyH_take (i := 6) (v := .pointer (some ⟨b, 0, none⟩)) rfl (by kernel_rfl) (by kernel_rfl) (by kernel_rfl) (fun _ _ _ h => h) (Or.inl ⟨by kernel_rfl, fun w _ => by go_simp⟩) hS.out ?_
    refine wpAnyH_take (i := 7) (v := .int .i64 (n : Int)) rfl (by kernel_rfl) (by kernel_rfl) (by kernel_rfl) (fun _ _ _ h => h) (Or.inl ⟨by kernel_rfl, fun wq hq => by have q := (hq.cell (p := ⟨b, 0, none⟩) HLT.out).trans c0; go_simp⟩) hS.out ?_
    refine wpAnyH_ready (rs := [8]) (by kernel_rfl) (by simp) ?_
    refine AllReadyH.cons rfl (fun K hK => ?_) AllReadyH.nil
    go_simp
    refine (CC.out w2 hS.out).mono ?_
    rintro e w3 ⟨rfl, hb3⟩
    have hS := Lib.hid (hS.out.trans (hb3.mono hS.out.size))
    clear hb3
    go_simp
    refine hK.out _ _ hS.out (fun _ => ?_)
    clear hK K
    refine wpAnyH_take (i := 9) (v := .tuple #[.int .i64 r1, .int .i64 r2, .int .i64 r3, .bool r4]) rfl (by kernel_rfl) (by kernel_rfl) (by kernel_rfl) (fun _ _ _ h => h) (Or.inl ⟨by kernel_rfl, fun w _ => by go_simp⟩) hS.out ?_
    refine wpAnyH_take (i := 10) (v := .int .i64 r1) rfl (by kernel_rfl) (by kernel_rfl) (by kernel_rfl) (fun _ _ _ h => h) (Or.inl ⟨by kernel_rfl, fun w _ => by go_simp⟩) hS.out ?_
    refine wpAnyH_take (i := 11) (v := .int .i64 r2) rfl (by kernel_rfl) (by kernel_rfl) (by kernel_rfl) (fun _ _ _ h => h) (Or.inl ⟨by kernel_rfl, fun w _ => by go_simp⟩) hS.out ?_
    refine wpAnyH_take (i := 12) (v := .int .i64 r3) rfl (by kernel_rfl) (by kernel_rfl) (by kernel_rfl) (fun _ _ _ h => h) (Or.inl ⟨by kernel_rfl, fun w _ => by go_simp⟩) hS.out ?_
    refine wpAnyH_take (i := 13) (v := .bool r4) rfl (by kernel_rfl) (by kernel_rfl) (by kernel_rfl) (fun _ _ _ h => h) (Or.inl ⟨by kernel_rfl, fun w _ => by go_simp⟩) hS.out ?_
    refine wpAnyH_take (i := 14) (v := .int .i64 r1) rfl (by kernel_rfl) (by kernel_rfl) (by kernel_rfl) (fun _ _ _ h => h) (Or.inl ⟨by kernel_rfl, fun w _ => by go_simp⟩) hS.out ?_
    refine wpAnyH_take (i := 15) (v := .int .i64 r2) rfl (by kernel_rfl) (by kernel_rfl) (by kernel_rfl) (fun _ _ _ h => h) (Or.inl ⟨by kernel_rfl, fun w _ => by go_simp⟩) hS.out ?_
    refine wpAnyH_take (i := 16) (v := .int .i64 r3) rfl (by kernel_rfl) (by kernel_rfl) (by kernel_rfl) (fun _ _ _ h => h) (Or.inl ⟨by kernel_rfl, fun w _ => by go_simp⟩) hS.out ?_
    refine wpAnyH_take (i := 17) (v := .bool r4) rfl (by kernel_rfl) (by kernel_rfl) (by kernel_rfl) (fun _ _ _ h => h) (Or.inl ⟨by kernel_rfl, fun w _ => by go_simp⟩) hS.out ?_
    refine wpAnyH_done (by kernel_rfl) ?_ _
    -- END3
    go_simp
    have HB3 := Lib.hid (HB1.out.trans (hS.out.mono HB1.out.size))
    have HK3 := Lib.hid (HK1.out.below hS.out)
    have HKH3 := Lib.hid (HKH.out.below hS.out)
    have HLT3 := Lib.hid HK3.out.lt
    clear c0 c1 c2 c4 f29 f4 c29 HLT CC hS HK1 HKH
    cases r4 with
    | false =>
      have hp : g.pick = none := by
        cases hp : g.pick with
        | none => rfl
        | some c =>
          obtain ⟨mm, q2, q3⟩ := c
          have := (H1.out.ok.choose_yes HNO.out hp).1
          rw [HN.out.1, HRR.out] at this
          injection this with _ this; injection this with _ this; injection this with _ this; cases this
      have e2 : g2 = g := by
        rw [← H2.out]; unfold Gm.commit; rw [hp, ← HNO.out]
      have hm : g.msg = Mg.zero := by unfold Gm.msg; rw [HNO.out]
      go_wp2_with (first
        | (refine wpList_store_row rfl 31 (.tmp 2) (.tmp 32) rfl h #[.int .i64 0, .int .i64 0, .int .i64 0, .int .i64 0, .int .i64 0, .int .i64 0, .bool false, .int .i64 0, .int .i64 0, .int .i64 0, .int .i64 0, .slice none 0 0, .int .i64 0, .int .i64 0, .slice none 0 0, .slice none 0 0, .int .i64 0, .int .i64 0, .int .i64 0, .int .i64 0, .int .i64 0, .slice none 0 0, .slice none 0 0, .slice none 0 0] rfl rfl 31 msgZ HKH3.out (by kernel_rfl) rfl (by kernel_rfl) ?_)
        | fail)
      refine bodyPost_ret (results_cell_tmp rfl _ _ _ _ _ _ rfl (HKH3.out.row #[.int .i64 0, .int .i64 0, .int .i64 0, .int .i64 0, .int .i64 0, .int .i64 0, .bool false, .int .i64 0, .int .i64 0, .int .i64 0, .int .i64 0, .slice none 0 0, .int .i64 0, .int .i64 0, .slice none 0 0, .slice none 0 0, .int .i64 0, .int .i64 0, .int .i64 0, .int .i64 0, .int .i64 0, .slice none 0 0, .slice none 0 0, .slice none 0 0]) Try.underlying31 rfl (by kernel_rfl)) rfl ?_
      have hb3 := below_setRow HB3.out (show w.heap.size ≤ h from Nat.le_of_eq HHG.out) #[.int .i64 0, .int .i64 0, .int .i64 0, .int .i64 0, .int .i64 0, .int .i64 0, .bool false, .int .i64 0, .int .i64 0, .int .i64 0, .int .i64 0, .slice none 0 0, .int .i64 0, .int .i64 0, .slice none 0 0, .slice none 0 0, .int .i64 0, .int .i64 0, .int .i64 0, .int .i64 0, .int .i64 0, .slice none 0 0, .slice none 0 0, .slice none 0 0]
      rw [e2, hm, HN.out.2.2.2.2.2]
      exact ⟨rfl, gaS b A, ⟨A, k, c, es, m0, m1, m3, m5, m7, m8, H1.out.below hb3, rfl⟩, Adv.of_below _ hb3⟩
    | true =>
      obtain ⟨mm, hmm, hp⟩ : ∃ mm : Nat, r1 = (mm : Int) ∧ g.pick = some (mm, r2, r3) := by
        cases hp : g.pick with
        | none =>
          have := H1.out.ok.choose_no HNO.out hp
          rw [HN.out.1, HRR.out] at this
          injection this with _ this; injection this with _ this; injection this with _ this; cases this
        | some c =>
          obtain ⟨mm, q2, q3⟩ := c
          have := (H1.out.ok.choose_yes HNO.out hp).1
          rw [HN.out.1, HRR.out] at this
          injection this with u1 this; injection this with u2 this; injection this with u3 this
          subst u1 u2 u3
          exact ⟨mm, rfl, rfl⟩
      subst hmm
      have HP := Lib.hid hp
      have c1 := HK3.out.cell 1
      have c2 := HK3.out.cell 2
      simp [gthC] at c1 c2
      go_upto_region 6 with fail
      refine region_T (n := 15) (S := fun w' => w' = w3.drew) (by kernel_rfl) ?_
      replace c1 : w3.drew.cell? ⟨b, 1, none⟩ = some (.int .i64 id) := c1
      replace c2 : w3.drew.cell? ⟨b, 2, none⟩ = some (.int .i64 v) := c2
      replace HK3 : Hid (Blk w3.drew b 54 (gthC n id v cm A k c m0 m1 m3 m5 m7 m8 false rd)) := HK3
      replace HKH3 : Hid (Blk w3.drew h 31 msgZ) := HKH3
      replace HB3 : Hid (Below w.heap.size w w3.drew) := Lib.hid HB3.out.drew
      clear HLT3
      generalize w3.drew = w4 at c1 c2 HK3 HKH3 HB3 ⊢
      -- REGION6
      refine AnyT.takeC [14, 13, 0] [] (i := 0) (v := .pointer (some ⟨b, 0, none⟩)) rfl (by kernel_rfl) (by kernel_rfl) (by kernel_rfl) (by kernel_rfl) (by kernel_rfl) (by kernel_rfl) (fun _ _ _ h => h) (Or.inl ⟨by kernel_rfl, fun w _ => by go_simp⟩) rfl ?_
      refine AnyT.takeC [12, 4, 3, 2, 1] [] (i := 1) (v := .pointer (some ⟨b, 0, none⟩)) rfl (by kernel_rfl) (by kernel_rfl) (by kernel_rfl) (by kernel_rfl) (by kernel_rfl) (by kernel_rfl) (fun _ _ _ h => h) (Or.inl ⟨by kernel_rfl, fun w _ => by go_simp⟩) rfl ?_
      refine AnyT.takeC [12, 4, 3, 2] [] (i := 2) (v := .pointer (some ⟨b, 0, none⟩)) rfl (by kernel_rfl) (by kernel_rfl) (by kernel_rfl) (by kernel_rfl) (by kernel_rfl) (by kernel_rfl) (fun _ _ _ h => h) (Or.inl ⟨by kernel_rfl, fun w _ => by go_simp⟩) rfl ?_
      refine AnyT.takeC [12, 4, 3] [] (i := 3) (v := .pointer (some ⟨b, 2, none⟩)) rfl (by kernel_rfl) (by kernel_rfl) (by kernel_rfl) (by kernel_rfl) (by kernel_rfl) (by kernel_rfl) (fun _ _ _ h => h) (Or.inl ⟨by kernel_rfl, fun w _ => by go_simp⟩) rfl ?_
      refine AnyT.takeC [12, 4] [] (i := 4) (v := .int .i64 v) rfl (by kernel_rfl) (by kernel_rfl) (by kernel_rfl) (by kernel_rfl) (by kernel_rfl) (by kernel_rfl) (fun _ _ _ h => h) (Or.inl ⟨by kernel_rfl, fun wq hq => by rw [hq]; have q := c2; go_simp⟩) rfl ?_
      refine AnyT.takeC [12, 8, 7, 6, 5] [] (i := 5) (v := .pointer (some ⟨b, 0, none⟩)) rfl (by kernel_rfl) (by kernel_rfl) (by kernel_rfl) (by kernel_rfl) (by kernel_rfl) (by kernel_rfl) (fun _ _ _ h => h) (Or.inl ⟨by kernel_rfl, fun w _ => by go_simp⟩) rfl ?_
      refine AnyT.takeC [12, 8, 7, 6] [] (i := 6) (v := .pointer (some ⟨b, 0, none⟩)) rfl (by kernel_rfl) (by kernel_rfl) (by kernel_rfl) (by kernel_rfl) (by kernel_rfl) (by kernel_rfl) (fun _ _ _ h => h) (Or.inl ⟨by kernel_rfl, fun w _ => by go_simp⟩) rfl ?_
      refine AnyT.takeC [12, 8, 7] [] (i := 7) (v := .pointer (some ⟨b, 1, none⟩)) rfl (by kernel_rfl) (by kernel_rfl) (by kernel_rfl) (by kernel_rfl) (by kernel_rfl) (by kernel_rfl) (fun _ _ _ h => h) (Or.inl ⟨by kernel_rfl, fun w _ => by go_simp⟩) rfl ?_
      refine AnyT.takeC [12, 8] [] (i := 8) (v := .int .i64 id) rfl (by kernel_rfl) (by kernel_rfl) (by kernel_rfl) (by kernel_rfl) (by kernel_rfl) (by kernel_rfl) (fun _ _ _ h => h) (Or.inl ⟨by kernel_rfl, fun wq hq => by rw [hq]; have q := c1; go_simp⟩) rfl ?_
      refine AnyT.takeC [12, 9] [] (i := 9) (v := .int .i64 (mm : Int)) rfl (by kernel_rfl) (by kernel_rfl) (by kernel_rfl) (by kernel_rfl) (by kernel_rfl) (by kernel_rfl) (fun _ _ _ h => h) (Or.inl ⟨by kernel_rfl, fun w _ => by go_simp⟩) rfl ?_
      refine AnyT.takeC [12, 10] [] (i := 10) (v := .int .i64 r2) rfl (by kernel_rfl) (by kernel_rfl) (by kernel_rfl) (by kernel_rfl) (by kernel_rfl) (by kernel_rfl) (fun _ _ _ h => h) (Or.inl ⟨by kernel_rfl, fun w _ => by go_simp⟩) rfl ?_
      refine AnyT.takeC [12, 11] [] (i := 11) (v := .int .i64 r3) rfl (by kernel_rfl) (by kernel_rfl) (by kernel_rfl) (by kernel_rfl) (by kernel_rfl) (by kernel_rfl) (fun _ _ _ h => h) (Or.inl ⟨by kernel_rfl, fun w _ => by go_simp⟩) rfl ?_
      refine AnyT.ready (rs := [12]) (by kernel_rfl) (by simp) ?_
      refine AllT.cons rfl (fun K hK => ?_) AllT.nil
      go_simp
      refine hK.out _ _ (Or.inr (rfl)) (fun _ => ?_)
      clear hK K
      refine AnyT.ready (rs := [13]) (by kernel_rfl) (by simp) ?_
      refine AllT.cons rfl (fun K hK => ?_) AllT.nil
      go_simp
      refine hK.out _ _ (Or.inr (rfl)) (fun _ => ?_)
      clear hK K
      refine AnyT.ready (rs := [14]) (by kernel_rfl) (by simp) ?_
      refine AllT.cons rfl (fun K hK => ?_) AllT.nil
      go_simp
      refine hK.out _ _ (Or.inr (rfl)) (fun _ => ?_)
      clear hK K
      refine AnyT.ready (rs := [15]) (by kernel_rfl) (by simp) ?_
      refine AllT.cons rfl (fun K hK => ?_) AllT.nil
      rw [if_pos (by kernel_rfl)]
      refine wp_store_mid 31 (.tmp 47) (.tmp 45) rfl b 5 #[.int .i64 3, .int .i64 id, .int .i64 0, .int .i64 v, .int .i64 0, .int .i64 r3, .bool false, .int .i64 (mm : Int), .int .i64 r2, .int .i64 0, .int .i64 0, .slice none 0 0, .int .i64 0, .int .i64 0, .slice none 0 0, .slice none 0 0, .int .i64 0, .int .i64 0, .int .i64 0, .int .i64 0, .int .i64 0, .slice none 0 0, .slice none 0 0, .slice none 0 0] (by kernel_rfl) (by kernel_rfl) (there_blk HK3.out (by show 5 + 24 ≤ 31; decide)) (by kernel_rfl) (by kernel_rfl) ?_
      refine hK.out _ _ (Or.inl rfl) (fun _ => ?_)
      clear hK K
      refine AnyT.done (by kernel_rfl) ?_ _
      -- END6
      go_simp
      obtain ⟨w5, hw5⟩ : ∃ y, w4.setCells b 5 [.int .i64 3, .int .i64 id, .int .i64 0, .int .i64 v, .int .i64 0, .int .i64 r3, .bool false, .int .i64 (mm : Int), .int .i64 r2, .int .i64 0, .int .i64 0, .slice none 0 0, .int .i64 0, .int .i64 0, .slice none 0 0, .slice none 0 0, .int .i64 0, .int .i64 0, .int .i64 0, .int .i64 0, .int .i64 0, .slice none 0 0, .slice none 0 0, .slice none 0 0] = y := ⟨_, rfl⟩
      rw [hw5]
      have HK5 : Hid (Blk w5 b 54 (gthC n id v cm A k c 3 id v r3 (mm : Int) r2 false rd)) := Lib.hid (by rw [← setL_gth n id v cm A k c m0 m1 m3 m5 m7 m8 3 id v r3 (mm : Int) r2 false rd, ← hw5]; exact Blk.setL (w := w4) _ 5 _ _ HK3.out)
      have HKH5 : Hid (Blk w5 h 31 msgZ) := Lib.hid (by rw [← hw5]; exact blk_setCells_other HKH3.out HBH.out _ _)
      have HKP5 : Hid (Keeps (gaS b A) w w5) := Lib.hid (by rw [← hw5]; exact keeps_setCells (S := gaS b A) (.inl rfl) _ 5 _ (Keeps.of_below HB3.out))
      clear hw5 HK3 HKH3 HB3 c1 c2
      have c29 := HK5.out.cell 29
      have f29 := HK5.out.frozen 29
      simp [gthC] at c29
      go_upto_region 8 with fail
      obtain ⟨w6, hw6⟩ : ∃ y, w5.setCell ⟨b, 29, none⟩ (.bool true) = y := ⟨_, rfl⟩
      rw [hw6]
      have HK6 : Hid (Blk w6 b 54 (gthC n id v cm A k c 3 id v r3 (mm : Int) r2 true rd)) := Lib.hid (by rw [← hw6]; exact HK5.out.set_ 29 _)
      have HKH6 : Hid (Blk w6 h 31 msgZ) := Lib.hid (by rw [← hw6]; exact HKH5.out.set_other HBH.out)
      have HKP6 : Hid (Keeps (gaS b A) w w6) := Lib.hid (by rw [← hw6]; exact keeps_setCell (S := gaS b A) (.inl rfl) HKP5.out 29 _)
      clear hw6 HK5 HKH5 HKP5 c29 f29
      have c4 := HK6.out.cell 4
      have f4 := HK6.out.frozen 4
      simp [gthC] at c4
      go_upto_region 9 with fail
      obtain ⟨w7, hw7⟩ : ∃ y, w6.setCell ⟨b, 4, none⟩ (.slice none 0 0) = y := ⟨_, rfl⟩
      rw [hw7]
      have HK7 : Hid (Blk w7 b 54 (gthC n id v cm none 0 0 3 id v r3 (mm : Int) r2 true rd)) := Lib.hid (by rw [← hw7]; exact HK6.out.set_ 4 _)
      have HKH7 : Hid (Blk w7 h 31 msgZ) := Lib.hid (by rw [← hw7]; exact HKH6.out.set_other HBH.out)
      have HKP7 : Hid (Keeps (gaS b A) w w7) := Lib.hid (by rw [← hw7]; exact keeps_setCell (S := gaS b A) (.inl rfl) HKP6.out 4 _)
      clear hw7 HK6 HKH6 HKP6 c4 f4
      have HR5 := Lib.hid (rangeCom HK7.out)
      unfold comC at HR5
      go_wp2_with (first
        | (refine wpList_load_mid rfl 31 (.tmp 56) rfl b 5 rfl [.int .i64 3, .int .i64 id, .int .i64 0, .int .i64 v, .int .i64 0, .int .i64 r3, .bool false, .int .i64 (mm : Int), .int .i64 r2, .int .i64 0, .int .i64 0, .slice none 0 0, .int .i64 0, .int .i64 0, .slice none 0 0, .slice none 0 0, .int .i64 0, .int .i64 0, .int .i64 0, .int .i64 0, .int .i64 0, .slice none 0 0, .slice none 0 0, .slice none 0 0] _ HR5.out Try.underlying31 rfl (by kernel_rfl) ?_)
        | (refine wpList_store_row rfl 31 (.tmp 2) (.tmp 57) rfl h #[.int .i64 3, .int .i64 id, .int .i64 0, .int .i64 v, .int .i64 0, .int .i64 r3, .bool false, .int .i64 (mm : Int), .int .i64 r2, .int .i64 0, .int .i64 0, .slice none 0 0, .int .i64 0, .int .i64 0, .slice none 0 0, .slice none 0 0, .int .i64 0, .int .i64 0, .int .i64 0, .int .i64 0, .int .i64 0, .slice none 0 0, .slice none 0 0, .slice none 0 0] rfl rfl 31 msgZ HKH7.out (by kernel_rfl) rfl (by kernel_rfl) ?_)
        | fail)
      refine bodyPost_ret (results_cell_tmp rfl _ _ _ _ _ _ rfl (HKH7.out.row #[.int .i64 3, .int .i64 id, .int .i64 0, .int .i64 v, .int .i64 0, .int .i64 r3, .bool false, .int .i64 (mm : Int), .int .i64 r2, .int .i64 0, .int .i64 0, .slice none 0 0, .int .i64 0, .int .i64 0, .slice none 0 0, .slice none 0 0, .int .i64 0, .int .i64 0, .int .i64 0, .int .i64 0, .int .i64 0, .slice none 0 0, .slice none 0 0, .slice none 0 0]) Try.underlying31 rfl (by kernel_rfl)) rfl ?_
      have hk8 := (HKP7.out.trans (Keeps.of_only (S := fun q => q = h) (only_row w7 h #[.int .i64 3, .int .i64 id, .int .i64 0, .int .i64 v, .int .i64 0, .int .i64 r3, .bool false, .int .i64 (mm : Int), .int .i64 r2, .int .i64 0, .int .i64 0, .slice none 0 0, .int .i64 0, .int .i64 0, .slice none 0 0, .slice none 0 0, .int .i64 0, .int .i64 0, .int .i64 0, .int .i64 0, .int .i64 0, .slice none 0 0, .slice none 0 0, .slice none 0 0]) rfl) (fun q hq hlt => by have := HHG.out; omega))
      have e2 : g2 = { g with com := some (mm, r2, r3) } := by rw [← H2.out]; unfold Gm.commit; rw [HP.out]
      have hok : g2.Ok := by rw [← H2.out]; exact H1.out.ok.commit
      have hk8b := hk8.below H1.out.bel (fun q hq => (H1.out.lt q hq).1)
      have hb8 := HK7.out.row_other (Ne.symm HBH.out) #[.int .i64 3, .int .i64 id, .int .i64 0, .int .i64 v, .int .i64 0, .int .i64 r3, .bool false, .int .i64 (mm : Int), .int .i64 r2, .int .i64 0, .int .i64 0, .slice none 0 0, .int .i64 0, .int .i64 0, .slice none 0 0, .slice none 0 0, .int .i64 0, .int .i64 0, .int .i64 0, .int .i64 0, .int .i64 0, .slice none 0 0, .slice none 0 0, .slice none 0 0]
      obtain ⟨u1, u2, u3, u4, u5, u6⟩ := HN.out
      rw [e2] at hok ⊢
      refine ⟨?_, gaS b none, ⟨none, 0, 0, [], 3, id, v, r3, (mm : Int), r2, ⟨?_, ?_, OwnV.nil _ _, rfl, fun cs hc => (by cases hc), ?_, hok, H1.out.lo, hk8b⟩, rfl⟩, hk8, ?_⟩
      · show _ = Ending.returned (.tuple #[msgV GA.zero { Mg.zero with kind := 3, frm := g.id, view := g.v, len := r3, mem := (mm : Int), src := r2 }, .bool true])
        rw [u2, u3]
        rfl
      · show Blk _ b 54 (gthC g.n g.id g.v (Gm.came g.l) none 0 0 3 id v r3 (mm : Int) r2 true g.ready)
        rw [u1, u2, u3, u4, u5]
        exact hb8
      · exact ⟨rfl, u2, u3, rfl, rfl, rfl⟩
      · intro hc; cases hc
      · rintro q (rfl | ⟨o, hq⟩)
        · exact .inl (.inl rfl)
        · cases hq
end Go.Proofs.Ytneehnoolhadbaa

