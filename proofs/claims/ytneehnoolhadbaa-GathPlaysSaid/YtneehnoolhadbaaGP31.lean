/- GathCode2 GathCode3 -/
import Derived.Test.YtneehnoolhadbaaGP27
import Derived.Test.YtneehnoolhadbaaGP30
namespace Go.Proofs.Ytneehnoolhadbaa
open Go.RowKit
set_option linter.unusedVariables false
set_option linter.unusedSimpArgs false
section
variable {W w : World} {S : Nat → Prop} {b : Nat} {g : Gm}
theorem gall_any (h : GthAt W w S b g) {r : Bool} (hr : g.all = r) :
    Calls Try.prog 13 #[.pointer (some ⟨b, 0, none⟩)] w fun e w' => e = .returned (.bool r) ∧ Below w.heap.size w w' := by
  obtain ⟨x, hx⟩ : ∃ x, g.lacking = x := ⟨_, rfl⟩
  have HC := Lib.hid (glack_any h hx)
  have HR : Hid (((x : Int) == 0) = r) := Lib.hid (by rw [← hr, ← hx]; unfold Gm.all; rw [show (((g.lacking : Nat) : Int) == 0) = decide (((g.lacking : Nat) : Int) = 0) by rfl]; exact decide_eq_decide.2 (by omega))
  clear h hx hr
  go_enter Try.func13, Try.ntmps13
  go_wp2_with (first | (go_at_call 32; refine HC.out.mono ?_; rintro e w1 ⟨rfl, hb⟩) | fail)
  go_ret
  exact ⟨ret_bool HR.out, hb⟩
theorem gabsent_any (h : GthAt W w S b g) {l : List Int} (hl : Vw.mem (g.lacking : Int) = l) :
    Calls Try.prog 11 #[.pointer (some ⟨b, 0, none⟩)] w (MadeI w w l) := by
  obtain ⟨x, hx⟩ : ∃ x, g.lacking = x := ⟨_, rfl⟩
  have HC := Lib.hid (glack_any h hx)
  have hx7 : x < 128 := by rw [← hx]; exact h.ok.lack_lt
  rw [hx] at hl
  have HL := Lib.hid hl
  clear h hx hl
  go_enter Try.func11, Try.ntmps11
  go_wp2_with fail
  refine HC.out.mono ?_
  rintro e w1 ⟨rfl, hb1⟩
  have HB := Lib.hid hb1
  clear hb1
  go_wp2_with fail
  refine (members14 w1 (x : Int) ⟨by omega, by omega⟩).mono ?_
  rw [HL.out]
  rintro e w2 ⟨A2, c2, rfl, ho, hB, hb⟩
  have HO := Lib.hid ho
  have HB2 := Lib.hid hb
  clear ho hB hb
  go_wp2_with fail
  go_ret
  have h3 := HB.out.trans (HB2.out.mono HB.out.size)
  exact ⟨A2, c2, rfl, own_of HB.out.size HO.out, h3, h3⟩
theorem gunr_any (h : GthAt W w S b g) {l : List Int} (hl : Vw.mem (g.unready : Int) = l) :
    Calls Try.prog 17 #[.pointer (some ⟨b, 0, none⟩)] w (MadeI w w l) := by
  obtain ⟨x, hx⟩ : ∃ x, g.unready = x := ⟨_, rfl⟩
  have HC := Lib.hid (gunready_any h hx)
  have hx7 : x < 128 := by rw [← hx]; exact h.ok.un_lt
  rw [hx] at hl
  have HL := Lib.hid hl
  clear h hx hl
  go_enter Try.func17, Try.ntmps17
  go_wp2_with fail
  refine HC.out.mono ?_
  rintro e w1 ⟨rfl, hb1⟩
  have HB := Lib.hid hb1
  clear hb1
  go_wp2_with fail
  refine (members14 w1 (x : Int) ⟨by omega, by omega⟩).mono ?_
  rw [HL.out]
  rintro e w2 ⟨A2, c2, rfl, ho, hB, hb⟩
  have HO := Lib.hid ho
  have HB2 := Lib.hid hb
  clear ho hB hb
  go_wp2_with fail
  go_ret
  have h3 := HB.out.trans (HB2.out.mono HB.out.size)
  exact ⟨A2, c2, rfl, own_of HB.out.size HO.out, h3, h3⟩
theorem gdone_any (h : GthAt W w S b g) {r : Bool} (hr : g.done = r) :
    Calls Try.prog 15 #[.pointer (some ⟨b, 0, none⟩)] w fun e w' => e = .returned (.bool r) ∧ Below w.heap.size w w' := by
  obtain ⟨x, hx⟩ : ∃ x, g.unready = x := ⟨_, rfl⟩
  have HC := Lib.hid (gunready_any h hx)
  obtain ⟨su, hsu⟩ : ∃ x, g.com.isSome = x := ⟨_, rfl⟩
  have hR : (su && ((x : Int) == 0)) = r := by rw [← hr, ← hx, ← hsu]; unfold Gm.done; rw [show (((g.unready : Nat) : Int) == 0) = decide (((g.unready : Nat) : Int) = 0) by rfl]; congr 1; exact decide_eq_decide.2 (by omega)
  have c29 : w.cell? ⟨b, 29, none⟩ = some (.bool su) := by
    obtain ⟨A, k, c, es, m0, m1, m3, m5, m7, m8, h1, rfl⟩ := h
    have := h1.blk.cell 29
    simpa [gthC, hsu] using this
  have HR := Lib.hid hR
  clear h hx hr hsu hR
  cases su with
  | true =>
    go_enter Try.func15, Try.ntmps15
    go_wp2_with (first | (go_at_call 35; refine HC.out.mono ?_; rintro e w1 ⟨rfl, hb⟩) | fail)
    go_ret
    exact ⟨ret_bool (by rw [← HR.out]; rfl), hb⟩
  | false =>
    go_enter Try.func15, Try.ntmps15
    go_wp2_with fail
    go_ret
    exact ⟨ret_bool (by rw [← HR.out]; rfl), Below.refl _ _⟩
end
end Go.Proofs.Ytneehnoolhadbaa

namespace Go.Proofs.Ytneehnoolhadbaa
open Go.RowKit
set_option linter.unusedVariables false
set_option linter.unusedSimpArgs false
set_option maxHeartbeats 1000000 in
set_option maxRecDepth 100000 in
theorem gready_any {W w : World} {S : Nat → Prop} {b : Nat} {g g2 : Gm} (h : GthAt W w S b g) {z : Int} (hz : In64 z) {r : Bool} (hr : g.mayR z = r) (h2 : g.doR z = g2) :
    Calls Try.prog 16 #[.pointer (some ⟨b, 0, none⟩), .int .i64 z] w fun e w' => e = .returned (.bool r) ∧ GotGa W w S b g2 w' := by
  obtain ⟨x, hx⟩ : ∃ x, g.unready = x := ⟨_, rfl⟩
  have HC := Lib.hid (gunready_any h hx)
  have hx7 : x < 128 := by rw [← hx]; exact h.ok.un_lt
  have HH := Lib.hid h
  have hR : (decide (0 ≤ z) && x.testBit z.toNat) = r := by rw [← hr, ← hx]; rfl
  have H2 := Lib.hid h2
  have HR := Lib.hid hr
  have HZ := Lib.hid hz
  clear h hx
  go_enter Try.func16, Try.ntmps16
  go_wp2_with fail
  refine HC.out.mono ?_
  rintro e w1 ⟨rfl, hb1⟩
  have HB := Lib.hid hb1
  have HH1 := Lib.hid (HH.out.below hb1)
  clear hb1
  go_wp2_with fail
  refine (ghas_any w1 x z hx7 HZ.out).mono ?_
  rw [hR]
  rintro e w1' ⟨rfl, hw1⟩
  rw [← hw1]
  clear hw1 hR hz
  cases r with
  | false =>
    go_wp2_with fail
    go_ret
    refine ⟨rfl, S, ?_, Adv.of_below _ HB.out⟩
    rw [← H2.out]; unfold Gm.doR; rw [if_neg (by rw [HR.out]; decide)]; exact HH1.out
  | true =>
    obtain ⟨j, hj, hj7, hm, hrd⟩ := HH.out.ok.mayR_is.1 HR.out
    subst hj
    obtain ⟨A, k, c, es, m0, m1, m3, m5, m7, m8, h1, rfl⟩ := HH1.out
    have H1 := Lib.hid h1
    obtain ⟨rd, hrd'⟩ : ∃ n, g.ready = n := ⟨_, rfl⟩
    have hrd7 : rd < 128 := by rw [← hrd']; exact h1.ok.rd
    have c30 := h1.blk.cell 30
    have f30 := h1.blk.frozen 30
    simp [gthC, hrd'] at c30
    have hor := Vw.or_nat hrd7 hj7
    obtain ⟨P, hP, hw, hP1, hP2⟩ := pow_in (n := j) (by omega)
    obtain ⟨x2, hx2⟩ : ∃ x, rd ||| 2 ^ j = x := ⟨_, rfl⟩
    rw [hx2, show ((2 : Int) ^ j) = (P : Int) by rw [← hP]; simp] at hor
    have HX := Lib.hid hx2
    have HRD := Lib.hid hrd'
    clear h1 hm hrd hP hx2 hrd' HC HH HH1
    go_upto_region 3 with fail
    go_region
    go_wp2_with fail
    go_ret
    have hk : Keeps (gaS b A) w1 (w1.setCell ⟨b, 30, none⟩ (.int .i64 (x2 : Int))) := keeps_setCell (S := gaS b A) (.inl rfl) (Keeps.refl _ _) 30 _
    refine ⟨rfl, gaS b A, ⟨A, k, c, es, m0, m1, m3, m5, m7, m8, ?_, rfl⟩, ⟨(Keeps.of_below HB.out).trans ⟨hk.os, hk.tape, hk.output, hk.size, hk.block⟩ (fun q hq _ => hq), fun q hq => .inl hq⟩⟩
    have e2 : g2 = { g with ready := x2 } := by rw [← H2.out]; unfold Gm.doR; rw [if_pos HR.out, ← HX.out, HRD.out]; rfl
    have hok : g2.Ok := by rw [← H2.out]; exact H1.out.ok.doR
    rw [e2] at hok ⊢
    refine ⟨?_, ⟨H1.out.com.e0, H1.out.com.e1, H1.out.com.e3, H1.out.com.e5, H1.out.com.e7, H1.out.com.e8⟩, own_set_t H1.out.own H1.out.blk (by decide), H1.out.len, H1.out.ms, H1.out.st, hok, H1.out.lo, (hk.below H1.out.bel (fun q hq => (H1.out.lt q hq).1)).drew⟩
    exact H1.out.blk.set_ 30 (.int .i64 (x2 : Int))
theorem rangeG18 {w : World} {g : Nat} {a : GA} {m : Mg} (h : Blk w g 31 (msgC a m)) : w.rangeAt g 0 [.int .i64 m.kind, .int .i64 m.frm, .int .i64 m.dst, .int .i64 m.view, .int .i64 m.inst, .int .i64 m.len, .bool m.has, .int .i64 m.mem, .int .i64 m.src, .int .i64 m.pos, .int .i64 m.tot, .slice a.Ad m.data.length a.cd, .int .i64 m.hop, .int .i64 m.seq, .slice a.Ah m.hav.length a.ch, .slice a.An m.nee.length a.cn, .int .i64 m.idx, .int .i64 m.ent.s, .int .i64 m.ent.q, .int .i64 m.ent.c.kind, .int .i64 m.ent.c.who, .slice a.c.Ak m.ent.c.key.length a.c.ck, .slice a.c.Av m.ent.c.val.length a.c.cv, .slice a.c.Ao m.ent.c.old.length a.c.co] := by
  have := World.rangeAt_of_block h 0 24
  simpa [msgC] using this
def Gm.zero (n : Nat) (id v : Int) : Gm := ⟨n, id, v, [], none, 0⟩
theorem Gm.Ok.zero {n : Nat} {id v : Int} (h1 : 1 ≤ n) (h7 : n ≤ 7) : (Gm.zero n id v).Ok := by
  refine ⟨h1, h7, fun x hx => (by cases hx), List.Pairwise.nil, fun c hc => (by cases hc), ?_, fun i hi => ?_⟩
  · show (0 : Nat) < 128; decide
  · simp [Gm.zero] at hi
theorem GthAt.zero {W w' : World} {b n : Nat} {id v : Int} (h1 : 1 ≤ n) (h7 : n ≤ 7) (hb : Below W.heap.size W w') (hlo : W.heap.size ≤ b) (hk : Blk w' b 54 (gthC n id v 0 none 0 0 0 0 0 0 0 0 false 0)) : GthAt W w' (gaS b none) b (Gm.zero n id v) :=
  ⟨none, 0, 0, [], 0, 0, 0, 0, 0, 0, ⟨hk, ⟨rfl, rfl, rfl, rfl, rfl, rfl⟩, OwnV.nil _ _, rfl, fun cs hc => (by cases hc), fun _ => rfl, Gm.Ok.zero h1 h7, hlo, hb⟩, rfl⟩
/-- a gather that a call made -/
def GotNew (W w : World) (g : Gm) (e : Ending) (w' : World) : Prop := ∃ b S, e = .returned (.pointer (some ⟨b, 0, none⟩)) ∧ GthAt W w' S b g ∧ Below w.heap.size w w' ∧ ∀ q, S q → w.heap.size ≤ q
set_option maxHeartbeats 1000000 in
set_option maxRecDepth 100000 in
theorem gnew_any {W w : World} (n v : Int) (f s : Nat) {a : GA} {m : Mg} (hB : Below W.heap.size W w) (hn : In64 n) (hs : Vw.size n = s) (hf : f < s) (hlo : Vw.lo ≤ m.inst) :
    Calls Try.prog 8 #[.int .i64 n, .int .i64 (f : Int), .int .i64 v, msgV a m] w (GotNew W w (Gm.new s f v ⟨2, (f : Int), m.inst, m.len, m.has⟩)) := by
  have hs7 := Vw.size_bound n
  rw [hs] at hs7
  have HL := Lib.hid hlo
  have HB := Lib.hid hB
  have hm1 : min (max n 1) 7 = (s : Int) := by rw [← hs]; unfold Vw.size; omega
  have hm2 : min (max (f : Int) 0) ((s : Int) - 1) = (f : Int) := by omega
  have HF := Lib.hid (And.intro hf (And.intro hs7.1 hs7.2))
  have CH1 := fun wx => gheld_any wx n 1 7 hn ⟨by decide, by decide⟩ ⟨by decide, by decide⟩
  rw [hm1] at CH1
  have CH2 := fun wx => gheld_any wx (f : Int) 0 ((s : Int) - 1) ⟨by omega, by omega⟩ ⟨by decide, by decide⟩ ⟨by omega, by omega⟩
  rw [hm2] at CH2
  have hw1 : IntKind.i64.wrap ((s : Int) - 1) = (s : Int) - 1 := IntWalk.i64_in _ (by omega)
  clear hlo hB hm1 hm2 hs hn
  unfold msgV msgC
  go_enter Try.func8, Try.ntmps8
  go_upto_region 1 with fail
  obtain ⟨h, w1, hgE, hwE, hbE, hkE⟩ := alloced w (msgC a m) 31
  unfold msgC at hwE
  rw [hgE, hwE]
  have HB1 := Lib.hid hbE
  have HKH := Lib.hid hkE
  clear hgE hwE hbE hkE
  go_wp2_with fail
  refine (CH1 w1).mono ?_
  rintro e w1' ⟨rfl, hw⟩
  rw [← hw]
  clear hw
  go_wp2_with fail
  refine (CH2 w1).mono ?_
  rintro e w1' ⟨rfl, hw⟩
  rw [← hw]
  clear hw CH1 CH2
  go_upto_region 3 with fail
  obtain ⟨b, w2, hgE, hwE, hbE, hkE⟩ := alloced w1 (gthC s f v 0 none 0 0 0 0 0 0 0 0 false 0) 54
  unfold gthC at hwE
  simp only [Int.ofNat_zero, Int.cast_ofNat_Int] at hwE
  rw [hgE, hwE]
  have HB2 := Lib.hid ((HB1.out.trans (hbE.mono HB1.out.size)).drew)
  have HKB : Hid (Blk w2.drew b 54 (gthC s f v 0 none 0 0 0 0 0 0 0 0 false 0)) := Lib.hid hkE
  have HKH : Hid (Blk w2.drew h 31 (msgC a m)) := Lib.hid (HKH.out.below hbE.drew)
  have hlb : w.heap.size ≤ b := by rw [← hgE]; exact HB1.out.size
  have HLB := Lib.hid hlb
  have CA := Lib.hid (gadd_any (W := W) (a := a) (m := m) (f := f) (v' := v) (GthAt.zero HF.out.2.1 HF.out.2.2 (HB.out.trans (HB2.out.mono HB.out.size)) (Nat.le_trans HB.out.size hlb) HKB.out) (by
    refine (Gm.Ok.zero HF.out.2.1 HF.out.2.2).may_is.2 ⟨rfl, rfl, rfl, by simp, ?_, by simp [Gm.zero, Gm.came]⟩
    have := HF.out.1
    show (f : Int) < (s : Int)
    omega) HL.out)
  unfold msgV msgC at CA
  clear hgE hwE hbE hkE hlb
  refine region_T (n := 6) (S := fun w' => w' = w2.drew) (by kernel_rfl) ?_
  generalize w2.drew = w3 at HB2 HKB HKH CA ⊢
  -- REGION3
  refine AnyT.takeC [0] [] (i := 0) (v := .pointer (some ⟨b, 0, none⟩)) rfl (by kernel_rfl) (by kernel_rfl) (by kernel_rfl) (by kernel_rfl) (by kernel_rfl) (by kernel_rfl) (fun _ _ _ h => h) (Or.inl ⟨by kernel_rfl, fun w _ => by go_simp⟩) rfl ?_
  refine AnyT.takeC [4, 3, 2, 1] [] (i := 1) (v := .pointer (some ⟨b, 0, none⟩)) rfl (by kernel_rfl) (by kernel_rfl) (by kernel_rfl) (by kernel_rfl) (by kernel_rfl) (by kernel_rfl) (fun _ _ _ h => h) (Or.inl ⟨by kernel_rfl, fun w _ => by go_simp⟩) rfl ?_
  refine AnyT.takeC [4, 3, 2] [] (i := 2) (v := .pointer (some ⟨b, 0, none⟩)) rfl (by kernel_rfl) (by kernel_rfl) (by kernel_rfl) (by kernel_rfl) (by kernel_rfl) (by kernel_rfl) (fun _ _ _ h => h) (Or.inl ⟨by kernel_rfl, fun w _ => by go_simp⟩) rfl ?_
  refine AnyT.takeC [4, 3] [] (i := 3) (v := .pointer (some ⟨b, 1, none⟩)) rfl (by kernel_rfl) (by kernel_rfl) (by kernel_rfl) (by kernel_rfl) (by kernel_rfl) (by kernel_rfl) (fun _ _ _ h => h) (Or.inl ⟨by kernel_rfl, fun w _ => by go_simp⟩) rfl ?_
  refine AnyT.takeC [4] [] (i := 4) (v := .int .i64 (f : Int)) rfl (by kernel_rfl) (by kernel_rfl) (by kernel_rfl) (by kernel_rfl) (by kernel_rfl) (by kernel_rfl) (fun _ _ _ h => h) (Or.inl ⟨by kernel_rfl, fun wq hq => by rw [hq]; have q := HKB.out.cell 1; simp [gthC] at q; go_simp⟩) rfl ?_
  refine AnyT.takeC [5] [] (i := 5) (v := .agg #[.int .i64 m.kind, .int .i64 m.frm, .int .i64 m.dst, .int .i64 m.view, .int .i64 m.inst, .int .i64 m.len, .bool m.has, .int .i64 m.mem, .int .i64 m.src, .int .i64 m.pos, .int .i64 m.tot, .slice a.Ad m.data.length a.cd, .int .i64 m.hop, .int .i64 m.seq, .slice a.Ah m.hav.length a.ch, .slice a.An m.nee.length a.cn, .int .i64 m.idx, .int .i64 m.ent.s, .int .i64 m.ent.q, .int .i64 m.ent.c.kind, .int .i64 m.ent.c.who, .slice a.c.Ak m.ent.c.key.length a.c.ck, .slice a.c.Av m.ent.c.val.length a.c.cv, .slice a.c.Ao m.ent.c.old.length a.c.co]) rfl (by kernel_rfl) (by kernel_rfl) (by kernel_rfl) (by kernel_rfl) (by kernel_rfl) (by kernel_rfl) (fun _ _ _ h => h) (yieldsIf_load_mid (by kernel_rfl) 31 (.tmp 7) rfl h 0 (by kernel_rfl) [.int .i64 m.kind, .int .i64 m.frm, .int .i64 m.dst, .int .i64 m.view, .int .i64 m.inst, .int .i64 m.len, .bool m.has, .int .i64 m.mem, .int .i64 m.src, .int .i64 m.pos, .int .i64 m.tot, .slice a.Ad m.data.length a.cd, .int .i64 m.hop, .int .i64 m.seq, .slice a.Ah m.hav.length a.ch, .slice a.An m.nee.length a.cn, .int .i64 m.idx, .int .i64 m.ent.s, .int .i64 m.ent.q, .int .i64 m.ent.c.kind, .int .i64 m.ent.c.who, .slice a.c.Ak m.ent.c.key.length a.c.ck, .slice a.c.Av m.ent.c.val.length a.c.cv, .slice a.c.Ao m.ent.c.old.length a.c.co] _ (fun wq hq => by rw [hq]; exact rangeG18 HKH.out) Try.underlying31 rfl (by kernel_rfl)) rfl ?_
  refine AnyT.ready (rs := [6]) (by kernel_rfl) (by simp) ?_
  refine AllT.cons rfl (fun K hK => ?_) AllT.nil
  go_simp
  refine CA.out.mono ?_
  rintro e w4 ⟨rfl, hg⟩
  have HG := Lib.hid hg
  clear hg
  go_simp
  refine hK.out _ _ (Or.inl rfl) (fun _ => ?_)
  clear hK K
  refine AnyT.done (by kernel_rfl) ?_ _
  -- END3
  go_wp2_with fail
  go_ret
  obtain ⟨S', h1, h2⟩ := HG.out
  refine ⟨b, S', rfl, h1, h2.keeps.below HB2.out (fun q hq => ?_), fun q hq => ?_⟩
  · rcases hq with rfl | ⟨o, hq⟩
    · exact HLB.out
    · cases hq
  · rcases h2.grow q hq with (rfl | ⟨o, hq⟩) | hq
    · exact HLB.out
    · cases hq
    · exact Nat.le_trans HB2.out.size hq
end Go.Proofs.Ytneehnoolhadbaa

