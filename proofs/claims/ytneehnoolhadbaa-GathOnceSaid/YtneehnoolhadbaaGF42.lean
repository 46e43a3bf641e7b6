/- ViewCode5 -/
import Derived.Test.YtneehnoolhadbaaGF35
import Derived.Test.YtneehnoolhadbaaGF41
import Derived.BigQuiet
namespace Go.Proofs.Ytneehnoolhadbaa
open Go.RowKit
set_option linter.unusedVariables false
theorem results_tmp4V {P : Program} {fn : Func} {t u v x : Tmp} (h : fn.results = #[.tmp t, .tmp u, .tmp v, .tmp x]) (tmps : Array Value) (w : World) :
    (results fn tmps).run P w = .ok (.tuple #[tmps.getD t undef, tmps.getD u undef, tmps.getD v undef, tmps.getD x undef]) w := by
  simp [results, h]
/-- what Choose answers -/
def chV (r : Int × Int × Int × Bool) : Value := .tuple #[.int .i64 r.1, .int .i64 r.2.1, .int .i64 r.2.2.1, .bool r.2.2.2]
def ChooseC14 : Prop := ∀ {w : World} {A : Option Addr} {k c B : Nat} {es : List (List Value)} {r : Int × Int × Int × Bool} (n : Int), Vw.choose (es.map svOf) n = r → In64 n → k ≤ 1000 → RdV w B A k es →
  Calls Try.prog 34 #[.slice A k c, .int .i64 n] w fun e w' => e = .returned (chV r) ∧ Below w.heap.size w w'
theorem most14' : MostC14 := most14 vnodes_any
set_option maxRecDepth 100000 in
set_option maxHeartbeats 1000000 in
theorem choose14 : ChooseC14 := by
  intro w A k c B es r n he hn hk h
  have hs7 := Vw.size_bound n
  obtain ⟨s, hs⟩ : ∃ s, Vw.size n = s := ⟨_, rfl⟩
  have hcl := Vw.count_len s (es.map svOf)
  rw [List.length_map, h.len] at hcl
  have hcnt := Vw.cnt_all (n := s) (by omega) (es.map svOf)
  have HC1 := vcounted_any (w := w) (c := c) s (by omega) hk h
  have HN := vnodes_any w n hn
  rw [hs] at HN
  unfold Vw.choose at he
  rw [hs] at he
  obtain ⟨mask, hm⟩ : ∃ x, (Vw.count s (es.map svOf)).1 = x := ⟨_, rfl⟩
  obtain ⟨sts, hst⟩ : ∃ x, (Vw.count s (es.map svOf)).2 = x := ⟨_, rfl⟩
  rw [hm, hst] at hcnt he HC1
  rw [hst] at hcl
  have hlt := hcnt.lt
  have HE := Lib.hid he
  clear he hs hs7 hm hst hcnt
  go_enter Try.func34, Try.ntmps34
  go_upto_region 3 with (first
    | (go_at_call 42; refine HN.mono ?_; rintro e w1 ⟨rfl, rfl⟩)
    | (go_at_call 41; refine HC1.mono ?_; rintro e w1 ⟨A1, c1, es1, rfl, hes, hms, ho, hb⟩
       have hl1 : es1.length ≤ 1000 := by have := congrArg List.length hes; rw [List.length_map] at this; omega
       have HR1 := Lib.hid (ho.rd hms)
       have HB1 := Lib.hid hb
       have HS1 := Lib.hid hes
       clear ho hb hes hms)
    | (go_at_call 44; refine (vnewest_any hl1 HR1.out).mono ?_; rintro e w2 ⟨rfl, hb⟩
       have HR2 := Lib.hid (HR1.out.below hb)
       have HB2 := Lib.hid (HB1.out.trans (hb.mono HB1.out.size))
       clear hb)
    | (go_at_call 43; refine (vlongest_any _ hl1 HR2.out).mono ?_; rintro e w3 ⟨bc, f, rfl, hbi, hb⟩
       have HB3 := Lib.hid (HB2.out.trans (hb.mono HB2.out.size))
       have HBI := Lib.hid hbi
       clear hb hbi)
    | (refine wpList_store_row rfl 31 (.tmp 9) (.tmp 23) rfl w3.heap.size bc rfl rfl 31 mz (Blk.new w3 31 mz) (by rw [HBI.out.1]; kernel_rfl) (HBI.out.1.symm) HBI.out.2.1 ?_)
    | fail)
  obtain ⟨g, w4, hgE, hwE, hbE, hkE⟩ := boxM w3 bc
  unfold mz at hwE
  rw [hgE, hwE]
  have HB4 := Lib.hid (HB3.out.trans (hbE.mono HB3.out.size))
  have hbi := HBI.out.2.2
  rw [HS1.out] at hbi
  have HK4 := Lib.hid hkE
  clear hwE hgE hbE hkE HB1 HB2 HB3 HR1 HR2 HC1
  rcases hbi with ⟨rfl, hno⟩ | ⟨rfl, cs, hbc, hms, hyes⟩
  · have hr : r = (0, 0, 0, false) := by have := HE.out; rw [hno] at this; exact this.symm
    subst hr
    clear hno HE HN
    go_wp2
    (try simp only [Exit.inBlock, Exit.then]); refine bodyPost_ret (results_tmp4V rfl _ _) rfl ?_
    exact ⟨rfl, HB4.out⟩
  · subst hbc
    have hr := HE.out
    rw [hyes] at hr
    obtain ⟨c0, c1, c4, c5, c6⟩ := HK4.out.sv hms
    obtain ⟨sv, hsv⟩ : ∃ sv, svOf cs = sv := ⟨_, rfl⟩
    rw [hsv] at hr c1 c5
    rcases sv with ⟨kind, frm, inst, len, has⟩
    have HSV := Lib.hid hsv
    have HMS := Lib.hid hms
    simp only at c1 c5
    clear c0 c4 c6 hyes HE HN hsv hms
    have HMO := most14' w4 (mask : Int) n ⟨by omega, by omega⟩ hn
    cases hmo : Vw.most (mask : Int) n
    · rw [hmo] at HMO
      have hr2 : r = (0, 0, 0, false) := by unfold Vw.fin at hr; simp only [hmo] at hr; exact hr.symm
      subst hr2
      clear hr
      go_wp2_with (first
    | (go_at_call 45; refine HMO.mono ?_; rintro e w5 ⟨rfl, hb5⟩
       have HB5 := Lib.hid (HB4.out.trans (hb5.mono HB4.out.size))
       have HK5 := HK4.out.below hb5
       have hc1 : w5.cell? ⟨g, 1, none⟩ = some (.int .i64 frm) := by have := (HK5.sv HMS.out).2.1; rw [HSV.out] at this; exact this
       have hc5 : w5.cell? ⟨g, 5, none⟩ = some (.int .i64 len) := by have := (HK5.sv HMS.out).2.2.2.1; rw [HSV.out] at this; exact this
       clear hb5 HK5)
    | fail)
      (try simp only [Exit.inBlock, Exit.then]); refine bodyPost_ret (results_tmp4V rfl _ _) rfl ?_
      exact ⟨rfl, HB5.out⟩
    · rw [hmo] at HMO
      have hr2 : r = ((mask : Int), frm, len, true) := by unfold Vw.fin at hr; simp only [hmo] at hr; exact hr.symm
      subst hr2
      clear hr c1 c5
      go_upto_region 5 with (first
    | (go_at_call 45; refine HMO.mono ?_; rintro e w5 ⟨rfl, hb5⟩
       have HB5 := Lib.hid (HB4.out.trans (hb5.mono HB4.out.size))
       have HK5 := HK4.out.below hb5
       have hc1 : w5.cell? ⟨g, 1, none⟩ = some (.int .i64 frm) := by have := (HK5.sv HMS.out).2.1; rw [HSV.out] at this; exact this
       have hc5 : w5.cell? ⟨g, 5, none⟩ = some (.int .i64 len) := by have := (HK5.sv HMS.out).2.2.2.1; rw [HSV.out] at this; exact this
       clear hb5 HK5)
    | fail)
      go_quiet (fail)
      go_wp2_with fail
      (try simp only [Exit.inBlock, Exit.then]); refine bodyPost_ret (results_tmp4V rfl _ _) rfl ?_
      exact ⟨rfl, HB5.out.trans ⟨rfl, rfl, rfl, Nat.le_refl _, fun _ _ => rfl⟩⟩
end Go.Proofs.Ytneehnoolhadbaa

