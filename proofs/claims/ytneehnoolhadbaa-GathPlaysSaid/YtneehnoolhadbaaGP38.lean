/- ViewRef4 MsgRow -/
import Derived.Test.YtneehnoolhadbaaGP22
import Derived.Test.YtneehnoolhadbaaGP32
import Derived.Test.YtneehnoolhadbaaGP36
import Derived.Test.YtneehnoolhadbaaGP37
import Derived.BigQuiet
import Derived.Deep.QuietTactic
import Derived.WideShapes
namespace Go.Proofs.Ytneehnoolhadbaa
open Go.RowKit
set_option linter.unusedVariables false
def RefChooseC : Prop := ∀ {w : World} {A : Option Addr} {k c B : Nat} {es : List (List Value)} {r : Int × Int × Int × Bool} (n : Int), Vw.choose (es.map svOf) n = r → In64 n → k ≤ 1000 → RdV w B A k es →
  Calls Try.prog 38 #[.slice A k c, .int .i64 n] w fun e w' => e = .returned (chV r) ∧ Below w.heap.size w w'
/-- who has come lies in their places -/
structure Come (w : World) (g : Nat) (es : List (List Value)) : Prop where
  th : w.there g 0 168
  at_ : ∀ cs ∈ es, ∃ f : Nat, f < 7 ∧ (svOf cs).frm = (f : Int) ∧ cs.length = 24 ∧ w.rangeAt g (f * 24) cs
theorem belowQ (B : Nat) (w : World) (k : Nat) : Below B w (w.drewN k) := ⟨rfl, rfl, rfl, Nat.le_refl _, fun _ _ => rfl⟩
theorem there_below {w w' : World} {b o n : Nat} (h : w.there b o n) (hb : Below w.heap.size w w') : w'.there b o n := fun j hj => by
  obtain ⟨h1, h2⟩ := h j hj
  obtain ⟨u, hu⟩ := Option.isSome_iff_exists.1 h1
  have hl := World.block_lt_of_cell? w _ hu
  exact ⟨by rw [hb.cell (p := ⟨b, o + j, none⟩) hl]; exact h1, by rw [hb.frozen (p := ⟨b, o + j, none⟩) hl]; exact h2⟩
theorem range_below {w w' : World} {b o : Nat} {cs : List Value} (h : w.rangeAt b o cs) (hb : Below w.heap.size w w') : w'.rangeAt b o cs := fun j v hv => by
  have h1 := h j v hv
  have hl := World.block_lt_of_cell? w _ h1
  rw [hb.cell (p := ⟨b, o + j, none⟩) hl]; exact h1
theorem Come.below {w w' : World} {g : Nat} {es : List (List Value)} (h : Come w g es) (hb : Below w.heap.size w w') : Come w' g es :=
  ⟨there_below h.th hb, fun cs hc => by obtain ⟨f, h1, h2, hl, h3⟩ := h.at_ cs hc; exact ⟨f, h1, h2, hl, range_below h3 hb⟩⟩
theorem below_setCells {W : World} {B g : Nat} : ∀ (vs : List Value) (o : Nat) (w : World), Below B W w → B ≤ g → Below B W (w.setCells g o vs)
  | [], o, w, h, hg => h
  | v :: vs, o, w, h, hg => by
    rw [World.setCells]
    exact below_setCells vs (o + 1) _ (h.setCell hg _) hg
set_option maxRecDepth 100000 in
theorem zero56 : ∃ Z : Array Value, Z.size = 168 ∧ ∀ w, Sem.run Try.prog (zeroValue 69) w = .ok (.agg Z) w := by
  obtain ⟨i, Z, h1, h2, h3⟩ : ∃ i Z, (Try.prog).info? 69 = some i ∧ i.zero = some (.agg Z) ∧ Z.size = 168 := ⟨_, _, rfl, rfl, by kernel_rfl⟩
  refine ⟨Z, h3, fun w => ?_⟩
  simp [zeroValue, typeInfo, h1, h2]
theorem Come.new (w : World) (Z : Array Value) (t : TypeId) (h : Z.size = 168) : Come (w.alloc (.cells Z t)) w.heap.size [] :=
  ⟨fun j hj => by
    have hb := Blk.new w t Z
    rw [hb.cell, hb.frozen]
    exact ⟨by rw [Array.getElem?_eq_getElem (by omega)]; rfl, rfl⟩, fun cs hc => (by cases hc)⟩
theorem Come.put {w : World} {g f : Nat} {es : List (List Value)} {cs : List Value} (h : Come w g es) (hl : cs.length = 24) (hf : f < 7) (hsv : (svOf cs).frm = (f : Int)) (hap : ∀ d ∈ es, (svOf d).frm ≠ (f : Int)) : Come (w.setCells g (f * 24) cs) g (es ++ [cs]) := by
  refine ⟨World.there_setCells h.th _ _ _, fun d hd => ?_⟩
  rw [List.mem_append] at hd
  rcases hd with hd | hd
  · obtain ⟨f0, h1, h2, hl0, h3⟩ := h.at_ d hd
    refine ⟨f0, h1, h2, hl0, ?_⟩
    have hne := hap d hd
    exact World.rangeAt_setCells_apart h3 _ _ _ (.inr (by omega))
  · simp at hd
    subst hd
    exact ⟨f, hf, hsv, hl, World.rangeAt_setCells_same _ _ _ _ (fun j hj => by
      have := h.th (f * 24 + j) (by omega)
      simpa using this)⟩
theorem Vw.step_mask {s mask f : Nat} {L sts : List Sv} {sv : Sv} (hcnt : Vw.Cnt s mask L sts) (hok : Vw.okS s mask sv = true) (hfr : sv.frm = (f : Int)) (hf7 : f < 7) :
    ∃ M' : Nat, bits .or .i64 (mask : Int) (wrap64 (2 ^ f)) = (M' : Int) ∧ ((M' : Int) = 2 ^ f ↔ sts = []) ∧ Vw.stp s (mask, sts) sv = (M', sts ++ [sv]) ∧ wrap64 ((2 : Int) ^ f) = 2 ^ f := by
  have hor := Vw.or_nat hcnt.lt hf7
  have h2f : ((2 : Int) ^ f) = ((2 ^ f : Nat) : Int) := by simp
  have hp7 : 2 ^ f < 128 := Nat.pow_lt_pow_right (n := 7) (by decide) hf7
  have h0f : (0 : Int) < 2 ^ f := Int.pow_pos (by decide)
  have hwp : wrap64 ((2 : Int) ^ f) = (2 : Int) ^ f := IntWalk.wrap64_in _ (by omega)
  have hfi := hcnt.first hok
  have hff : sv.frm.toNat = f := by omega
  rw [hff] at hfi
  refine ⟨mask ||| 2 ^ f, by rw [hwp, hor], ?_, ?_, hwp⟩
  · rw [← hfi, h2f]
    exact Int.ofNat_inj
  · unfold Vw.stp
    rw [if_pos hok, hff]
set_option maxRecDepth 100000 in
set_option maxHeartbeats 2000000 in
theorem refChoose_any : RefChooseC := by
  intro w A k c B es r n he hn hk h
  have hs7 := Vw.size_bound n
  obtain ⟨s, hs⟩ : ∃ s, Vw.size n = s := ⟨_, rfl⟩
  have hlen := h.len
  have H := Lib.hid h.fit
  have HL := Lib.hid hlen
  have hmn : min (max n 1) 7 = (s : Int) := by rw [← hs]; unfold Vw.size; omega
  go_enter Try.func38, Try.ntmps38
  go_upto_region 1 with fail
  go_cut [1] from 15 to 17 (fun s1 wx => s1 = .int .i64 (s : Int) ∧ wx = w)
  case first =>
    clear hlen H HL he h hs7 hs hk
    obtain ⟨n1, n2⟩ := hn
    go_wp2_with fail
    all_goals
      go_meet
      exact ⟨by congr 1; omega, rfl⟩
  case rest =>
    obtain ⟨rfl, rfl⟩ := hcut
    rename World => w
    obtain ⟨Z, hZs, hZ⟩ := zero56
    go_upto_region 5 with fail
    obtain ⟨gc, w1, hgE, hwE, hcm, hb1⟩ : ∃ gc w1, w.heap.size = gc ∧ w.alloc (.cells Z 69) = w1 ∧ Come w1 gc [] ∧ Below w.heap.size w w1 := ⟨_, _, rfl, rfl, Come.new w Z _ hZs, (Below.refl _ _).alloc (Nat.le_refl _) _⟩
    rw [hgE, hwE]
    have HCM := Lib.hid hcm
    have HB1 := Lib.hid hb1
    have HG := Lib.hid (Nat.le_of_eq hgE)
    clear hgE hwE hcm hb1 hZ hZs
    have hsle : s ≤ 7 := by omega
    go_loopw [8, 9, 11] (fun s8 s9 s11 wr => ∃ (j mask : Nat) (tz : Int) (es' : List (List Value)), j ≤ k ∧ s11 = .int .i64 (j : Int) ∧ s8 = .int .i64 (mask : Int) ∧ s9 = .int .i64 tz ∧ Hid (tz = Vw.topR (es'.map svOf)) ∧ Hid (Vw.count s ((es.map svOf).take j) = (mask, es'.map svOf)) ∧ Hid (∀ cs ∈ es', Ms cs) ∧ Hid (Come wr gc es') ∧ Hid (Below w.heap.size w wr)) (fun _ _ i _ => k - (intOf i).toNat)
    case atStart => exact ⟨0, 0, 0, [], by omega, rfl, rfl, rfl, Lib.hid rfl, Lib.hid rfl, Lib.hid (fun cs hc => (by cases hc)), HCM, HB1⟩
    case round =>
      clear HCM HB1
      obtain ⟨j, mask, tz, es', hj, rfl, rfl, rfl, HT, HC, HM, HCM, HB⟩ := hrel
      by_cases hlt : j < k
      · obtain ⟨cs, hcs⟩ : ∃ cs, es[j]? = some cs := ⟨_, List.getElem?_eq_getElem (by have := HL.out; omega)⟩
        obtain ⟨b, o, rfl, hb, hr, hms⟩ := H.out.at hcs
        have HR : Hid (wr.rangeAt b (o + j * 24) cs) := Lib.hid (fun i v hv => (HB.out.cell (p := ⟨b, o + j * 24 + i, none⟩) hb).trans (hr i v hv))
        have hcnt : Vw.Cnt s mask (es.map svOf) (es'.map svOf) := by
          have := Vw.cnt_take hsle (es.map svOf) j (by rw [List.length_map]; have := HL.out; omega)
          rw [HC.out] at this
          exact this
        have hstep : Vw.count s ((es.map svOf).take (j + 1)) = Vw.stp s (mask, es'.map svOf) (svOf cs) := by rw [Vw.count_snoc (svs_get hcs), HC.out]
        have HMS := Lib.hid hms
        have HCN := Lib.hid hcnt
        have hm128 := hcnt.lt
        clear hb hr hcs hms hcnt h
        go_upto_region 8 with (first
          | (refine wpList_load_mid rfl 31 (.tmp 26) rfl b (o + j * 24) rfl cs _ HR.out Try.underlying31 rfl (by rw [HMS.out.len]; kernel_rfl) ?_)
          | (refine wpList_store_row rfl 31 (.tmp 12) (.tmp 27) rfl wr.heap.size cs.toArray rfl rfl 31 mz (Blk.new wr 31 mz) (by rw [List.size_toArray, HMS.out.len]; kernel_rfl) (show 24 = cs.toArray.size by rw [List.size_toArray, HMS.out.len]) (all_oneCell_toArray HMS.out.one) ?_)
          | fail)
        obtain ⟨g, w2, hgE, hwE, hbE, hkE⟩ := boxM wr cs.toArray
        unfold mz at hwE
        rw [hgE, hwE]
        obtain ⟨c0, c1, c4, c5, c6⟩ := hkE.sv HMS.out
        have HK := Lib.hid hkE
        have HB2 := Lib.hid (HB.out.trans (hbE.mono HB.out.size))
        have HCM := Lib.hid (HCM.out.below hbE)
        have hok := Vw.okS_iff (n := s) (mask := mask) (m := svOf cs)
        have HST := Lib.hid hstep
        obtain ⟨sv, hsvE⟩ : ∃ sv, svOf cs = sv := ⟨_, rfl⟩
        have HLO := Lib.hid HMS.out.lo
        have HSV := Lib.hid hsvE
        rw [hsvE] at c0 c1 c4 hok HST HLO
        clear hstep hwE hgE hbE hkE HR HB hsvE c5 c6
        rcases sv with ⟨kind, frm, inst, len, has⟩
        simp only at c0 c1 c4 hok
        by_cases h1 : kind = 2 ∧ 0 ≤ frm ∧ frm < (s : Int)
        · obtain ⟨rfl, h2, h3⟩ := h1
          obtain ⟨f, rfl⟩ := Int.eq_ofNat_of_zero_le h2
          have hf7 : f < 7 := by omega
          simp only [Int.toNat_natCast] at hok
          have hwt : IntKind.u64.wrap (f : Int) = (f : Int) := IntWalk.u64_in _ (by omega)
          have hmin : min f 64 = f := by omega
          have hbn : Vw.bit (mask : Int) f = mask.testBit f := Vw.bit_nat mask f
          have hand := and_1 ((mask : Int) / 2 ^ f)
          cases hbit : mask.testBit f
          · have HOK : Hid (Vw.okS s mask ⟨2, (f : Int), inst, len, has⟩ = true) := Lib.hid (hok.2 ⟨trivial, h2, h3, hbit⟩)
            have h0 : (mask : Int) / 2 ^ f % 2 = 0 := by
              rw [hbit] at hbn
              unfold Vw.bit at hbn
              have := of_decide_eq_false hbn
              omega
            rw [h0] at hand
            clear hok hbn h0 h2
            have hf0 : decide ((f : Int) < 0) = false := by simp
            have hfs : decide (s ≤ f) = false := decide_eq_false (by omega)
            go_upto_region 9 with fail
            clear hand
            go_upto_region 10 with fail
            obtain ⟨M', hM', hME', hNX', hFI'⟩ := Vw.step_mask (f := f) HCN.out HOK.out rfl hf7
            have hME := Lib.hid hME'
            have HNX : Hid (Vw.count s ((es.map svOf).take (j + 1)) = (M', (es' ++ [cs]).map svOf)) := Lib.hid (by rw [HST.out, hNX', List.map_append, List.map_cons, HSV.out]; rfl)
            have HFI := Lib.hid hFI'
            rw [hM']
            clear hM' hME' hNX' hFI'
            have HMM : Hid (∀ d ∈ es' ++ [cs], Ms d) := Lib.hid (fun d hd => by
              rw [List.mem_append] at hd
              rcases hd with hd | hd
              · exact HM.out d hd
              · simp at hd; subst hd; exact HMS.out)
            have HCP : Hid (Come (w2.setCells gc (f * 24) cs) gc (es' ++ [cs])) := Lib.hid (HCM.out.put HMS.out.len hf7 (by rw [HSV.out]) (fun d hd he => by
              have := (HCN.out.bit f).2 ⟨svOf d, List.mem_map_of_mem hd, he⟩
              rw [hbit] at this; cases this))
            have HTH : Hid (w2.there gc (f * 24) cs.toArray.size) := Lib.hid (fun i hi => by
              rw [List.size_toArray, HMS.out.len] at hi
              have := HCM.out.th (f * 24 + i) (by omega)
              simpa using this)
            clear hbit HST HC HM
            obtain ⟨tn, htn⟩ : ∃ tn, Vw.topR ((es' ++ [cs]).map svOf) = tn := ⟨_, rfl⟩
            have HTN := Lib.hid htn
            obtain ⟨Bt, hBt⟩ : ∃ Bt : Bool, Bt = (decide (es'.map svOf = []) || decide (tz < inst)) := ⟨_, rfl⟩
            have HBTn : Hid (if Bt = true then tn = inst else tn = tz) := by
              refine Lib.hid ?_
              rw [List.map_append, List.map_cons, HSV.out, List.map_nil] at htn
              by_cases hemp : es'.map svOf = []
              · rw [hemp] at htn hBt
                rw [hBt, if_pos (by simp), ← htn]
                exact Vw.topR_first HLO.out
              · rw [Vw.topR_more hemp, ← HT.out] at htn
                simp only at htn
                by_cases hti : tz < inst
                · rw [hBt, if_pos (by simp [hti])]; omega
                · rw [hBt, if_neg (by simp [hemp, hti])]; omega
            go_cut [68] from 57 to 68 (fun s68 wx => s68 = .bool Bt ∧ wx = w2)
            case first =>
              by_cases hemp : es'.map svOf = []
              · have hE : wrap64 (2 ^ f) = (M' : Int) := by rw [HFI.out]; exact (hME.out.2 hemp).symm
                obtain rfl : Bt = true := by rw [hBt]; simp [hemp]
                have hEb : ((M' : Int) == wrap64 (2 ^ f)) = true := by rw [hE]; simp
                clear hE hemp hME HFI htn hBt HBTn HTN HNX HMM HCP HTH
                go_wp2_with fail
                go_meet
                exact ⟨rfl, rfl⟩
              · have hE : ¬ (M' : Int) = wrap64 (2 ^ f) := by rw [HFI.out]; exact fun h => hemp (hME.out.1 h)
                obtain hBt2 : Bt = decide (tz < inst) := by rw [hBt]; simp [hemp]
                have hEb : ((M' : Int) == wrap64 (2 ^ f)) = false := by simpa using hE
                clear hE hemp hME HFI htn hBt HBTn HTN HNX HMM HCP HTH
                go_wp2_with fail
                go_meet
                exact ⟨by rw [hBt2], rfl⟩
            case rest =>
              clear htn hME HFI HT hBt
              obtain ⟨rfl, rfl⟩ := hcut
              rename World => w2
              cases Bt
              · have htn2 : tn = tz := by have := HBTn.out; rwa [if_neg (by simp)] at this
                clear HBTn
                subst htn2
                go_wp2_with (first
                  | (refine wpList_load_row rfl 31 (.tmp 12) rfl g rfl 31 cs.toArray (0, 0) _ HK.out Try.underlying31 rfl (by rw [List.size_toArray, HMS.out.len]; kernel_rfl) ?_)
                  | (refine wpList_store_mid rfl 31 (.tmp 74) (.tmp 73) rfl gc (f * 24) cs.toArray rfl rfl HTH.out (by rw [List.size_toArray, HMS.out.len]; kernel_rfl) (all_oneCell_toArray HMS.out.one) ?_)
                  | fail)
                go_roundw
                case rel => exact ⟨j + 1, M', tn, es' ++ [cs], by omega, by go_num, rfl, rfl, Lib.hid HTN.out.symm, Lib.hid HNX.out, Lib.hid HMM.out, Lib.hid (by simpa using HCP.out), Lib.hid (below_setCells _ _ _ HB2.out HG.out)⟩
                case measure => simp [intOf]; omega
              · have htn2 : tn = inst := by have := HBTn.out; rwa [if_pos rfl] at this
                clear HBTn
                subst htn2
                go_wp2_with (first
                  | (refine wpList_load_row rfl 31 (.tmp 12) rfl g rfl 31 cs.toArray (0, 0) _ HK.out Try.underlying31 rfl (by rw [List.size_toArray, HMS.out.len]; kernel_rfl) ?_)
                  | (refine wpList_store_mid rfl 31 (.tmp 74) (.tmp 73) rfl gc (f * 24) cs.toArray rfl rfl HTH.out (by rw [List.size_toArray, HMS.out.len]; kernel_rfl) (all_oneCell_toArray HMS.out.one) ?_)
                  | fail)
                go_roundw
                case rel => exact ⟨j + 1, M', tn, es' ++ [cs], by omega, by go_num, rfl, rfl, Lib.hid HTN.out.symm, Lib.hid HNX.out, Lib.hid HMM.out, Lib.hid (by simpa using HCP.out), Lib.hid (below_setCells _ _ _ HB2.out HG.out)⟩
                case measure => simp [intOf]; omega
          · have HBT : Hid (¬ Vw.okS s mask ⟨2, (f : Int), inst, len, has⟩ = true) := Lib.hid (fun h => by have := (hok.1 h).2.2.2; rw [hbit] at this; cases this)
            have h0 : (mask : Int) / 2 ^ f % 2 = 1 := by
              rw [hbit] at hbn
              unfold Vw.bit at hbn
              exact of_decide_eq_true hbn
            rw [h0] at hand
            clear hok hbit hbn h0 h2
            go_wp2
            go_roundw
            case rel => exact ⟨j + 1, mask, tz, es', by omega, by go_num, rfl, rfl, HT, Lib.hid (by rw [HST.out]; unfold Vw.stp; rw [if_neg HBT.out]), HM, HCM, HB2⟩
            case measure => simp [intOf]; omega
        · have HBT : Hid (¬ Vw.okS s mask ⟨kind, frm, inst, len, has⟩ = true) := Lib.hid (fun h => h1 (by have := hok.1 h; exact ⟨this.1, this.2.1, this.2.2.1⟩))
          have h3 : kind ≠ 2 ∨ kind = 2 ∧ frm < 0 ∨ kind = 2 ∧ 0 ≤ frm ∧ (s : Int) ≤ frm := by omega
          clear hok h1
          rcases h3 with h3 | ⟨rfl, h3⟩ | ⟨rfl, h3, h4⟩
          all_goals
            go_wp2
            go_roundw
            case rel => exact ⟨j + 1, mask, tz, es', by omega, by go_num, rfl, rfl, HT, Lib.hid (by rw [HST.out]; unfold Vw.stp; rw [if_neg HBT.out]), HM, HCM, HB2⟩
            case measure => simp [intOf]; omega
      · obtain rfl : j = k := by omega
        have hfin := HC.out
        rw [List.take_of_length_le (by rw [List.length_map]; have := HL.out; omega)] at hfin
        have hcnt := Vw.cnt_all (n := s) hsle (es.map svOf)
        unfold Vw.choose at he
        rw [hs] at he
        rw [hfin] at hcnt he
        have HE := Lib.hid he
        have HCN := Lib.hid hcnt
        have hm128 := hcnt.lt
        obtain ⟨sts, hsts⟩ : ∃ x, es'.map svOf = x := ⟨_, rfl⟩
        have HSTS := Lib.hid hsts
        simp only at he hcnt
        clear hfin hcnt he HC hlen h hmn hs7
        go_upto_region 15 with fail
        rw [HSTS.out] at HE HCN HT
        go_loopw [13, 14] (fun s13 s14 wx => ∃ (i : Nat) (src : Int), i ≤ s ∧ s14 = .int .i64 (i : Int) ∧ s13 = .int .i64 src ∧ Hid (Vw.Src sts tz i src) ∧ Hid (Come wx gc es') ∧ Hid (Below w.heap.size w wx)) (fun _ i _ => s - (intOf i).toNat)
        case atStart => exact ⟨0, -1, by omega, rfl, rfl, Lib.hid (Vw.src_start (fun x hx => (HCN.out.frm x hx).1)), HCM, HB⟩
        case round =>
          clear HCM HB
          obtain ⟨i, src, hi, rfl, rfl, HSR, HCM, HB⟩ := hrel
          by_cases hlt2 : i < s
          · have hi7 : i < 7 := by omega
            have hwt : IntKind.u64.wrap (i : Int) = (i : Int) := IntWalk.u64_in _ (by omega)
            have hmin : min i 64 = i := by omega
            have hand := and_1 ((mask : Int) / 2 ^ i)
            have hbn : Vw.bit (mask : Int) i = mask.testBit i := Vw.bit_nat mask i
            have hi0 : decide ((i : Int) < 0) = false := by simp
            cases hbit : mask.testBit i
            · have h0 : (mask : Int) / 2 ^ i % 2 = 0 := by
                rw [hbit] at hbn
                unfold Vw.bit at hbn
                have := of_decide_eq_false hbn
                omega
              have HPF : Hid (Vw.Src sts tz (i + 1) src) := Lib.hid (Vw.src_skip HSR.out (fun x hx he => by
                have := (HCN.out.bit i).2 ⟨x, hx, he⟩
                rw [hbit] at this; cases this))
              rw [h0] at hand
              clear h0 hbn hbit hm128
              go_upto_region 17 with fail
              go_quiet (fail)
              go_wp2_with fail
              go_roundw
              case rel => exact ⟨i + 1, src, by omega, by go_num, rfl, HPF, Lib.hid (HCM.out.below (belowQ _ _ _)), Lib.hid (HB.out.trans (belowQ _ _ _))⟩
              case measure => simp [intOf]; omega
            · have h0 : (mask : Int) / 2 ^ i % 2 = 1 := by
                rw [hbit] at hbn
                unfold Vw.bit at hbn
                exact of_decide_eq_true hbn
              rw [h0] at hand
              obtain ⟨sv, hsv, hsf⟩ := (HCN.out.bit i).1 hbit
              obtain ⟨cs, hcs, hce⟩ : ∃ cs ∈ es', svOf cs = sv := by rw [← HSTS.out] at hsv; exact List.mem_map.1 hsv
              obtain ⟨f, hf7, hff, hl24, hrg⟩ := HCM.out.at_ cs hcs
              obtain rfl : f = i := by rw [hce] at hff; omega
              have hms := HM.out cs hcs
              have c4 := hrg 4 _ hms.c4
              have c5 := hrg 5 _ hms.c5
              have c6 := hrg 6 _ hms.c6
              rw [hce] at c4 c5 c6
              have HSV := Lib.hid hsv
              clear h0 hbn hbit hm128 hrg hms hff hl24 hce hcs hsv
              rcases sv with ⟨kind, frm, inst, len, has⟩
              simp only at c4 c5 c6 hsf
              subst hsf
              cases has
              · have HPF : Hid (Vw.Src sts tz (f + 1) src) := Lib.hid (Vw.src_skip HSR.out (fun x hx he hc => by
                  obtain rfl := Vw.one_of HCN.out.apart hx HSV.out he
                  exact absurd hc.1 (by simp)))
                clear c4 c5
                go_upto_region 17 with fail
                go_quiet (fail)
                go_wp2_with fail
                go_roundw
                case rel => exact ⟨f + 1, src, by omega, by go_num, rfl, HPF, Lib.hid (HCM.out.below (belowQ _ _ _)), Lib.hid (HB.out.trans (belowQ _ _ _))⟩
                case measure => simp [intOf]; omega
              · by_cases hin : inst = tz
                · subst hin
                  rcases Vw.src_who HSR.out with hneg | ⟨d, hd, hde⟩
                  · have HPF : Hid (Vw.Src sts inst (f + 1) (f : Int)) := Lib.hid (Vw.src_new HSR.out HCN.out.apart (fun x hx => (HCN.out.frm x hx).1) HSV.out rfl ⟨rfl, rfl⟩ hneg)
                    have hnb : decide (src < 0) = true := decide_eq_true hneg
                    clear c5 hneg
                    go_upto_region 17 with fail
                    go_quiet (fail)
                    go_wp2_with fail
                    go_roundw
                    case rel => exact ⟨f + 1, (f : Int), by omega, by go_num, rfl, HPF, Lib.hid (HCM.out.below (belowQ _ _ _)), Lib.hid (HB.out.trans (belowQ _ _ _))⟩
                    case measure => simp [intOf]; omega
                  · have hdf := HCN.out.frm d hd
                    obtain ⟨cd, hcd, hcde⟩ : ∃ cs ∈ es', svOf cs = d := by rw [← HSTS.out] at hd; exact List.mem_map.1 hd
                    obtain ⟨q, hq7, hqq, _, hrg⟩ := HCM.out.at_ cd hcd
                    have d5 := hrg 5 _ (HM.out cd hcd).c5
                    rw [hcde] at hqq d5
                    rw [hqq] at hde
                    subst hde
                    have hnb : decide ((q : Int) < 0) = false := by simp
                    have HD := Lib.hid hd
                    have HDQ := Lib.hid hqq
                    clear hrg hcde hcd hdf hd hqq
                    rcases d with ⟨kind', frm', inst', len', has'⟩
                    simp only at d5
                    by_cases hbet : len' < len
                    · have HPF : Hid (Vw.Src sts inst (f + 1) (f : Int)) := Lib.hid (Vw.src_better HSR.out HCN.out.apart HSV.out rfl ⟨rfl, rfl⟩ HD.out HDQ.out.symm (by omega) hbet)
                      have hbb : decide (len' < len) = true := decide_eq_true hbet
                      clear hbet
                      go_upto_region 17 with fail
                      go_quiet (fail)
                      go_wp2_with fail
                      go_roundw
                      case rel => exact ⟨f + 1, (f : Int), by omega, by go_num, rfl, HPF, Lib.hid (HCM.out.below (belowQ _ _ _)), Lib.hid (HB.out.trans (belowQ _ _ _))⟩
                      case measure => simp [intOf]; omega
                    · have HPF : Hid (Vw.Src sts inst (f + 1) (q : Int)) := Lib.hid (Vw.src_keep HSR.out HCN.out.apart HSV.out rfl HD.out HDQ.out.symm (by omega) (by simp only; omega))
                      have hbb : decide (len' < len) = false := decide_eq_false hbet
                      clear hbet
                      go_upto_region 17 with fail
                      go_quiet (fail)
                      go_wp2_with fail
                      go_roundw
                      case rel => exact ⟨f + 1, (q : Int), by omega, by go_num, rfl, HPF, Lib.hid (HCM.out.below (belowQ _ _ _)), Lib.hid (HB.out.trans (belowQ _ _ _))⟩
                      case measure => simp [intOf]; omega
                · have HPF : Hid (Vw.Src sts tz (f + 1) src) := Lib.hid (Vw.src_skip HSR.out (fun x hx he hc => by
                    obtain rfl := Vw.one_of HCN.out.apart hx HSV.out he
                    exact hin hc.2))
                  have hib : (inst == tz) = false := by simpa using hin
                  clear c5 hin
                  go_upto_region 17 with fail
                  go_quiet (fail)
                  go_wp2_with fail
                  go_roundw
                  case rel => exact ⟨f + 1, src, by omega, by go_num, rfl, HPF, Lib.hid (HCM.out.below (belowQ _ _ _)), Lib.hid (HB.out.trans (belowQ _ _ _))⟩
                  case measure => simp [intOf]; omega
          · obtain rfl : i = s := by omega
            have HF : Hid (∀ x ∈ sts, 0 ≤ x.frm ∧ x.frm < (i : Int)) := Lib.hid (fun x hx => ⟨(HCN.out.frm x hx).1, (HCN.out.frm x hx).2.1⟩)
            have hsr := HSR.out
            rw [HT.out] at hsr
            rcases Int.lt_or_le src 0 with hneg | hpos
            · have hr : r = (0, 0, 0, false) := by rw [← HE.out]; exact Vw.fin_no hsr HF.out hneg
              subst hr
              clear hsr HE HT hm128
              go_wp2_with fail
              (try simp only [Exit.inBlock, Exit.then]); refine bodyPost_ret (results_tmp4V rfl _ _) rfl ?_
              exact ⟨rfl, HB.out⟩
            · obtain ⟨b, hb, hbs, hfi⟩ := Vw.fin_yes (mask := mask) (m := n) hsr HF.out hpos
              have hr := HE.out
              rw [hfi] at hr
              have HMO := refMost_any wr (mask : Int) (i : Int) ⟨by omega, by omega⟩ ⟨by omega, by omega⟩
              rw [show Vw.most (mask : Int) (i : Int) = Vw.most (mask : Int) n by rw [← hs]; exact Vw.most_size _ _] at HMO
              cases hmo : Vw.most (mask : Int) n
              · rw [hmo] at HMO hr
                rw [if_neg (by simp)] at hr
                subst hr
                clear hsr HE HT hm128 hfi hbs hb
                go_wp2_with (first
                  | (go_at_call 28; refine HMO.mono ?_; rintro e w5 ⟨rfl, hb5⟩
                     have HB5 := Lib.hid (HB.out.trans (hb5.mono HB.out.size))
                     have HCM5 := Lib.hid (HCM.out.below hb5)
                     clear hb5)
                  | fail)
                (try simp only [Exit.inBlock, Exit.then]); refine bodyPost_ret (results_tmp4V rfl _ _) rfl ?_
                exact ⟨rfl, HB5.out⟩
              · rw [hmo] at HMO hr
                rw [if_pos rfl] at hr
                obtain ⟨cd, hcd, hcde⟩ : ∃ cs ∈ es', svOf cs = b := by rw [← HSTS.out] at hb; exact List.mem_map.1 hb
                have HCD := Lib.hid hcd
                have HMD := Lib.hid (HM.out cd hcd).c5
                obtain ⟨q, hq7, hqq, _, _⟩ := HCM.out.at_ cd hcd
                rw [hcde] at hqq
                rw [hqq] at hbs hr
                have HQ := Lib.hid hqq
                have HCDE := Lib.hid hcde
                subst hbs
                subst hr
                have hq7' : (q : Int) < 7 := by omega
                clear hsr HE HT hm128 hfi hb hcd hqq hcde
                have hq0 : decide ((q : Int) < 0) = false := by simp
                go_upto_region 21 with (first
                  | (go_at_call 28; refine HMO.mono ?_; rintro e w5 ⟨rfl, hb5⟩
                     have HB5 := Lib.hid (HB.out.trans (hb5.mono HB.out.size))
                     have HCM5 := Lib.hid (HCM.out.below hb5)
                     clear hb5)
                  | fail)
                have d5 : w5.cell? ⟨gc, q * 24 + 5, none⟩ = some (.int .i64 b.len) := by
                  obtain ⟨q', _, hqq', _, hrg⟩ := HCM5.out.at_ cd HCD.out
                  rw [HCDE.out, HQ.out] at hqq'
                  obtain rfl : q = q' := by omega
                  have := hrg 5 _ HMD.out
                  rw [HCDE.out] at this
                  exact this
                obtain ⟨bl, hbl⟩ : ∃ bl, b.len = bl := ⟨_, rfl⟩
                rw [hbl] at d5
                have HBL := Lib.hid hbl
                clear hbl
                go_quiet (fail)
                go_wp2_with fail
                (try simp only [Exit.inBlock, Exit.then]); refine bodyPost_ret (results_tmp4V rfl _ _) rfl ?_
                exact ⟨by rw [HBL.out]; rfl, HB5.out.trans (belowQ _ _ _)⟩
end Go.Proofs.Ytneehnoolhadbaa

namespace Go.Proofs.Ytneehnoolhadbaa
open Go.RowKit
set_option linter.unusedVariables false
open Go.ChangeShapes Go.WideShapes Go.ChangeAt in
theorem cell_ints {H : Type} {enc : TypeId × Value → H} {P : Program} {w : World} {t q : TypeId} {n : Nat} {v : Value} {y : DataW H × List MemPlace} (ht : P.underlying t = some (.slice q)) (hq : P.underlying q = some (.int .i64)) (cq : P.cellsOf q = 1)
    (h : DataW.trod enc P w 0 (fun _ => true) true n t [v] = some y) : ∃ (a : Option Addr) (c : Nat) (l : List Int), v = .slice a l.length c ∧ Rd w w.heap.size a l.length (iv l) ∧ l.length ≤ c ∧ c ≤ maxLen := by
  have hrow : ∃ a len cap zs, v = .slice a len cap ∧ IsRow .i64 w a len cap zs := by
    rcases open_ints ht hq cq h with ⟨hcs, _⟩ | ⟨x, l, c, zs, hcs, _, hl, hm, hz, _, hcell, hwz⟩
    · simp at hcs
      subst hcs
      exact ⟨none, 0, 0, [], rfl, .inl ⟨rfl, rfl, rfl, rfl⟩⟩
    · simp at hcs
      subst hcs
      exact ⟨some x, l, c, zs, rfl, .inr ⟨_, rfl, hl, hm, by simpa using hz, hcell, hwz⟩⟩
  obtain ⟨a, len, cap, zs, rfl, hr⟩ := hrow
  obtain ⟨h2, hl, h4, h5⟩ := hr.ints
  refine ⟨a, cap, zs.take len, by rw [hl], by rw [hl]; exact h2, by rw [hl]; exact h4, h5⟩
open Go.ChangeShapes Go.WideShapes Go.ChangeAt in
theorem cell_bool {H : Type} {enc : TypeId × Value → H} {P : Program} {w : World} {t : TypeId} {n : Nat} {v : Value} {y : DataW H × List MemPlace} (ht : P.underlying t = some .bool)
    (h : DataW.trod enc P w 0 (fun _ => true) true n t [v] = some y) : ∃ b, v = .bool b := by
  obtain ⟨z, h1, _⟩ := DataW.trod_bool ht h
  simp at h1
  exact ⟨z, h1⟩
theorem list24 {α : Type} {l : List α} (h : l.length = 24) : ∃ x0 x1 x2 x3 x4 x5 x6 x7 x8 x9 x10 x11 x12 x13 x14 x15 x16 x17 x18 x19 x20 x21 x22 x23, l = [x0, x1, x2, x3, x4, x5, x6, x7, x8, x9, x10, x11, x12, x13, x14, x15, x16, x17, x18, x19, x20, x21, x22, x23] := by
  match l, h with
  | [x0, x1, x2, x3, x4, x5, x6, x7, x8, x9, x10, x11, x12, x13, x14, x15, x16, x17, x18, x19, x20, x21, x22, x23], _ => exact ⟨x0, x1, x2, x3, x4, x5, x6, x7, x8, x9, x10, x11, x12, x13, x14, x15, x16, x17, x18, x19, x20, x21, x22, x23, rfl⟩
theorem list18 {α : Type} {l : List α} (h : l.length = 18) : ∃ x0 x1 x2 x3 x4 x5 x6 x7 x8 x9 x10 x11 x12 x13 x14 x15 x16 x17, l = [x0, x1, x2, x3, x4, x5, x6, x7, x8, x9, x10, x11, x12, x13, x14, x15, x16, x17] := by
  match l, h with
  | [x0, x1, x2, x3, x4, x5, x6, x7, x8, x9, x10, x11, x12, x13, x14, x15, x16, x17], _ => exact ⟨x0, x1, x2, x3, x4, x5, x6, x7, x8, x9, x10, x11, x12, x13, x14, x15, x16, x17, rfl⟩
theorem list3 {α : Type} {l : List α} (h : l.length = 3) : ∃ x0 x1 x2, l = [x0, x1, x2] := by
  match l, h with
  | [x0, x1, x2], _ => exact ⟨x0, x1, x2, rfl⟩
open Go.ChangeShapes Go.WideShapes Go.ChangeAt in
theorem trod_part {H : Type} {enc : TypeId × Value → H} {P : Program} {w : World} {t : TypeId} {n o c : Nat} {vs us : List Value} {y : Option (DataW H × List MemPlace)} (h : DataW.trod enc P w 0 (fun _ => true) true n t ((vs.drop o).take (P.cellsOf t)) = y) (hc : P.cellsOf t = c) (hu : (vs.drop o).take c = us) : DataW.trod enc P w 0 (fun _ => true) true n t us = y := by
  subst hu hc; exact h
end Go.Proofs.Ytneehnoolhadbaa

