/- ViewCode2 ViewCode3 -/
import Derived.Test.YtneehnoolhadbaaGP12
import Derived.Test.YtneehnoolhadbaaGP28
import Derived.Test.YtneehnoolhadbaaGP29
namespace Go.Proofs.Ytneehnoolhadbaa
open Go.RowKit
set_option linter.unusedVariables false
set_option maxRecDepth 100000 in
theorem members14 : MembersC14 := by
  intro w m h
  have h' := h
  obtain ⟨h1, h2⟩ := h
  go_enter Try.func33, Try.ntmps33
  go_wp2
  go_loopw [3, 5] (fun o i wr => ∃ (k n : Nat) (A : Option Addr) (c : Nat), k ≤ 7 ∧ i = .int .i64 k ∧ o = .slice A n c ∧ Hid (n = (Vw.upto m k).length) ∧ Hid (OwnI w wr A n c (Vw.upto m k)) ∧ Hid (Below w.heap.size w wr)) (fun _ i _ => 7 - (intOf i).toNat)
  case atStart => exact ⟨0, 0, none, 0, by omega, rfl, rfl, Lib.hid rfl, Lib.hid (ownI_nil _ _), Lib.hid (Below.refl _ _)⟩
  case round =>
    obtain ⟨k, n, A, c, hk, rfl, rfl, HN, HO, HB⟩ := hrel
    by_cases hlt : k < 7
    · have HC := vhas_any wr m k h' (by omega)
      rcases Int.emod_two_eq (m / 2 ^ k) with h0 | h1
      · have HZ := Lib.hid h0
        rw [show Vw.bit m k = false by unfold Vw.bit; rw [h0]; rfl] at HC
        clear h0
        go_wp2_with (first | (go_at_call 40; refine HC.mono ?_; rintro e w1 ⟨rfl, rfl⟩) | fail)
        go_roundw
        case rel => exact ⟨k + 1, n, A, c, by omega, by go_num, rfl, Lib.hid (by rw [Vw.upto_no HZ.out]; exact HN.out), Lib.hid (by rw [Vw.upto_no HZ.out]; exact HO.out), HB⟩
        case measure => simp [intOf]; omega
      · have HZ := Lib.hid h1
        rw [show Vw.bit m k = true by unfold Vw.bit; rw [h1]; rfl] at HC
        have hn7 : n ≤ 7 := by have := Vw.upto_len m k; have := HN.out; omega
        clear h1
        go_wp2_with (first
          | (go_at_call 40; refine HC.mono ?_; rintro e w1 ⟨rfl, rfl⟩)
          | (at_builtin
             refine wpList_append_cells (W := w) cellI (.tmp 11) (.tmp 13) rfl (by rfl) rfl (ownsRow_below HO.out ((Below.refl _ _).alloc (Nat.le_refl _) _)) rfl (Rd.oneAt _ _ _ (by simp)) (by intro u hu; simp at hu; subst hu; rfl) (by omega) (by omega) (HB.out.alloc HB.out.size _) ?_
             intro A1 c1 w1 hown1 hB1 hg1)
          | fail)
        go_roundw
        case rel => exact ⟨k + 1, n + 1, A1, c1, by omega, by go_num, rfl, Lib.hid (by rw [Vw.upto_yes HZ.out, List.length_append]; have := HN.out; simp; omega), Lib.hid (by rw [Vw.upto_yes HZ.out]; simpa [OwnI, iv] using hown1), Lib.hid hB1⟩
        case measure => simp [intOf]; omega
    · obtain rfl : k = 7 := by omega
      have hn := HN.out
      subst hn
      go_wp2
      go_ret
      exact ⟨A, c, rfl, HO.out, HB.out, HB.out⟩
end Go.Proofs.Ytneehnoolhadbaa

namespace Go.Proofs.Ytneehnoolhadbaa
open Go.RowKit
set_option linter.unusedVariables false
/-- the loop's state: what was counted of the first i -/
theorem svs_get {es : List (List Value)} {k : Nat} {cs : List Value} (h : es[k]? = some cs) : (es.map svOf)[k]? = some (svOf cs) := by rw [List.getElem?_map, h]; rfl
set_option maxRecDepth 100000 in
theorem vcounted_any {w : World} {A : Option Addr} {k c B : Nat} {es : List (List Value)} (n : Nat) (hn : n ≤ 7) (hk : k ≤ 1000) (h : RdV w B A k es) :
    Calls Try.prog 41 #[.slice A k c, .int .i64 (n : Int)] w fun e w' => ∃ A' c' es', e = .returned (.tuple #[.slice A' es'.length c', .int .i64 ((Vw.count n (es.map svOf)).1 : Int)]) ∧ es'.map svOf = (Vw.count n (es.map svOf)).2 ∧ (∀ cs ∈ es', Ms cs) ∧ OwnV w w' A' es'.length c' es' ∧ Below w.heap.size w w' := by
  have hlen := h.len
  have H := Lib.hid h.fit
  have HL := Lib.hid hlen
  clear h
  go_enter Try.func41, Try.ntmps41
  go_wp2
  go_loopw [4, 5, 10] (fun s m i wr => ∃ (j mask n' : Nat) (A' : Option Addr) (c' : Nat) (es' : List (List Value)), j ≤ k ∧ n' ≤ j ∧ i = .int .i64 j ∧ s = .slice A' n' c' ∧ m = .int .i64 (mask : Int) ∧ Hid (es'.length = n') ∧ Hid (Vw.count n ((es.map svOf).take j) = (mask, es'.map svOf)) ∧ Hid (∀ cs ∈ es', Ms cs) ∧ Hid (OwnV w wr A' n' c' es') ∧ Hid (Below w.heap.size w wr)) (fun _ _ i _ => k - (intOf i).toNat)
  case atStart => exact ⟨0, 0, 0, none, 0, [], by omega, by omega, rfl, rfl, rfl, Lib.hid rfl, Lib.hid rfl, Lib.hid (fun cs hc => (by cases hc)), Lib.hid (OwnV.nil _ _), Lib.hid (Below.refl _ _)⟩
  case round =>
    obtain ⟨j, mask, n', A', c', es', hj, hn', rfl, rfl, rfl, HN, HC, HM, HO, HB⟩ := hrel
    by_cases hlt : j < k
    · obtain ⟨cs, hcs⟩ : ∃ cs, es[j]? = some cs := ⟨_, List.getElem?_eq_getElem (by have := HL.out; omega)⟩
      obtain ⟨b, o, rfl, hb, hr, hms⟩ := H.out.at hcs
      have HR : Hid (wr.rangeAt b (o + j * 24) cs) := Lib.hid (fun i v hv => (HB.out.cell (p := ⟨b, o + j * 24 + i, none⟩) hb).trans (hr i v hv))
      have hcnt : Vw.Cnt n mask (es.map svOf) (es'.map svOf) := by
        have := Vw.cnt_take hn (es.map svOf) j (by rw [List.length_map]; have := HL.out; omega)
        rw [HC.out] at this
        exact this
      have hstep : Vw.count n ((es.map svOf).take (j + 1)) = Vw.stp n (mask, es'.map svOf) (svOf cs) := by rw [Vw.count_snoc (svs_get hcs), HC.out]
      have HMS := Lib.hid hms
      clear hb hr hcs hms
      have hm128 := hcnt.lt
      go_upto_region 4 with (first
        | (refine wpList_load_mid rfl 31 (.tmp 12) rfl b (o + j * 24) rfl cs _ HR.out Try.underlying31 rfl (by rw [HMS.out.len]; kernel_rfl) ?_)
        | (refine wpList_store_row rfl 31 (.tmp 7) (.tmp 13) rfl wr.heap.size cs.toArray rfl rfl 31 mz (Blk.new wr 31 mz) (by rw [List.size_toArray, HMS.out.len]; kernel_rfl) (show 24 = cs.toArray.size by rw [List.size_toArray, HMS.out.len]) (all_oneCell_toArray HMS.out.one) ?_)
        | fail)
      obtain ⟨g, w2, hgE, hwE, hbE, hkE⟩ := boxM wr cs.toArray
      unfold mz at hwE
      rw [hgE, hwE]
      have hsv := hkE.sv HMS.out
      have HK := Lib.hid hkE
      have HB2 := Lib.hid (HB.out.trans (hbE.mono HB.out.size))
      have HO := Lib.hid (HO.out.below hbE)
      have hok := Vw.okS_iff (n := n) (mask := mask) (m := svOf cs)
      obtain ⟨c0, c1, c4, c5, c6⟩ := hsv
      have HST := Lib.hid hstep
      obtain ⟨sv, hsvE⟩ : ∃ sv, svOf cs = sv := ⟨_, rfl⟩
      have HSV := Lib.hid hsvE
      rw [hsvE] at c0 c1 c4 c5 c6 hok HST
      clear hstep hwE hgE hbE hkE HR HB hsvE c4 c5 c6
      rcases sv with ⟨kind, frm, inst, len, has⟩
      simp only at c0 c1 hok
      by_cases h1 : kind = 2 ∧ 0 ≤ frm ∧ frm < (n : Int)
      · obtain ⟨rfl, h2, h3⟩ := h1
        obtain ⟨f, rfl⟩ := Int.eq_ofNat_of_zero_le h2
        have hf7 : f < 7 := by omega
        have hfn : f < n := by omega
        simp only [Int.toNat_natCast] at hok
        have hHas := vhas_any w2 (mask : Int) f ⟨by omega, by omega⟩ (by omega)
        rw [Vw.bit_nat] at hHas
        cases hbit : mask.testBit f
        · have ho1 : Vw.okS n mask ⟨2, (f : Int), inst, len, has⟩ = true := hok.2 ⟨trivial, h2, h3, hbit⟩
          have HOK := Lib.hid ho1
          have hor := Vw.or_nat hm128 hf7
          rw [hbit] at hHas
          clear hok ho1 hbit h2
          have hn1 : n' + 1 ≤ 1001 := by omega
          have hCs := fun wz : World => oneM wz HMS.out.len
          unfold mz at hCs
          go_wp2_with (first
            | (go_at_call 40; refine hHas.mono ?_; rintro e w1 ⟨rfl, rfl⟩)
            | (refine wpList_load_row rfl 31 (.tmp 7) rfl g rfl 31 cs.toArray (0, 0) _ HK.out Try.underlying31 rfl (by rw [List.size_toArray, HMS.out.len]; kernel_rfl) ?_)
            | (at_builtin
               refine wpList_append_V (W := w) msgS14 (.tmp 40) (.tmp 42) rfl (by rfl) rfl (HO.out.below ((Below.refl _ _).alloc (Nat.le_refl _) _)) rfl (B := w2.heap.size + 1) (ws := cs) (hCs w2) HMS.out.one rfl (by omega) (by decide) (HB2.out.alloc HB2.out.size _) ?_
               intro A1 c1 w3 hown1 hB1 hg1)
            | fail)
          any_goals (exfalso; have hl24 := HMS.out.len; omega)
          go_roundw
          case rel =>
            have hwp : wrap64 ((2 : Int) ^ f) = 2 ^ f := by
              have h2 : 2 ^ f < 2 ^ 7 := Nat.pow_lt_pow_right (by decide) hf7
              have e2 : ((2 : Int) ^ f) = ((2 ^ f : Nat) : Int) := by simp
              rw [e2]
              have h0 : (0 : Int) < 2 ^ f := Int.pow_pos (by decide)
              exact IntWalk.wrap64_in _ (by omega)
            refine ⟨j + 1, mask ||| 2 ^ f, n' + 1, A1, c1, es' ++ [cs], by omega, by omega, by go_num, rfl, by rw [hwp, hor], Lib.hid (by rw [List.length_append, HN.out]; rfl), Lib.hid ?_, Lib.hid (fun d hd => ?_), Lib.hid ?_, Lib.hid hB1⟩
            · rw [HST.out]; unfold Vw.stp; rw [if_pos HOK.out, List.map_append, List.map_cons, HSV.out]; rfl
            · rw [List.mem_append] at hd
              rcases hd with hd | hd
              · exact HM.out d hd
              · simp at hd; subst hd; exact HMS.out
            · unfold OwnV
              simpa using hown1
          case measure => simp [intOf]; omega
        · have HBT : Hid (¬ Vw.okS n mask ⟨2, (f : Int), inst, len, has⟩ = true) := Lib.hid (fun h => by have := (hok.1 h).2.2.2; rw [hbit] at this; cases this)
          rw [hbit] at hHas
          clear hok hbit h2
          go_wp2_with (first
            | (go_at_call 40; refine hHas.mono ?_; rintro e w1 ⟨rfl, rfl⟩)
            | fail)
          go_roundw
          case rel => exact ⟨j + 1, mask, n', A', c', es', by omega, by omega, by go_num, rfl, rfl, HN, Lib.hid (by rw [HST.out]; unfold Vw.stp; rw [if_neg HBT.out]), HM, HO, HB2⟩
          case measure => simp [intOf]; omega
      · have HBT : Hid (¬ Vw.okS n mask ⟨kind, frm, inst, len, has⟩ = true) := Lib.hid (fun h => h1 (by have := hok.1 h; exact ⟨this.1, this.2.1, this.2.2.1⟩))
        have h3 : kind ≠ 2 ∨ kind = 2 ∧ frm < 0 ∨ kind = 2 ∧ 0 ≤ frm ∧ (n : Int) ≤ frm := by omega
        clear hok h1
        rcases h3 with h3 | ⟨rfl, h3⟩ | ⟨rfl, h3, h4⟩
        all_goals
          go_wp2
          go_roundw
          case rel => exact ⟨j + 1, mask, n', A', c', es', by omega, by omega, by go_num, rfl, rfl, HN, Lib.hid (by rw [HST.out]; unfold Vw.stp; rw [if_neg HBT.out]), HM, HO, HB2⟩
          case measure => simp [intOf]; omega
    · obtain rfl : j = k := by omega
      have hn0 := HN.out
      subst hn0
      have hfin := HC.out
      rw [List.take_of_length_le (by rw [List.length_map]; have := HL.out; omega)] at hfin
      have HF := Lib.hid hfin
      clear hfin
      go_wp2
      go_ret2
      exact ⟨A', c', es', by rw [HF.out]; rfl, by rw [HF.out], HM.out, HO.out, HB.out⟩
end Go.Proofs.Ytneehnoolhadbaa

