/- ViewCode4 ViewCode5 -/
import Derived.Test.YtneehnoolhadbaaGP30
import Derived.BigQuiet
namespace Go.Proofs.Ytneehnoolhadbaa
open Go.RowKit
set_option linter.unusedVariables false
theorem results_cell_tmpV {P : Program} {fn : Func} {u p : Tmp} {ty : TypeId} (h : fn.results = #[.cell p ty, .tmp u]) (tmps : Array Value) (w : World) (g : Nat) (t : TypeId) (cs : Array Value) (d : TypeDesc)
    (hp : tmps.getD p undef = .pointer (some ⟨g, 0, none⟩)) (hg : Blk w g t cs)
    (hu : P.underlying ty = some d) (hd : (match d with | .struct _ | .array _ _ => true | _ => false) = true) (hi : (P.info? ty).map (·.size) = some cs.size) :
    (results fn tmps).run P w = .ok (.tuple #[.agg cs, tmps.getD u undef]) w := by
  have hp' : tmps[p]?.getD undef = .pointer (some ⟨g, 0, none⟩) := by simpa using hp
  simp [results, h, hp', asAddr, run_loadVar_row w g t ty cs (0, 0) d hg hu hd hi]
theorem top_step {l : List Sv} {k : Nat} {x : Sv} (h : l[k]? = some x) {t z : Int} (ht : Vw.top (l.take k) = t) (hz : z = max t x.inst) : Vw.top (l.take (k + 1)) = z := by rw [Vw.top_snoc h, ht, hz]
set_option maxRecDepth 100000 in
theorem vnewest_any {w : World} {A : Option Addr} {k c B : Nat} {es : List (List Value)} (hk : k ≤ 1000) (h : RdV w B A k es) :
    Calls Try.prog 44 #[.slice A k c] w fun e w' => e = .returned (.int .i64 (Vw.top (es.map svOf))) ∧ Below w.heap.size w w' := by
  have hlen := h.len
  have H := Lib.hid h.fit
  have HL := Lib.hid hlen
  clear h
  go_enter Try.func44, Try.ntmps44
  go_wp2
  go_loopw [3, 8] (fun s i wr => ∃ (j : Nat) (t : Int), j ≤ k ∧ i = .int .i64 j ∧ s = .int .i64 t ∧ Hid (Vw.top ((es.map svOf).take j) = t) ∧ Hid (Below w.heap.size w wr)) (fun _ i _ => k - (intOf i).toNat)
  case atStart => exact ⟨0, _, by omega, rfl, rfl, Lib.hid rfl, Lib.hid (Below.refl _ _)⟩
  case round =>
    obtain ⟨j, t, hj, rfl, rfl, HT, HB⟩ := hrel
    by_cases hlt : j < k
    · obtain ⟨cs, hcs⟩ : ∃ cs, es[j]? = some cs := ⟨_, List.getElem?_eq_getElem (by have := HL.out; omega)⟩
      obtain ⟨b, o, rfl, hb, hr, hms⟩ := H.out.at hcs
      have HR : Hid (wr.rangeAt b (o + j * 24) cs) := Lib.hid (fun i v hv => (HB.out.cell (p := ⟨b, o + j * 24 + i, none⟩) hb).trans (hr i v hv))
      have HS := Lib.hid (svs_get hcs)
      have HMS := Lib.hid hms
      clear hb hr hcs hms
      go_upto_region 5 with (first
        | (refine wpList_load_mid rfl 31 (.tmp 10) rfl b (o + j * 24) rfl cs _ HR.out Try.underlying31 rfl (by rw [HMS.out.len]; kernel_rfl) ?_)
        | (refine wpList_store_row rfl 31 (.tmp 5) (.tmp 11) rfl wr.heap.size cs.toArray rfl rfl 31 mz (Blk.new wr 31 mz) (by rw [List.size_toArray, HMS.out.len]; kernel_rfl) (show 24 = cs.toArray.size by rw [List.size_toArray, HMS.out.len]) (all_oneCell_toArray HMS.out.one) ?_)
        | fail)
      obtain ⟨g, w2, hgE, hwE, hbE, hkE⟩ := boxM wr cs.toArray
      unfold mz at hwE
      rw [hgE, hwE]
      obtain ⟨c0, c1, c4, c5, c6⟩ := hkE.sv HMS.out
      have HB2 := Lib.hid (HB.out.trans (hbE.mono HB.out.size))
      obtain ⟨sv, hsvE⟩ : ∃ sv, svOf cs = sv := ⟨_, rfl⟩
      rw [hsvE] at c4 HS
      clear hwE hgE hbE hkE HR HB hsvE c0 c1 c5 c6
      rcases sv with ⟨kind, frm, inst, len, has⟩
      simp only at c4
      go_wp2
      all_goals
        go_roundw
        case rel => exact ⟨j + 1, _, by omega, by go_num, rfl, Lib.hid (top_step HS.out HT.out (by simp only; omega)), HB2⟩
        case measure => simp [intOf]; omega
    · obtain rfl : j = k := by omega
      have hfin := HT.out
      rw [List.take_of_length_le (by rw [List.length_map]; have := HL.out; omega)] at hfin
      have HF := Lib.hid hfin
      clear hfin
      go_wp2
      go_ret
      exact ⟨ret_int HF.out.symm, HB.out⟩
set_option maxRecDepth 100000 in
theorem vahead_any (w : World) {a b : List Value} (ha : Ms a) (hb : Ms b) :
    Calls Try.prog 48 #[.agg a.toArray, .agg b.toArray] w fun e w' => e = .returned (.bool (Vw.ahead (svOf a) (svOf b))) ∧ Below w.heap.size w w' := by
  obtain ⟨sa, hsa⟩ : ∃ sv, svOf a = sv := ⟨_, rfl⟩
  obtain ⟨sb, hsb⟩ : ∃ sv, svOf b = sv := ⟨_, rfl⟩
  rw [hsa, hsb]
  go_enter Try.func48, Try.ntmps48
  go_upto_region 1 with fail
  obtain ⟨w2, hw2⟩ : ∃ w2, (w.alloc (.cells a.toArray 31)).alloc (.cells b.toArray 31) = w2 := ⟨_, rfl⟩
  have hB : Below w.heap.size w w2 := by rw [← hw2]; exact ((Below.refl _ _).alloc (Nat.le_refl _) _).alloc (by simp) _
  have k1 : Blk w2 w.heap.size 31 a.toArray := by rw [← hw2]; exact (Blk.new _ _ _).alloc _
  have k2 : Blk w2 (w.heap.size + 1) 31 b.toArray := by
    have := Blk.new (w.alloc (.cells a.toArray 31)) 31 b.toArray
    rw [hw2] at this
    simpa using this
  rw [hw2]
  have HB := Lib.hid hB
  obtain ⟨a0, a1, a4, a5, a6⟩ := k1.sv ha
  obtain ⟨b0, b1, b4, b5, b6⟩ := k2.sv hb
  rw [hsa] at a1 a5
  rw [hsb] at b1 b5
  obtain ⟨g, hg⟩ : ∃ g, w.heap.size = g := ⟨_, rfl⟩
  rw [hg] at a1 a5 b1 b5 ⊢
  clear hw2 hB k1 k2 a0 a4 a6 b0 b4 b6 hsa hsb hg
  rcases sa with ⟨k, f, i, l, h⟩
  rcases sb with ⟨k', f', i', l', h'⟩
  simp only at a1 a5 b1 b5
  rcases Int.lt_or_le l' l with h1 | h1
  · have HE : Hid (Vw.ahead ⟨k, f, i, l, h⟩ ⟨k', f', i', l', h'⟩ = true) := Lib.hid (by unfold Vw.ahead; simp [h1])
    go_wp2
    go_ret
    exact ⟨ret_bool (by first | exact HE.out.symm | (rw [HE.out]; simp; omega)), HB.out⟩
  · by_cases h2 : l = l'
    · subst h2
      rcases Int.lt_or_le f f' with h3 | h3
      · have HE : Hid (Vw.ahead ⟨k, f, i, l, h⟩ ⟨k', f', i', l, h'⟩ = true) := Lib.hid (by unfold Vw.ahead; simp [h3])
        clear h1
        go_wp2
        go_ret
        exact ⟨ret_bool (by first | exact HE.out.symm | (rw [HE.out]; simp; omega)), HB.out⟩
      · have HE : Hid (Vw.ahead ⟨k, f, i, l, h⟩ ⟨k', f', i', l, h'⟩ = false) := Lib.hid (by unfold Vw.ahead; simp; omega)
        clear h1
        go_wp2
        go_ret
        exact ⟨ret_bool (by first | exact HE.out.symm | (rw [HE.out]; simp; omega)), HB.out⟩
    · have HE : Hid (Vw.ahead ⟨k, f, i, l, h⟩ ⟨k', f', i', l', h'⟩ = false) := Lib.hid (by unfold Vw.ahead; simp; omega)
      have h3 : l < l' := by omega
      clear h1 h2
      go_wp2
      go_ret
      exact ⟨ret_bool (by first | exact HE.out.symm | (rw [HE.out]; simp; omega)), HB.out⟩
/-- the variable in which the best so far lies -/
def BestIn (bc : Array Value) (f : Bool) (o : Option Sv) : Prop := bc.size = 24 ∧ bc.all (·.oneCell') = true ∧ (f = false ∧ o = none ∨ f = true ∧ ∃ cs : List Value, bc = cs.toArray ∧ Ms cs ∧ o = some (svOf cs))
theorem best_step {l : List Sv} {k : Nat} {x : Sv} {t : Int} (h : l[k]? = some x) {o o' : Option Sv} (ho : Vw.best t (l.take k) = o) (hp : Vw.pick t o x = o') : Vw.best t (l.take (k + 1)) = o' := by rw [Vw.best_snoc h, ho, hp]
set_option maxRecDepth 100000 in
set_option maxHeartbeats 1000000 in
theorem vlongest_any {w : World} {A : Option Addr} {k c B : Nat} {es : List (List Value)} (t : Int) (hk : k ≤ 1000) (h : RdV w B A k es) :
    Calls Try.prog 43 #[.slice A k c, .int .i64 t] w fun e w' => ∃ bc f, e = .returned (.tuple #[.agg bc, .bool f]) ∧ BestIn bc f (Vw.best t (es.map svOf)) ∧ Below w.heap.size w w' := by
  have hlen := h.len
  have H := Lib.hid h.fit
  have HL := Lib.hid hlen
  clear h
  go_enter Try.func43, Try.ntmps43
  go_upto_region 1 with fail
  obtain ⟨gb, hgb⟩ : ∃ gb, w.heap.size = gb := ⟨_, rfl⟩
  obtain ⟨w1, hw1⟩ : ∃ w1, w.alloc (.cells mz 31) = w1 := ⟨_, rfl⟩
  have hb1 : Below w.heap.size w w1 := by rw [← hw1]; exact (Below.refl _ _).alloc (Nat.le_refl _) _
  have hk1 : Blk w1 gb 31 mz := by rw [← hw1, ← hgb]; exact Blk.new _ _ _
  unfold mz at hw1
  rw [hw1, hgb]
  have HB1 := Lib.hid hb1
  have HK1 := Lib.hid hk1
  have HG := Lib.hid (Nat.le_of_eq hgb)
  clear hw1 hb1 hk1 hgb
  go_wp2
  go_loopw [5, 10] (fun s i wr => ∃ (j : Nat) (f : Bool) (o : Option Sv) (bc : Array Value), j ≤ k ∧ i = .int .i64 j ∧ s = .bool f ∧ Hid (Vw.best t ((es.map svOf).take j) = o) ∧ Hid (BestIn bc f o) ∧ Hid (Blk wr gb 31 bc) ∧ Hid (Below w.heap.size w wr)) (fun _ i _ => k - (intOf i).toNat)
  case atStart => exact ⟨0, false, none, mz, by omega, rfl, rfl, Lib.hid rfl, Lib.hid ⟨rfl, by kernel_rfl, .inl ⟨rfl, rfl⟩⟩, HK1, HB1⟩
  case round =>
    clear HK1 HB1
    obtain ⟨j, f, ob, bc, hj, rfl, rfl, HT, HBI, HK, HB⟩ := hrel
    by_cases hlt : j < k
    · obtain ⟨cs, hcs⟩ : ∃ cs, es[j]? = some cs := ⟨_, List.getElem?_eq_getElem (by have := HL.out; omega)⟩
      obtain ⟨b, o, rfl, hb, hr, hms⟩ := H.out.at hcs
      have HR : Hid (wr.rangeAt b (o + j * 24) cs) := Lib.hid (fun i v hv => (HB.out.cell (p := ⟨b, o + j * 24 + i, none⟩) hb).trans (hr i v hv))
      have HS := Lib.hid (svs_get hcs)
      have HMS := Lib.hid hms
      clear hb hr hcs hms
      go_upto_region 4 with (first
        | (refine wpList_load_mid rfl 31 (.tmp 12) rfl b (o + j * 24) rfl cs _ HR.out Try.underlying31 rfl (by rw [HMS.out.len]; kernel_rfl) ?_)
        | (refine wpList_store_row rfl 31 (.tmp 7) (.tmp 13) rfl wr.heap.size cs.toArray rfl rfl 31 mz (Blk.new wr 31 mz) (by rw [List.size_toArray, HMS.out.len]; kernel_rfl) (show 24 = cs.toArray.size by rw [List.size_toArray, HMS.out.len]) (all_oneCell_toArray HMS.out.one) ?_)
        | fail)
      obtain ⟨g, w2, hgE, hwE, hbE, hkE⟩ := boxM wr cs.toArray
      unfold mz at hwE
      rw [hgE, hwE]
      obtain ⟨c0, c1, c4, c5, c6⟩ := hkE.sv HMS.out
      have HB2 := Lib.hid (HB.out.trans (hbE.mono HB.out.size))
      have HK2 := Lib.hid (HK.out.below hbE)
      have HKg := Lib.hid hkE
      clear c0 c1 c5 hwE hgE hbE hkE HR HB HK
      obtain ⟨sv, hsvE⟩ : ∃ sv, svOf cs = sv := ⟨_, rfl⟩
      have HSV := Lib.hid hsvE
      rw [hsvE] at c4 c6 HS
      clear hsvE
      rcases sv with ⟨kind, frm, inst, len, has⟩
      simp only at c4 c6
      cases has
      · have HP : Hid (Vw.pick t ob ⟨kind, frm, inst, len, false⟩ = ob) := Lib.hid (by unfold Vw.pick; simp)
        go_wp2
        all_goals
          go_roundw
          case rel => exact ⟨j + 1, f, ob, bc, by omega, by go_num, rfl, Lib.hid (best_step HS.out HT.out HP.out), HBI, HK2, HB2⟩
          case measure => simp [intOf]; omega
      · by_cases hin : inst = t
        · subst hin
          rcases HBI.out.2.2 with ⟨rfl, rfl⟩ | ⟨rfl, csb, rfl, hmb, rfl⟩
          · have HP : Hid (Vw.pick inst none ⟨kind, frm, inst, len, true⟩ = some ⟨kind, frm, inst, len, true⟩) := Lib.hid (by unfold Vw.pick; simp)
            go_wp2_with (first
            | (refine wpList_load_row rfl 31 (.tmp 7) rfl g rfl 31 cs.toArray (0, 0) _ HKg.out Try.underlying31 rfl (by rw [List.size_toArray, HMS.out.len]; kernel_rfl) ?_)
            | (refine wpList_load_rowU (by rfl) 31 (.tmp 7) rfl g rfl 31 cs.toArray (0, 0) _ HKg.out Try.underlying31 rfl (by rw [List.size_toArray, HMS.out.len]; kernel_rfl) ?_)
            | (refine wpList_load_rowU (by rfl) 31 (.tmp 4) rfl gb rfl 31 bc (0, 0) _ HK2.out Try.underlying31 rfl (by rw [HBI.out.1]; kernel_rfl) ?_)
            | (refine wpList_store_row rfl 31 (.tmp 4) (.tmp 31) rfl gb cs.toArray rfl rfl 31 bc HK2.out (by rw [List.size_toArray, HMS.out.len]; kernel_rfl) (HBI.out.1.trans (show 24 = cs.toArray.size by rw [List.size_toArray, HMS.out.len])) (all_oneCell_toArray HMS.out.one) ?_)
            | fail)
            all_goals (try (exfalso; have hl24 := HMS.out.len; omega))
            go_roundw
            case rel => exact ⟨j + 1, true, some _, cs.toArray, by omega, by go_num, rfl, Lib.hid (best_step HS.out HT.out HP.out), Lib.hid ⟨by rw [List.size_toArray, HMS.out.len], all_oneCell_toArray HMS.out.one, .inr ⟨rfl, cs, rfl, HMS.out, by rw [HSV.out]⟩⟩, Lib.hid (HK2.out.put_ _), Lib.hid (below_setRow HB2.out HG.out _)⟩
            case measure => simp [intOf]; omega
          · have HA := vahead_any w2 HMS.out hmb
            rw [HSV.out] at HA
            cases hah : Vw.ahead ⟨kind, frm, inst, len, true⟩ (svOf csb)
            · have HP : Hid (Vw.pick inst (some (svOf csb)) ⟨kind, frm, inst, len, true⟩ = some (svOf csb)) := Lib.hid (by unfold Vw.pick; simp [hah])
              rw [hah] at HA
              clear hah
              go_wp2_with (first
            | (refine wpList_load_rowU (by rfl) 31 (.tmp 7) rfl g rfl 31 cs.toArray (0, 0) _ HKg.out Try.underlying31 rfl (by rw [List.size_toArray, HMS.out.len]; kernel_rfl) ?_)
            | (refine wpList_load_rowU (by rfl) 31 (.tmp 4) rfl gb rfl 31 csb.toArray (0, 0) _ HK2.out Try.underlying31 rfl (by rw [HBI.out.1]; kernel_rfl) ?_)
            | (go_at_call 48; refine HA.mono ?_; rintro e w3 ⟨rfl, hbA⟩
               have HB3 := Lib.hid (HB2.out.trans (hbA.mono HB2.out.size))
               have HK3 := Lib.hid (HK2.out.below hbA)
               have HKg3 := Lib.hid (HKg.out.below hbA)
               clear hbA)
            | fail)
              go_roundw
              case rel => exact ⟨j + 1, true, _, csb.toArray, by omega, by go_num, rfl, Lib.hid (best_step HS.out HT.out HP.out), HBI, HK3, HB3⟩
              case measure => simp [intOf]; omega
            · have HP : Hid (Vw.pick inst (some (svOf csb)) ⟨kind, frm, inst, len, true⟩ = some ⟨kind, frm, inst, len, true⟩) := Lib.hid (by unfold Vw.pick; simp [hah])
              rw [hah] at HA
              clear hah
              go_wp2_with (first
            | (refine wpList_load_rowU (by rfl) 31 (.tmp 7) rfl g rfl 31 cs.toArray (0, 0) _ HKg.out Try.underlying31 rfl (by rw [List.size_toArray, HMS.out.len]; kernel_rfl) ?_)
            | (refine wpList_load_rowU (by rfl) 31 (.tmp 4) rfl gb rfl 31 csb.toArray (0, 0) _ HK2.out Try.underlying31 rfl (by rw [HBI.out.1]; kernel_rfl) ?_)
            | (go_at_call 48; refine HA.mono ?_; rintro e w3 ⟨rfl, hbA⟩
               have HB3 := Lib.hid (HB2.out.trans (hbA.mono HB2.out.size))
               have HK3 := Lib.hid (HK2.out.below hbA)
               have HKg3 := Lib.hid (HKg.out.below hbA)
               clear hbA)
            | (refine wpList_load_row rfl 31 (.tmp 7) rfl g rfl 31 cs.toArray (0, 0) _ HKg3.out Try.underlying31 rfl (by rw [List.size_toArray, HMS.out.len]; kernel_rfl) ?_)
            | (refine wpList_store_row rfl 31 (.tmp 4) (.tmp 31) rfl gb cs.toArray rfl rfl 31 csb.toArray HK3.out (by rw [List.size_toArray, HMS.out.len]; kernel_rfl) (HBI.out.1.trans (show 24 = cs.toArray.size by rw [List.size_toArray, HMS.out.len])) (all_oneCell_toArray HMS.out.one) ?_)
            | fail)
              go_roundw
              case rel => exact ⟨j + 1, true, some _, cs.toArray, by omega, by go_num, rfl, Lib.hid (best_step HS.out HT.out HP.out), Lib.hid ⟨by rw [List.size_toArray, HMS.out.len], all_oneCell_toArray HMS.out.one, .inr ⟨rfl, cs, rfl, HMS.out, by rw [HSV.out]⟩⟩, Lib.hid (HK3.out.put_ _), Lib.hid (below_setRow HB3.out HG.out _)⟩
              case measure => simp [intOf]; omega
        · have HP : Hid (Vw.pick t ob ⟨kind, frm, inst, len, true⟩ = ob) := Lib.hid (by unfold Vw.pick; simp [hin])
          go_wp2
          all_goals
            go_roundw
            case rel => exact ⟨j + 1, f, ob, bc, by omega, by go_num, rfl, Lib.hid (best_step HS.out HT.out HP.out), HBI, HK2, HB2⟩
            case measure => simp [intOf]; omega
    · obtain rfl : j = k := by omega
      have hfin := HT.out
      rw [List.take_of_length_le (by rw [List.length_map]; have := HL.out; omega)] at hfin
      have HF := Lib.hid hfin
      clear hfin
      go_wp2_with (first
        | (refine wpList_load_row rfl 31 (.tmp 4) rfl gb rfl 31 bc (0, 0) _ HK.out Try.underlying31 rfl (by rw [HBI.out.1]; kernel_rfl) ?_)
        | (refine wpList_store_row rfl 31 (.tmp 4) (.tmp 33) rfl gb bc rfl rfl 31 bc HK.out (by rw [HBI.out.1]; kernel_rfl) rfl HBI.out.2.1 ?_)
        | fail)
      refine bodyPost_ret (results_cell_tmpV rfl _ _ _ _ _ _ rfl (HK.out.put_ bc) Try.underlying31 rfl (by rw [HBI.out.1]; kernel_rfl)) rfl ?_
      exact ⟨bc, f, rfl, by rw [HF.out]; exact HBI.out, below_setRow HB.out HG.out _⟩
end Go.Proofs.Ytneehnoolhadbaa

namespace Go.Proofs.Ytneehnoolhadbaa
open Go.RowKit
set_option linter.unusedVariables false
theorem results_tmp4V {P : Program} {fn : Func} {t u v x : Tmp} (h : fn.results = #[.tmp t, .tmp u, .tmp v, .tmp x]) (tmps : Array Value) (w : World) :
    (results fn tmps).run P w = .ok (.tuple #[tmps.getD t undef, tmps.getD u undef, tmps.getD v undef, tmps.getD x undef]) w := by
  simp [results, h]
/-- what Choose answers -/
def chV (r : Int × Int × Int × Bool) : Value := .tuple #[.int .i64 r.1, .int .i64 r.2.1, .int .i64 r.2.2.1, .bool r.2.2.2]
def ChooseC14 : Prop := ∀ {w : World} {A : Option Addr} {k c B : Nat} {es : List (List Value)} {r : Int × Int × Int × Bool} (n : Int), Vw.choose (es.map svOf) n = r → In64 n → k ≤ 1000 → RdV w B A k es →
  Calls Try.prog 34 #[.slice A k c, .int .i64 n] w fun e w' => e = .returned (chV r) ∧ Below w.heap.size w w'
theorem most14' : MostC14 := most14 vnodes_any
set_option maxRecDepth 100000 in
set_option maxHeartbeats 1000000 in
theorem choose14 : ChooseC14 := by
  intro w A k c B es r n he hn hk h
  have hs7 := Vw.size_bound n
  obtain ⟨s, hs⟩ : ∃ s, Vw.size n = s := ⟨_, rfl⟩
  have hcl := Vw.count_len s (es.map svOf)
  rw [List.length_map, h.len] at hcl
  have hcnt := Vw.cnt_all (n := s) (by omega) (es.map svOf)
  have HC1 := vcounted_any (w := w) (c := c) s (by omega) hk h
  have HN := vnodes_any w n hn
  rw [hs] at HN
  unfold Vw.choose at he
  rw [hs] at he
  obtain ⟨mask, hm⟩ : ∃ x, (Vw.count s (es.map svOf)).1 = x := ⟨_, rfl⟩
  obtain ⟨sts, hst⟩ : ∃ x, (Vw.count s (es.map svOf)).2 = x := ⟨_, rfl⟩
  rw [hm, hst] at hcnt he HC1
  rw [hst] at hcl
  have hlt := hcnt.lt
  have HE := Lib.hid he
  clear he hs hs7 hm hst hcnt
  go_enter Try.func34, Try.ntmps34
  go_upto_region 3 with (first
    | (go_at_call 42; refine HN.mono ?_; rintro e w1 ⟨rfl, rfl⟩)
    | (go_at_call 41; refine HC1.mono ?_; rintro e w1 ⟨A1, c1, es1, rfl, hes, hms, ho, hb⟩
       have hl1 : es1.length ≤ 1000 := by have := congrArg List.length hes; rw [List.length_map] at this; omega
       have HR1 := Lib.hid (ho.rd hms)
       have HB1 := Lib.hid hb
       have HS1 := Lib.hid hes
       clear ho hb hes hms)
    | (go_at_call 44; refine (vnewest_any hl1 HR1.out).mono ?_; rintro e w2 ⟨rfl, hb⟩
       have HR2 := Lib.hid (HR1.out.below hb)
       have HB2 := Lib.hid (HB1.out.trans (hb.mono HB1.out.size))
       clear hb)
    | (go_at_call 43; refine (vlongest_any _ hl1 HR2.out).mono ?_; rintro e w3 ⟨bc, f, rfl, hbi, hb⟩
       have HB3 := Lib.hid (HB2.out.trans (hb.mono HB2.out.size))
       have HBI := Lib.hid hbi
       clear hb hbi)
    | (refine wpList_store_row rfl 31 (.tmp 9) (.tmp 23) rfl w3.heap.size bc rfl rfl 31 mz (Blk.new w3 31 mz) (by rw [HBI.out.1]; kernel_rfl) (HBI.out.1.symm) HBI.out.2.1 ?_)
    | fail)
  obtain ⟨g, w4, hgE, hwE, hbE, hkE⟩ := boxM w3 bc
  unfold mz at hwE
  rw [hgE, hwE]
  have HB4 := Lib.hid (HB3.out.trans (hbE.mono HB3.out.size))
  have hbi := HBI.out.2.2
  rw [HS1.out] at hbi
  have HK4 := Lib.hid hkE
  clear hwE hgE hbE hkE HB1 HB2 HB3 HR1 HR2 HC1
  rcases hbi with ⟨rfl, hno⟩ | ⟨rfl, cs, hbc, hms, hyes⟩
  · have hr : r = (0, 0, 0, false) := by have := HE.out; rw [hno] at this; exact this.symm
    subst hr
    clear hno HE HN
    go_wp2
    (try simp only [Exit.inBlock, Exit.then]); refine bodyPost_ret (results_tmp4V rfl _ _) rfl ?_
    exact ⟨rfl, HB4.out⟩
  · subst hbc
    have hr := HE.out
    rw [hyes] at hr
    obtain ⟨c0, c1, c4, c5, c6⟩ := HK4.out.sv hms
    obtain ⟨sv, hsv⟩ : ∃ sv, svOf cs = sv := ⟨_, rfl⟩
    rw [hsv] at hr c1 c5
    rcases sv with ⟨kind, frm, inst, len, has⟩
    have HSV := Lib.hid hsv
    have HMS := Lib.hid hms
    simp only at c1 c5
    clear c0 c4 c6 hyes HE HN hsv hms
    have HMO := most14' w4 (mask : Int) n ⟨by omega, by omega⟩ hn
    cases hmo : Vw.most (mask : Int) n
    · rw [hmo] at HMO
      have hr2 : r = (0, 0, 0, false) := by unfold Vw.fin at hr; simp only [hmo] at hr; exact hr.symm
      subst hr2
      clear hr
      go_wp2_with (first
    | (go_at_call 45; refine HMO.mono ?_; rintro e w5 ⟨rfl, hb5⟩
       have HB5 := Lib.hid (HB4.out.trans (hb5.mono HB4.out.size))
       have HK5 := HK4.out.below hb5
       have hc1 : w5.cell? ⟨g, 1, none⟩ = some (.int .i64 frm) := by have := (HK5.sv HMS.out).2.1; rw [HSV.out] at this; exact this
       have hc5 : w5.cell? ⟨g, 5, none⟩ = some (.int .i64 len) := by have := (HK5.sv HMS.out).2.2.2.1; rw [HSV.out] at this; exact this
       clear hb5 HK5)
    | fail)
      (try simp only [Exit.inBlock, Exit.then]); refine bodyPost_ret (results_tmp4V rfl _ _) rfl ?_
      exact ⟨rfl, HB5.out⟩
    · rw [hmo] at HMO
      have hr2 : r = ((mask : Int), frm, len, true) := by unfold Vw.fin at hr; simp only [hmo] at hr; exact hr.symm
      subst hr2
      clear hr c1 c5
      go_upto_region 5 with (first
    | (go_at_call 45; refine HMO.mono ?_; rintro e w5 ⟨rfl, hb5⟩
       have HB5 := Lib.hid (HB4.out.trans (hb5.mono HB4.out.size))
       have HK5 := HK4.out.below hb5
       have hc1 : w5.cell? ⟨g, 1, none⟩ = some (.int .i64 frm) := by have := (HK5.sv HMS.out).2.1; rw [HSV.out] at this; exact this
       have hc5 : w5.cell? ⟨g, 5, none⟩ = some (.int .i64 len) := by have := (HK5.sv HMS.out).2.2.2.1; rw [HSV.out] at this; exact this
       clear hb5 HK5)
    | fail)
      go_quiet (fail)
      go_wp2_with fail
      (try simp only [Exit.inBlock, Exit.then]); refine bodyPost_ret (results_tmp4V rfl _ _) rfl ?_
      exact ⟨rfl, HB5.out.trans ⟨rfl, rfl, rfl, Nat.le_refl _, fun _ _ => rfl⟩⟩
end Go.Proofs.Ytneehnoolhadbaa

