/- PackBack: the walk. -/
import Derived.Test.YtojfhgicfkpidaaPackAwake
import Derived.Deep.RegionWith
import Derived.Deep.DeepCutAuto
namespace Go.Proofs.Ytojfhgicfkpidaa
open Go.RowKit
set_option linter.unusedVariables false
theorem intT : CellT Try.prog 34 3 (.int .i64 0) 8 := ⟨Try.underlying34, by kernel_rfl, rfl⟩
/-- the numbers that are told of these -/
def hv (zs : List Int) : List Int := zs.map fun z => ((Pk.held z : Nat) : Int)
theorem hv_snoc (zs : List Int) (z : Int) : hv (zs ++ [z]) = hv zs ++ [((Pk.held z : Nat) : Int)] := by simp [hv]
theorem hv_length (zs : List Int) : (hv zs).length = zs.length := by simp [hv]
theorem take_snoc {zs : List Int} {k : Nat} (h : k < zs.length) : zs.take (k + 1) = zs.take k ++ [zs[k]] := List.take_succ_eq_append_getElem h
/-- what the first loop has made: the bytes of the numbers, and the numbers -/
def Made (W w : World) (zs : List Int) (A : Option Addr) (n c : Nat) (A' : Option Addr) (n' c' : Nat) : Prop :=
  RdT w 5 A n (bv (Pk.encs zs)) ∧ w.ownsRow W.heap.size 3 1 (.slice A' n' c') n' (iv (hv zs)) ∧ Below W.heap.size W w
set_option maxHeartbeats 2000000 in
set_option maxRecDepth 100000 in
theorem packBack_walk (a0 : Option Addr) (len0 cap0 : Nat) (z0 : List Int) (a1 : Option Addr) (len1 cap1 : Nat) (z1 : List Int) (a2 : Int) (w : World) (w0 : IsRow .i64 w a0 len0 cap0 z0) (w1 : IsRow .u8 w a1 len1 cap1 z1) (w2 : (Lit.int .i64 a2).wf = true) :
    Calls Try.prog 6 #[.slice a0 len0 cap0, .slice a1 len1 cap1, .int .i64 a2] w fun e w' => e = .returned (.bool true) ∧ Below w.heap.size w w' := by
  obtain ⟨l, hl, h, hle, hcap⟩ := w1.rd
  obtain ⟨hz, hzl, hle0, hcap0⟩ := w0.ints
  obtain ⟨zs, hzs⟩ : ∃ zs, zs = z0.take len0 := ⟨_, rfl⟩
  rw [← hzs] at hz hzl
  have hn : len1 ≤ maxLen := Nat.le_trans hle hcap
  have hn' : len1 ≤ 9223372036854775807 := hn
  have hn0 : len0 ≤ 9223372036854775807 := Nat.le_trans hle0 hcap0
  clear w0 w1 w2 hcap hcap0 hzs hn
  by_cases hlt : 200 < len1
  · go_enter Try.func6, Try.ntmps6
    go_wp2_with (go_at_call 12; refine (awake_any _).mono ?_; rintro e w1 ⟨rfl, hb⟩)
    go_ret
    exact ⟨rfl, hb⟩
  · have H := Lib.hid h
    have HL := Lib.hid h.length
    have HX := Lib.hid hl
    have HZ := Lib.hid hz
    have HZL := Lib.hid hzl
    clear h hl hz hzl
    go_enter Try.func6, Try.ntmps6
    go_wp2_with fail
    go_loopw [7, 8, 9] (fun s7 s8 s9 wr => ∃ (k : Nat) (A : Option Addr) (n c : Nat) (A' : Option Addr) (n' c' : Nat), k ≤ len0 ∧ k ≤ 12 ∧ s9 = .int .i64 k ∧ s7 = .slice A n c ∧ s8 = .slice A' n' c' ∧ Made w wr (zs.take k) A n c A' n' c') (fun _ _ i _ => 12 - (intOf i).toNat)
    case atStart => exact ⟨0, none, 0, 0, none, 0, 0, by omega, by omega, rfl, rfl, rfl, RdT.none_ _ _ _, World.ownsRow_nil _ _ _ _, Below.refl _ _⟩
    case round =>
      obtain ⟨k, A, n, c, A', n', c', hk1, hk2, rfl, rfl, rfl, hmade⟩ := hrel
      by_cases hlt : k < len0 ∧ k < 12
      · obtain ⟨hk3, hk4⟩ := hlt
        obtain ⟨hb, hown, hB⟩ := hmade
        obtain ⟨b, o, rfl, hk', hc⟩ := (HZ.out.below hB).int_at hk3
        obtain ⟨z, hze⟩ : ∃ z, z = zs[k] := ⟨_, rfl⟩
        rw [← hze] at hc
        have HE := Lib.hid hze
        have hnl := Lib.hid (show n = (Pk.encs (zs.take k)).length from hb.rd.length.symm)
        have hn9 : n ≤ 108 := by have h1 := hnl.out; have h2 := Pk.encs_length (zs.take k); rw [List.length_take] at h2; omega
        have hn12 : n' ≤ 12 := by have h1 := hown.1; rw [iv_length, hv_length, List.length_take] at h1; omega
        have hm1 := fun (w : World) ts t => run_max0 (P := Try.prog) w ts t z
        have hm2 := fun (w : World) ts t => run_min_top (P := Try.prog) w ts t z
        have hk5 : (0 : Int) ≤ (k : Int) := by omega
        have hk6 : (k : Int) < (len0 : Int) := by omega
        have HZk := Lib.hid (show zs[k]? = some z by rw [HE.out]; exact List.getElem?_eq_getElem hk')
        clear hze
        go_wp2_with (first
          | (at_builtin
             refine wpList_append_cells (W := w) intT (.tmp 37) (.tmp 39) rfl (by rfl) rfl (hown.alloc _) rfl (Rd.oneV wr (.int .i64 (Pk.held z : Nat)) 3) (by intro u hu; simp at hu; subst hu; rfl) (by omega) (by omega) (hB.alloc hB.size _) ?_
             intro A2 c2 w2 hown2 hB2 hg2
             have hc2 := (HZ.out.below hB2).int_cell hk3 HZk.out)
          | fail)
        have hb2 : RdT w2 5 A n (bv (Pk.encs (zs.take k))) := (hb.alloc _).kept (hown.alloc _) (by decide) hg2
        refine (put_in (W := w) (l := Pk.encs (zs.take k)) (N := z) (l' := Pk.encs (zs.take (k + 1))) (by unfold Lim; omega) hb2.rd hB2 (by rw [take_snoc hk', Pk.encs_snoc, HE.out])).mono ?_
        rintro e w3 ⟨A3, n3, c3, rfl, hown3, HB3, hb3⟩
        have hw3 : w3.ownsRow w.heap.size 3 1 (.slice A2 (n' + 1) c2) (n' + 1) (iv (hv (zs.take (k + 1)))) := by
          have := ownsRow_below hown2 hb3
          rw [take_snoc hk', hv_snoc, iv_append, ← HE.out]
          exact this
        go_wp2_with fail
        go_roundw
        case rel => exact ⟨k + 1, A3, n3, c3, A2, n' + 1, c2, by omega, by omega, by go_num, rfl, rfl, RdT.own hown3, hw3, HB3⟩
        case measure => simp [intOf]; omega
      · obtain ⟨hb, hown, hB⟩ := hmade
        obtain rfl : k = n' := by have h1 := hown.1; have h2 := HZL.out; rw [iv_length, hv_length, List.length_take] at h1; omega
        obtain ⟨ys, hys⟩ : ∃ ys, ys = zs.take k := ⟨_, rfl⟩
        rw [← hys] at hb hown
        have hyl : ys.length = k := by have h2 := HZL.out; rw [hys, List.length_take]; omega
        have HY := Lib.hid hyl
        have hn9 : n ≤ 108 := by have h1 := hb.rd.length; have h2 := Pk.encs_length ys; omega
        have hwant := RdT.own hown
        clear hown hys hyl HZ HZL
        have HLT := Lib.hid (show l.length ≤ Pk.top ∧ l.length ≤ Pk.held (len1 : Int) ∧ l.length ≤ 200 by
          have h1 := HL.out
          have h2 : len1 ≤ Pk.top := by unfold Pk.top; omega
          exact ⟨by omega, by rw [Pk.held_of h2]; omega, by omega⟩)
        have HBY := Lib.hid (show ∀ x ∈ Pk.encs ys ++ Pk.encB l, x < 256 by
          intro x hx
          rcases List.mem_append.1 hx with hx | hx
          · exact Pk.encs_lt ys x hx
          · exact Pk.encB_lt HX.out HLT.out.1 x hx)
        have hk12 : (k : Int) ≤ 12 := by omega
        by_cases hk3 : k < len0
        all_goals
          go_wp2_with fail
          refine (putb_in (W := w) (l := Pk.encs ys) (x := l) (l' := Pk.encs ys ++ Pk.encB l) hb.rd (H.out.below hB) (by have h1 := HLT.out.2.2; have h2 := hb.rd.length; unfold Lim; omega) hB rfl).mono ?_
          rintro e w2 ⟨A2, n2, c2, rfl, hown2, HB2, hb2⟩
          have hn2 : n2 ≤ 400 := by have h1 := own_len hown2; have h2 := Pk.enc_length l.length; have h3 := HLT.out.2.2; have h4 := hb.rd.length; unfold Pk.encB at h1; rw [List.length_append, List.length_append] at h1; omega
          have hB2b := RdT.own hown2
          have hwant2 := hwant.below hb2
          clear hown2 hb hB hwant hb2
          go_wp2_with fail
          refine (read_in (W := w) (l := Pk.encs ys ++ Pk.encB l) (by unfold Lim; omega) HBY.out hB2b.rd HB2).mono ?_
          rintro e w3 ⟨r, rfl, hr3, hr, _, HB3, hb3⟩
          have hB3b := hB2b.below hb3
          have hwant3 := hwant2.below hb3
          clear hB2b hwant2 hb3 HB2
          go_wp2_with fail
          go_loopw [12, 56] (fun s12 s56 wr => ∃ (j : Nat) (A : Option Addr) (n c : Nat), j ≤ k ∧ s56 = .int .i64 j ∧ s12 = .slice A n c ∧ RdT wr 5 A n (bv (Pk.encs (ys.take j))) ∧ RdrAt wr r (some (Pk.encs (ys.drop j) ++ Pk.encB l)) ∧ Below w.heap.size w wr ∧ RdT wr 3 A' k (iv (hv ys)) ∧ RdT wr 5 A2 n2 (bv (Pk.encs ys ++ Pk.encB l)))
            (fun _ i _ => k - (intOf i).toNat)
          case atStart => exact ⟨0, none, 0, 0, by omega, rfl, rfl, RdT.none_ _ _ _, hr3, HB3, hwant3, hB3b⟩
          case round =>
            clear hr3 hwant3 hB3b HB3
            obtain ⟨j, A3, n3, c3, hj, rfl, rfl, hag, hrd, HB4, hwant4, hB4b⟩ := hrel
            have hn3 : n3 ≤ 108 := by have h1 := hag.rd.length; have h2 := Pk.encs_length (ys.take j); have h3 := HY.out; rw [List.length_take] at h2; omega
            by_cases hjk : j < k
            · have hjl : j < ys.length := by have := HY.out; omega
              obtain ⟨z, hze⟩ : ∃ z, z = ys[j] := ⟨_, rfl⟩
              have HE := Lib.hid hze
              clear hze
              have HZk := Lib.hid (show (hv ys)[j]? = some ((Pk.held z : Nat) : Int) by rw [HE.out]; simp [hv, hjl])
              have HD := Lib.hid (show Pk.encs (ys.drop j) ++ Pk.encB l = Pk.enc (Pk.held z) ++ (Pk.encs (ys.drop (j + 1)) ++ Pk.encB l) by
                rw [List.drop_eq_getElem_cons hjl, ← HE.out]; simp [Pk.encs])
              have HN := Lib.hid (Pk.numV_is (Pk.numN_enc (Pk.held_le z) (Pk.encs (ys.drop (j + 1)) ++ Pk.encB l) (Pk.held z : Nat) (by rw [Pk.held_held]; exact Nat.le_refl _)))
              rw [HD.out] at hrd
              obtain ⟨b, o, rfl, hxx⟩ := hwant4.rd.int_at hjk
              clear hxx
              have hc4 := hwant4.rd.int_cell hjk HZk.out
              have hj0 : (0 : Int) ≤ (j : Int) := by omega
              have hj1 : (j : Int) < (k : Int) := by omega
              go_wp2_with fail
              refine (num_in (W := w) hrd HB4 hr HN.out.1 HN.out.2).mono ?_
              rintro e w5 ⟨rfl, hr5, HB5, ho5⟩
              have hwant5 := hwant4.onlyR (by decide) ho5 hrd
              have hag5 := hag.onlyR (by decide) ho5 hrd
              have hB5b := hB4b.onlyR (by decide) ho5 hrd
              have hc5 := hwant5.rd.int_cell hjk HZk.out
              clear hc4 hwant4 hag hB4b ho5 hrd HB4
              go_wp2_with fail
              refine (put_in (W := w) (l := Pk.encs (ys.take j)) (N := (Pk.held z : Nat)) (l' := Pk.encs (ys.take (j + 1))) (by unfold Lim; omega) hag5.rd HB5 (by rw [take_snoc hjl, Pk.encs_snoc, Pk.held_held, HE.out])).mono ?_
              rintro e w6 ⟨A6, n6, c6, rfl, hown6, HB6, hb6⟩
              have hag6 := RdT.own hown6
              have hwant6 := hwant5.below hb6
              have hB6b := hB5b.below hb6
              have hr6 := hr5.below hb6
              clear hc5 hwant5 hag5 hB5b hr5 hown6 hb6 HB5
              go_wp2_with fail
              go_roundw
              case rel => exact ⟨j + 1, A6, n6, c6, by omega, by go_num, rfl, hag6, hr6, HB6, hwant6, hB6b⟩
              case measure => simp [intOf]; omega
            · obtain rfl : j = k := by omega
              have e1 : ys.take j = ys := List.take_of_length_le (by have := HY.out; omega)
              have e2 : ys.drop j = [] := List.drop_of_length_le (by have := HY.out; omega)
              rw [e1] at hag
              rw [e2] at hrd
              clear e1 e2 hk3
              have HN := Lib.hid (Pk.bytV_is (show Pk.bytN (some (Pk.encs [] ++ Pk.encB l)) (len1 : Int) = some (l, []) by have := Pk.bytN_enc l [] (len1 : Int) HLT.out.1 HLT.out.2.1; rwa [List.append_nil] at this))
              go_wp2_with fail
              refine (bytes_in (W := w) hrd HB4 hr HN.out.1 HN.out.2).mono ?_
              rintro e w5 ⟨A5, n5, c5, rfl, hown5, hr5, HB5, ho5⟩
              have hwant5 := hwant4.onlyR (by decide) ho5 hrd
              have hag5 := hag.onlyR (by decide) ho5 hrd
              have hB5b := hB4b.onlyR (by decide) ho5 hrd
              have hx5 := RdT.own hown5
              clear hwant4 hag hB4b ho5 hrd HB4 hown5
              go_wp2_with fail
              refine (putb_in (W := w) (l := Pk.encs ys) (x := l) (l' := Pk.encs ys ++ Pk.encB l) hag5.rd hx5.rd (by have h1 := HLT.out.2.2; have h2 := hag5.rd.length; unfold Lim; omega) HB5 rfl).mono ?_
              rintro e w6 ⟨A6, n6, c6, rfl, hown6, HB6, hb6⟩
              have ha6 := RdT.own hown6
              have hwant6 := hwant5.below hb6
              have hB6b := hB5b.below hb6
              have hx6 := hx5.below hb6
              have hr6 := hr5.below hb6
              clear hwant5 hag5 hB5b hx5 hr5 hown6 hb6 HB5
              go_wp2_with fail
              refine (read_in (W := w) (l := Pk.encs ys ++ Pk.encB l) (by unfold Lim; omega) HBY.out hB6b.rd HB6).mono ?_
              rintro e w7 ⟨s, rfl, hs7, hs, hsw, HB7, hb7⟩
              have hrs : r ≠ s := by have := hr6.lt; omega
              have hr7 := hr6.below hb7
              have ha7 := ha6.below hb7
              have hx7 := hx6.below hb7
              have hB7 := hB6b.below hb7
              have hw7 := hwant6.below hb7
              clear hr6 ha6 hx6 hB6b hwant6 hb7 HB6
              by_cases hj0 : j = 0
              · have hq : ¬ (0 < (j : Int)) := by omega
                have hb7 := hB7
                clear hj0 hw7 hs7 hB7
                have hcx := awake_str (c := c5) hx7.rd
                have hcr := awake_str (c := cap1) (H.out.below HB7)
                have hca := awake_str (c := c6) ha7.rd
                have hcb := awake_str (c := c2) hb7.rd
                have hs1 := strB_self l
                have hs2 := strB_self (Pk.encs ys ++ Pk.encB l)
                have hrr := Lib.hid hr7
                have HBB := Lib.hid HB7
                clear hr7 HB7 hx7 ha7 hb7
                go_wp2_with fail
                all_goals refine (end_any _ r _ hrr.out).mono ?_
                all_goals rintro e w9 ⟨rfl, rfl⟩
                all_goals rw [show Pk.endOf (some []) = true by decide]
                all_goals go_wp2_with fail
                all_goals refine (awake_any _).mono ?_
                all_goals rintro e w10 ⟨rfl, HBA⟩
                all_goals go_wp2
                all_goals go_ret
                all_goals exact ⟨rfl, HBB.out.trans (HBA.mono HBB.out.size)⟩
              · have hq : (0 : Int) < (j : Int) := by omega
                have hjl : 0 < ys.length := by have := HY.out; omega
                obtain ⟨z, hze⟩ : ∃ z, z = ys[0] := ⟨_, rfl⟩
                have HE := Lib.hid hze
                clear hze hj0
                have HZk := Lib.hid (show (hv ys)[0]? = some ((Pk.held z : Nat) : Int) by rw [HE.out]; simp [hv, hjl])
                obtain ⟨b, o, rfl, hxx⟩ := hw7.rd.int_at (k := 0) (by omega)
                have hc7 := hw7.rd.int_cell (k := 0) (by omega) HZk.out
                rw [Nat.add_zero] at hc7
                clear hxx
                by_cases hz0 : Pk.held z = 0
                · have hq2 : ¬ (0 < ((Pk.held z : Nat) : Int)) := by omega
                  have hb7 := hB7
                  clear hw7 hs7 hB7 hz0
                  have hcx := awake_str (c := c5) hx7.rd
                  have hcr := awake_str (c := cap1) (H.out.below HB7)
                  have hca := awake_str (c := c6) ha7.rd
                  have hcb := awake_str (c := c2) hb7.rd
                  have hs1 := strB_self l
                  have hs2 := strB_self (Pk.encs ys ++ Pk.encB l)
                  have hrr := Lib.hid hr7
                  have HBB := Lib.hid HB7
                  clear hr7 HB7 hx7 ha7 hb7
                  go_wp2_with fail
                  refine (end_any _ r _ hrr.out).mono ?_
                  rintro e w9 ⟨rfl, rfl⟩
                  rw [show Pk.endOf (some []) = true by decide]
                  go_wp2_with fail
                  refine (awake_any _).mono ?_
                  rintro e w10 ⟨rfl, HBA⟩
                  go_wp2
                  go_ret
                  exact ⟨rfl, HBB.out.trans (HBA.mono HBB.out.size)⟩
                · have hq2 : (0 : Int) < ((Pk.held z : Nat) : Int) := by omega
                  have hD : Pk.encs ys ++ Pk.encB l = Pk.enc (Pk.held z) ++ (Pk.encs (ys.drop 1) ++ Pk.encB l) := by
                    have h1 : ys = ys[0] :: ys.drop 1 := by rw [← List.drop_eq_getElem_cons hjl]; rfl
                    rw [HE.out]
                    conv => lhs; rw [h1]
                    simp [Pk.encs]
                  have HN2 := Lib.hid (Pk.numV_no (show Pk.numN (some (Pk.encs ys ++ Pk.encB l)) (((Pk.held z : Nat) : Int) - 1) = none by
                    rw [hD]
                    refine Pk.rNum_enc_none (Pk.held_le z) _ _ ?_
                    have h2 := Pk.held_le z
                    have h3 : (((Pk.held z : Nat) : Int) - 1) = ((Pk.held z - 1 : Nat) : Int) := by omega
                    rw [h3, Pk.held_of (by omega)]
                    omega))
                  have hq3 : ((Pk.held z : Nat) : Int) ≤ 4611686018427387904 := by have := Pk.held_le z; unfold Pk.top at this; omega
                  clear hD hz0
                  go_wp2_with fail
                  refine (num_in (W := w) hs7 HB7 hs HN2.out.1 HN2.out.2).mono ?_
                  rintro e w8 ⟨rfl, hs8, HB8, ho8⟩
                  have hb8 := hB7.onlyR (by decide) ho8 hs7
                  have hx8 := hx7.onlyR (by decide) ho8 hs7
                  have ha8 := ha7.onlyR (by decide) ho8 hs7
                  have hr8 : RdrAt w8 r (some []) := by
                    obtain ⟨cs, hbk⟩ := hs7.blk
                    exact hr7.grown ho8 hbk (by decide) hrs
                  clear hc7 hw7 hB7 hx7 ha7 hr7 ho8 hs7 HB7
                  go_wp2_with fail
                  refine (ok_any _ s _ hs8).mono ?_
                  rintro e w9 ⟨rfl, rfl⟩
                  have hcx := awake_str (c := c5) hx8.rd
                  have hcr := awake_str (c := cap1) (H.out.below HB8)
                  have hca := awake_str (c := c6) ha8.rd
                  have hcb := awake_str (c := c2) hb8.rd
                  have hs1 := strB_self l
                  have hs2 := strB_self (Pk.encs ys ++ Pk.encB l)
                  have hrr := Lib.hid hr8
                  have HBB := Lib.hid HB8
                  clear hr8 HB8 hx8 ha8 hb8
                  go_wp2_with fail
                  refine (end_any _ r _ hrr.out).mono ?_
                  rintro e w9 ⟨rfl, rfl⟩
                  rw [show Pk.endOf (some []) = true by decide]
                  go_wp2_with fail
                  refine (awake_any _).mono ?_
                  rintro e w10 ⟨rfl, HBA⟩
                  go_wp2
                  go_ret
                  exact ⟨rfl, HBB.out.trans (HBA.mono HBB.out.size)⟩
end Go.Proofs.Ytojfhgicfkpidaa
