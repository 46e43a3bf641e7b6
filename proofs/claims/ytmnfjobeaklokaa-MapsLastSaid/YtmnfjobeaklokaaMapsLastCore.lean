/- MapsLast: the walk, over the contracts. -/
import Derived.Test.YtmnfjobeaklokaaMapsLastKit
import Derived.Test.YtmnfjobeaklokaaMapsAwake
import Derived.Deep.CutBlock
namespace Go.Proofs.Ytmnfjobeaklokaa
open Go.RowKit Go.Maps
set_option linter.unusedVariables false
theorem Ml.wf8 : ∀ i : Nat, i < 50 → (Lit.int .u8 (i : Int)).wf = true := by decide
set_option maxHeartbeats 16000000 in
set_option maxRecDepth 100000 in
theorem mapsLast_core (hP : PutC7) (hG : GetC7) (hD : DelC7) (hA : AwakeC7) (a0 : Option Addr) (len0 cap0 : Nat) (z0 : List Int) (w : World) (w0 : IsRow .i64 w a0 len0 cap0 z0) :
    Calls Try.prog 5 #[.slice a0 len0 cap0] w fun e w' => e = .returned (.bool true) ∧ Below w.heap.size w w' := by
  obtain ⟨hz, hzl, hle0, hcap0⟩ := w0.ints
  obtain ⟨zs, hzs⟩ : ∃ zs, zs = z0.take len0 := ⟨_, rfl⟩
  rw [← hzs] at hz hzl
  have hn0 : len0 ≤ 9223372036854775807 := Nat.le_trans hle0 hcap0
  have HZ := Lib.hid hz
  have HZL := Lib.hid hzl
  clear w0 hcap0 hzs hz hzl
  have hmm := @run_makeMap Try.prog
  go_enter Try.func5, Try.ntmps5
  go_wp2_with fail
  obtain ⟨B, hBB⟩ : ∃ x, x = w.heap.size := ⟨_, rfl⟩
  rw [← hBB]
  have HSS : Hid (Last7 w (w.alloc (.map #[] 0)) none 0 0 B 0 [] (.map [])) := Lib.hid (by
    have g1 := World.ownsMap_made (H := Unit) w Try.prog 9 (plainElem Try.prog 5)
    rw [← hBB] at g1
    exact ⟨RdP.nil _ _ _, Nat.le_refl _, Mp.Inv.nil, (Below.refl _ _).alloc (Nat.le_refl _) _, g1, Ml.Tie.start, by omega⟩)
  clear hmm hBB
  go_loopw [3, 5] (fun s3 s5 wr => ∃ (i : Nat) (A : Option Addr) (n c m : Nat) (ps : List Pr) (D : DataW Unit), i ≤ len0 ∧ i ≤ 50 ∧ m ≤ i ∧ s5 = .int .i64 (i : Int) ∧ s3 = .slice A n c ∧ Hid (Last7 w wr A n c B m ps D)) (fun _ s5 _ => 100 - (intOf s5).toNat)
  case atStart => exact ⟨0, _, _, _, 0, _, _, Nat.zero_le _, by omega, Nat.le_refl _, rfl, rfl, HSS⟩
  case round =>
    clear HSS
    obtain ⟨i, A, n, c, m, ps, D, hi, hi50, hmi, rfl, rfl, HS⟩ := hrel
    by_cases hlt : i < len0 ∧ i < 50
    · obtain ⟨hlt, h50⟩ := hlt
      have hn : ps.length = n := HS.out.r.length
      have hn8 : n ≤ 8 := by have := HS.out.inv.few; omega
      have hk1 : (i : Int) < (len0 : Int) := by omega
      have hk2 : (i : Int) < 50 := by omega
      have hu8 : IntKind.u8.wrap (i : Int) = (i : Int) := IntWalk.u8_in _ (by omega)
      have hwi8 : (Lit.int .u8 (i : Int)).wf = true := Ml.wf8 i h50
      have hm : m < maxLen := by unfold maxLen; omega
      obtain ⟨z, hz⟩ : ∃ z, zs[i]? = some z := ⟨_, List.getElem?_eq_getElem (by have := HZL.out; omega)⟩
      have hzc := (HZ.out.below HS.out.bel).fit
      obtain ⟨b, o, rfl, _⟩ := hzc.int_at hlt
      have hc0 := hzc.int_cell hlt hz
      have hzlt := World.block_lt_of_cell? _ _ hc0
      have HZC : Hid (∀ wx, Below wr.heap.size wr wx → wx.cell? ⟨b, o + i, none⟩ = some (.int .i64 z)) := Lib.hid (fun wx hb => (hb.cell (p := ⟨b, o + i, none⟩) hzlt).trans hc0)
      clear hz hzc hzlt
      go_wp2_with fail
      refine (keys_any _ _).mono ?_
      rintro e w1 ⟨kk, Ak, ck, rfl, hrk, hbk, hk9, hb1⟩
      have HBK := Lib.hid hbk
      have HB1 := Lib.hid hb1
      have HRK := Lib.hid hrk
      have hc1 := HZC.out _ hb1
      have hs1 := str_of (c := ck) hrk
      have HKEY := Lib.hid (Ml.keyOf_mk (k := kk) (by omega))
      have HBW := Lib.hid (HS.out.bel.trans (hb1.mono HS.out.bel.size))
      have HM1 := Lib.hid (HS.out.map.below hb1)
      obtain ⟨q, hq⟩ : ∃ q, decide (kk ∈ Mp.keys ps) = q := ⟨_, rfl⟩
      have hhas := HS.out.tie.has kk hbk
      rw [hq] at hhas
      have HQQ := Lib.hid hq
      have e3 := and_3 z
      clear hbk hb1 hrk hc0 hq
      go_upto_if 48 with (first
        | (at_lookup; refine wpList_lookup_own_ok_int _ rfl _ _ 42 rfl 9 5 .u8 Ml.law Try.underlying42 Try.underlying5 (Ml.zeroB _) B m D rfl HM1.out _ _ rfl HKEY.out ?_; intro cc hat hwc; rw [hhas])
        | fail)
      clear hhas hs1 hc1
      go_cut [3, 10, 11, 12, 13] from 48 to 108 (fun s3 s10 s11 s12 s13 wx => ∃ (A' : Option Addr) (n' c' m' : Nat) (ps' : List Pr) (D' : DataW Unit), s3 = .slice A' n' c' ∧ m' ≤ i + 1 ∧ Hid (Last7 w wx A' n' c' B m' ps' D'))
      case first =>
        by_cases hz2 : z % 4 < 2
        · have hri : Rd (w1.alloc (.cells #[.int .u8 (i : Int)] 5)) (w1.heap.size + 1) (some ⟨w1.heap.size, 0, none⟩) 1 (bv [i]) := Rd.made w1 #[.int .u8 (i : Int)] 5 (0, 0) 1 rfl
          have hbi : Below w1.heap.size w1 (w1.alloc (.cells #[.int .u8 (i : Int)] 5)) := (Below.refl _ _).alloc (Nat.le_refl _) _
          have HRI := Lib.hid hri
          have HBI := Lib.hid hbi
          clear hri hbi
          by_cases h8 : kk.length ≤ 8
          · have h8i : (kk.length : Int) ≤ 8 := by omega
            have hlong : ¬ (8 < kk.length ∨ 16 < [i].length) := by simp; omega
            cases q with
            | true =>
              have hin : kk ∈ Mp.keys ps := of_decide_eq_true HQQ.out
              have HE := Lib.hid (show Mp.putE ps kk [i] = 0 from by unfold Mp.putE; rw [if_neg hlong, if_pos hin])
              clear hin hlong
              go_wp2_with (first
                | (go_at_call 6
                   refine (show Calls Try.prog 6 #[.slice A n c, .slice Ak kk.length ck, .slice (some ⟨w1.heap.size, 0, none⟩) 1 1] _ (GotPR w _ (Mp.putS ps kk [i]) 0 (Mp.putV ps kk [i]) (Mp.putN ps kk [i])) from by
                     have h := hP (W := w) (c := c) (c' := ck) (c'' := 1) HS.out.le HS.out.inv HBK.out (v := [i]) (by simp; omega) (by omega) (by omega) ((HS.out.r.below' HB1.out).below HBI.out) (HRK.out.below HBI.out) HRI.out (HBW.out.trans (HBI.out.mono HBW.out.size))
                     rw [HE.out] at h
                     exact h).mono ?_
                   rintro e w3 ⟨A1, c1, A3, c3, rfl, hq, hv, hB3, hb3⟩
                   unfold resV
                   have b4 : Below w3.heap.size w3 (w3.alloc (.cells #[.int .i64 0, .slice A3 (Mp.putV ps kk [i]).length c3, .int .i64 (Mp.putN ps kk [i])] 26)) := (Below.refl _ _).alloc (Nat.le_refl _) _
                   have hbw : Below wr.heap.size wr (w3.alloc (.cells #[.int .i64 0, .slice A3 (Mp.putV ps kk [i]).length c3, .int .i64 (Mp.putN ps kk [i])] 26)) := ((HB1.out.trans (HBI.out.mono HB1.out.size)).trans (hb3.mono (by have h1 := HB1.out.size; have h2 := HBI.out.size; omega))).trans (b4.mono (by have h1 := HB1.out.size; have h2 := HBI.out.size; have h3 := hb3.size; omega))
                   have hmap := HS.out.map.below hbw
                   have hmlen := fun ty => hmap.len (t := 42) (e := 5) Try.underlying42 ty
                   rw [HS.out.tie.size, hn] at hmlen
                   have hrk4 : Rd (w3.alloc (.cells #[.int .i64 0, .slice A3 (Mp.putV ps kk [i]).length c3, .int .i64 (Mp.putN ps kk [i])] 26)) _ Ak kk.length (bv kk) := (((HRK.out.below HBI.out).fit.below hb3).fit).below b4
                   have hs4 := str_of (c := ck) hrk4
                   have HMAP := Lib.hid hmap
                   have HQ := Lib.hid (hq.below b4)
                   have HBX := Lib.hid hbw
                   clear hq hv hB3 hb3 b4 hbw hmap hrk4)
                | (at_mapUpdate; refine wpList_mapUpdate_own _ rfl _ _ _ 42 rfl 9 5 Ml.law Try.underlying42 (plainElem Try.prog 5) B m D rfl HMAP.out hm _ _ _ rfl rfl HKEY.out _ [] (plainElem_int Try.underlying5 hwi8) ?_; intro u3 hown3 hg3)
                | fail)
              go_meet
              have h1 := HBX.out
              refine ⟨A1, _, c1, m + 1, _, D.put (Ml.key kk) (.lit (.int .u8 (i : Int))), rfl, by omega, Lib.hid ⟨HQ.out.rd.turned HMAP.out hown3 hg3, HQ.out.cap, HS.out.inv.put HBK.out (by simp; omega), (HS.out.bel.trans (h1.mono HS.out.bel.size)).grown hg3 (Nat.le_trans HS.out.bel.size h1.size) (fun k hk => by injection hk with hk; have := HS.out.base; omega), hown3, HS.out.tie.put (HS.out.map.tidy Ml.law) HS.out.inv HBK.out (by omega) HE.out, HS.out.base⟩⟩
            | false =>
              have hin : kk ∉ Mp.keys ps := of_decide_eq_false HQQ.out
              by_cases hf : 8 ≤ n
              · have HE := Lib.hid (show Mp.putE ps kk [i] = 3 from by unfold Mp.putE; rw [if_neg hlong, if_neg hin, if_pos (by omega)])
                have hfi : ¬ (n : Int) < 8 := by omega
                clear hin hlong hf
                go_wp2_with (first
                  | (go_at_call 6
                     refine (show Calls Try.prog 6 #[.slice A n c, .slice Ak kk.length ck, .slice (some ⟨w1.heap.size, 0, none⟩) 1 1] _ (GotPR w _ (Mp.putS ps kk [i]) 3 (Mp.putV ps kk [i]) (Mp.putN ps kk [i])) from by
                       have h := hP (W := w) (c := c) (c' := ck) (c'' := 1) HS.out.le HS.out.inv HBK.out (v := [i]) (by simp; omega) (by omega) (by omega) ((HS.out.r.below' HB1.out).below HBI.out) (HRK.out.below HBI.out) HRI.out (HBW.out.trans (HBI.out.mono HBW.out.size))
                       rw [HE.out] at h
                       exact h).mono ?_
                     rintro e w3 ⟨A1, c1, A3, c3, rfl, hq, hv, hB3, hb3⟩
                     unfold resV
                     have b4 : Below w3.heap.size w3 (w3.alloc (.cells #[.int .i64 3, .slice A3 (Mp.putV ps kk [i]).length c3, .int .i64 (Mp.putN ps kk [i])] 26)) := (Below.refl _ _).alloc (Nat.le_refl _) _
                     have hbw : Below wr.heap.size wr (w3.alloc (.cells #[.int .i64 3, .slice A3 (Mp.putV ps kk [i]).length c3, .int .i64 (Mp.putN ps kk [i])] 26)) := ((HB1.out.trans (HBI.out.mono HB1.out.size)).trans (hb3.mono (by have h1 := HB1.out.size; have h2 := HBI.out.size; omega))).trans (b4.mono (by have h1 := HB1.out.size; have h2 := HBI.out.size; have h3 := hb3.size; omega))
                     have hmap := HS.out.map.below hbw
                     have hmlen := fun ty => hmap.len (t := 42) (e := 5) Try.underlying42 ty
                     rw [HS.out.tie.size, hn] at hmlen
                     have hrk4 : Rd (w3.alloc (.cells #[.int .i64 3, .slice A3 (Mp.putV ps kk [i]).length c3, .int .i64 (Mp.putN ps kk [i])] 26)) _ Ak kk.length (bv kk) := (((HRK.out.below HBI.out).fit.below hb3).fit).below b4
                     have hs4 := str_of (c := ck) hrk4
                     have HMAP := Lib.hid hmap
                     have HQ := Lib.hid (hq.below b4)
                     have HBX := Lib.hid hbw
                     clear hq hv hB3 hb3 b4 hbw hmap hrk4)
                  | fail)
                go_meet
                have h1 := HBX.out
                have h2 := HQ.out
                rw [Mp.put_err (by rw [HE.out]; decide)] at h2 ⊢
                refine ⟨A1, _, c1, m + 1, ps, D, rfl, by omega, Lib.hid ⟨h2.rd, h2.cap, HS.out.inv, HS.out.bel.trans (h1.mono HS.out.bel.size), HMAP.out.mono (by omega), HS.out.tie, HS.out.base⟩⟩
              · have HE := Lib.hid (show Mp.putE ps kk [i] = 0 from by unfold Mp.putE; rw [if_neg hlong, if_neg hin, if_neg (by omega)])
                have hfi : (n : Int) < 8 := by omega
                clear hin hlong hf
                go_wp2_with (first
                  | (go_at_call 6
                     refine (show Calls Try.prog 6 #[.slice A n c, .slice Ak kk.length ck, .slice (some ⟨w1.heap.size, 0, none⟩) 1 1] _ (GotPR w _ (Mp.putS ps kk [i]) 0 (Mp.putV ps kk [i]) (Mp.putN ps kk [i])) from by
                       have h := hP (W := w) (c := c) (c' := ck) (c'' := 1) HS.out.le HS.out.inv HBK.out (v := [i]) (by simp; omega) (by omega) (by omega) ((HS.out.r.below' HB1.out).below HBI.out) (HRK.out.below HBI.out) HRI.out (HBW.out.trans (HBI.out.mono HBW.out.size))
                       rw [HE.out] at h
                       exact h).mono ?_
                     rintro e w3 ⟨A1, c1, A3, c3, rfl, hq, hv, hB3, hb3⟩
                     unfold resV
                     have b4 : Below w3.heap.size w3 (w3.alloc (.cells #[.int .i64 0, .slice A3 (Mp.putV ps kk [i]).length c3, .int .i64 (Mp.putN ps kk [i])] 26)) := (Below.refl _ _).alloc (Nat.le_refl _) _
                     have hbw : Below wr.heap.size wr (w3.alloc (.cells #[.int .i64 0, .slice A3 (Mp.putV ps kk [i]).length c3, .int .i64 (Mp.putN ps kk [i])] 26)) := ((HB1.out.trans (HBI.out.mono HB1.out.size)).trans (hb3.mono (by have h1 := HB1.out.size; have h2 := HBI.out.size; omega))).trans (b4.mono (by have h1 := HB1.out.size; have h2 := HBI.out.size; have h3 := hb3.size; omega))
                     have hmap := HS.out.map.below hbw
                     have hmlen := fun ty => hmap.len (t := 42) (e := 5) Try.underlying42 ty
                     rw [HS.out.tie.size, hn] at hmlen
                     have hrk4 : Rd (w3.alloc (.cells #[.int .i64 0, .slice A3 (Mp.putV ps kk [i]).length c3, .int .i64 (Mp.putN ps kk [i])] 26)) _ Ak kk.length (bv kk) := (((HRK.out.below HBI.out).fit.below hb3).fit).below b4
                     have hs4 := str_of (c := ck) hrk4
                     have HMAP := Lib.hid hmap
                     have HQ := Lib.hid (hq.below b4)
                     have HBX := Lib.hid hbw
                     clear hq hv hB3 hb3 b4 hbw hmap hrk4)
                  | (at_mapUpdate; refine wpList_mapUpdate_own _ rfl _ _ _ 42 rfl 9 5 Ml.law Try.underlying42 (plainElem Try.prog 5) B m D rfl HMAP.out hm _ _ _ rfl rfl HKEY.out _ [] (plainElem_int Try.underlying5 hwi8) ?_; intro u3 hown3 hg3)
                  | fail)
                go_meet
                have h1 := HBX.out
                refine ⟨A1, _, c1, m + 1, _, D.put (Ml.key kk) (.lit (.int .u8 (i : Int))), rfl, by omega, Lib.hid ⟨HQ.out.rd.turned HMAP.out hown3 hg3, HQ.out.cap, HS.out.inv.put HBK.out (by simp; omega), (HS.out.bel.trans (h1.mono HS.out.bel.size)).grown hg3 (Nat.le_trans HS.out.bel.size h1.size) (fun k hk => by injection hk with hk; have := HS.out.base; omega), hown3, HS.out.tie.put (HS.out.map.tidy Ml.law) HS.out.inv HBK.out (by omega) HE.out, HS.out.base⟩⟩
          · have h8i : ¬ (kk.length : Int) ≤ 8 := by omega
            have HE := Lib.hid (show Mp.putE ps kk [i] = 1 from by unfold Mp.putE; rw [if_pos (by omega)])
            go_wp2_with (first
              | (go_at_call 6
                 refine (show Calls Try.prog 6 #[.slice A n c, .slice Ak kk.length ck, .slice (some ⟨w1.heap.size, 0, none⟩) 1 1] _ (GotPR w _ (Mp.putS ps kk [i]) 1 (Mp.putV ps kk [i]) (Mp.putN ps kk [i])) from by
                   have h := hP (W := w) (c := c) (c' := ck) (c'' := 1) HS.out.le HS.out.inv HBK.out (v := [i]) (by simp; omega) (by omega) (by omega) ((HS.out.r.below' HB1.out).below HBI.out) (HRK.out.below HBI.out) HRI.out (HBW.out.trans (HBI.out.mono HBW.out.size))
                   rw [HE.out] at h
                   exact h).mono ?_
                 rintro e w3 ⟨A1, c1, A3, c3, rfl, hq, hv, hB3, hb3⟩
                 unfold resV
                 have b4 : Below w3.heap.size w3 (w3.alloc (.cells #[.int .i64 1, .slice A3 (Mp.putV ps kk [i]).length c3, .int .i64 (Mp.putN ps kk [i])] 26)) := (Below.refl _ _).alloc (Nat.le_refl _) _
                 have hbw : Below wr.heap.size wr (w3.alloc (.cells #[.int .i64 1, .slice A3 (Mp.putV ps kk [i]).length c3, .int .i64 (Mp.putN ps kk [i])] 26)) := ((HB1.out.trans (HBI.out.mono HB1.out.size)).trans (hb3.mono (by have h1 := HB1.out.size; have h2 := HBI.out.size; omega))).trans (b4.mono (by have h1 := HB1.out.size; have h2 := HBI.out.size; have h3 := hb3.size; omega))
                 have hmap := HS.out.map.below hbw
                 have hmlen := fun ty => hmap.len (t := 42) (e := 5) Try.underlying42 ty
                 rw [HS.out.tie.size, hn] at hmlen
                 have hrk4 : Rd (w3.alloc (.cells #[.int .i64 1, .slice A3 (Mp.putV ps kk [i]).length c3, .int .i64 (Mp.putN ps kk [i])] 26)) _ Ak kk.length (bv kk) := (((HRK.out.below HBI.out).fit.below hb3).fit).below b4
                 have hs4 := str_of (c := ck) hrk4
                 have HMAP := Lib.hid hmap
                 have HQ := Lib.hid (hq.below b4)
                 have HBX := Lib.hid hbw
                 clear hq hv hB3 hb3 b4 hbw hmap hrk4)
              | fail)
            go_meet
            have h1 := HBX.out
            have h2 := HQ.out
            rw [Mp.put_err (by rw [HE.out]; decide)] at h2 ⊢
            refine ⟨A1, _, c1, m + 1, ps, D, rfl, by omega, Lib.hid ⟨h2.rd, h2.cap, HS.out.inv, HS.out.bel.trans (h1.mono HS.out.bel.size), HMAP.out.mono (by omega), HS.out.tie, HS.out.base⟩⟩
        · cases q with
          | true =>
            have hin : kk ∈ Mp.keys ps := of_decide_eq_true HQQ.out
            have HE := Lib.hid (show Mp.getE ps kk = 0 from by unfold Mp.getE; rw [if_pos hin])
            clear hin
            go_wp2_with (first
              | (go_at_call 12
                 refine (show Calls Try.prog 12 #[.slice A n c, .slice Ak kk.length ck] _ (GotPR w _ (Mp.delS ps kk) 0 (Mp.getV ps kk) 0) from by
                   have h := hD (W := w) (c := c) (c' := ck) HS.out.le HS.out.inv HBK.out (by omega) (HS.out.r.below' HB1.out) HRK.out HBW.out
                   rw [HE.out] at h
                   exact h).mono ?_
                 rintro e w3 ⟨A1, c1, A3, c3, rfl, hq, hv, hB3, hb3⟩
                 unfold resV
                 have b4 : Below w3.heap.size w3 (w3.alloc (.cells #[.int .i64 0, .slice A3 (Mp.getV ps kk).length c3, .int .i64 0] 26)) := (Below.refl _ _).alloc (Nat.le_refl _) _
                 have hbw : Below wr.heap.size wr (w3.alloc (.cells #[.int .i64 0, .slice A3 (Mp.getV ps kk).length c3, .int .i64 0] 26)) := (HB1.out.trans (hb3.mono HB1.out.size)).trans (b4.mono (by have h1 := HB1.out.size; have h3 := hb3.size; omega))
                 have hmap := HS.out.map.below hbw
                 have hrk4 : Rd (w3.alloc (.cells #[.int .i64 0, .slice A3 (Mp.getV ps kk).length c3, .int .i64 0] 26)) _ Ak kk.length (bv kk) := ((HRK.out.below hb3).fit).below b4
                 have hs4 := str_of (c := ck) hrk4
                 have HMAP := Lib.hid hmap
                 have HQ := Lib.hid (hq.below b4)
                 have HBX := Lib.hid hbw
                 clear hq hv hB3 hb3 b4 hbw hmap hrk4)
              | (at_delete; refine wpList_delete_own _ rfl _ _ 42 9 rfl 5 Ml.law Try.underlying42 (plainElem Try.prog 5) B m D rfl HMAP.out _ _ rfl HKEY.out ?_; intro u3 hown3 hturn3)
              | fail)
            go_meet
            have h1 := HBX.out
            have hg3 := hturn3.grown
            refine ⟨A1, _, c1, m + 1, _, D.del (Ml.key kk), rfl, by omega, Lib.hid ⟨HQ.out.rd.turned HMAP.out hown3 hg3, HQ.out.cap, HS.out.inv.del, (HS.out.bel.trans (h1.mono HS.out.bel.size)).grown hg3 (Nat.le_trans HS.out.bel.size h1.size) (fun k hk => by injection hk with hk; have := HS.out.base; omega), hown3.mono (by omega), HS.out.tie.del (HS.out.map.tidy Ml.law) HS.out.inv HBK.out, HS.out.base⟩⟩
          | false =>
            have hin : kk ∉ Mp.keys ps := of_decide_eq_false HQQ.out
            have HE := Lib.hid (show Mp.getE ps kk = 5 from by unfold Mp.getE; rw [if_neg hin])
            clear hin
            go_wp2_with (first
              | (go_at_call 12
                 refine (show Calls Try.prog 12 #[.slice A n c, .slice Ak kk.length ck] _ (GotPR w _ (Mp.delS ps kk) 5 (Mp.getV ps kk) 0) from by
                   have h := hD (W := w) (c := c) (c' := ck) HS.out.le HS.out.inv HBK.out (by omega) (HS.out.r.below' HB1.out) HRK.out HBW.out
                   rw [HE.out] at h
                   exact h).mono ?_
                 rintro e w3 ⟨A1, c1, A3, c3, rfl, hq, hv, hB3, hb3⟩
                 unfold resV
                 have b4 : Below w3.heap.size w3 (w3.alloc (.cells #[.int .i64 5, .slice A3 (Mp.getV ps kk).length c3, .int .i64 0] 26)) := (Below.refl _ _).alloc (Nat.le_refl _) _
                 have hbw : Below wr.heap.size wr (w3.alloc (.cells #[.int .i64 5, .slice A3 (Mp.getV ps kk).length c3, .int .i64 0] 26)) := (HB1.out.trans (hb3.mono HB1.out.size)).trans (b4.mono (by have h1 := HB1.out.size; have h3 := hb3.size; omega))
                 have hmap := HS.out.map.below hbw
                 have hrk4 : Rd (w3.alloc (.cells #[.int .i64 5, .slice A3 (Mp.getV ps kk).length c3, .int .i64 0] 26)) _ Ak kk.length (bv kk) := ((HRK.out.below hb3).fit).below b4
                 have hs4 := str_of (c := ck) hrk4
                 have HMAP := Lib.hid hmap
                 have HQ := Lib.hid (hq.below b4)
                 have HBX := Lib.hid hbw
                 clear hq hv hB3 hb3 b4 hbw hmap hrk4)
              | (at_delete; refine wpList_delete_own _ rfl _ _ 42 9 rfl 5 Ml.law Try.underlying42 (plainElem Try.prog 5) B m D rfl HMAP.out _ _ rfl HKEY.out ?_; intro u3 hown3 hturn3)
              | fail)
            go_meet
            have h1 := HBX.out
            have hg3 := hturn3.grown
            refine ⟨A1, _, c1, m + 1, _, D.del (Ml.key kk), rfl, by omega, Lib.hid ⟨HQ.out.rd.turned HMAP.out hown3 hg3, HQ.out.cap, HS.out.inv.del, (HS.out.bel.trans (h1.mono HS.out.bel.size)).grown hg3 (Nat.le_trans HS.out.bel.size h1.size) (fun k hk => by injection hk with hk; have := HS.out.base; omega), hown3.mono (by omega), HS.out.tie.del (HS.out.map.tidy Ml.law) HS.out.inv HBK.out, HS.out.base⟩⟩
      case rest =>
        obtain ⟨A2, n2, c2, m2, ps2, D2, rfl, hm2, HS2⟩ := hcut
        clear HS HM1 HBW HB1 HRK HBK HKEY HQQ HZC e3 hwi8 hu8 hn hn8
        rename World => w5
        have hn2 : ps2.length = n2 := HS2.out.r.length
        have hn28 : n2 ≤ 8 := by have := HS2.out.inv.few; omega
        have hml2 := fun ty => HS2.out.map.len (t := 42) (e := 5) Try.underlying42 ty
        rw [HS2.out.tie.size, hn2] at hml2
        go_wp2_with fail
        clear hml2
        go_loopw [14, 15, 16, 116] (fun s14 s15 s16 s116 wx => ∃ j : Nat, j ≤ n2 ∧ s116 = .int .i64 (j : Int) ∧ Hid (Last7 w wx A2 n2 c2 B m2 ps2 D2)) (fun _ _ _ s116 _ => n2 - (intOf s116).toNat)
        case atStart => exact ⟨0, Nat.zero_le _, rfl, HS2⟩
        case round =>
          clear HS2
          obtain ⟨j, hj, rfl, HS2⟩ := hrel
          by_cases hjl : j < n2
          · obtain ⟨b2, o2, p, A4, c4, A5, c5, rfl, hp, hcl4, hcl5, hr4, hr5⟩ := HS2.out.r.at hjl
            obtain ⟨x, hx, hpx, hax⟩ := HS2.out.tie.val p (List.mem_of_getElem? hp)
            have hin : p.1 ∈ Mp.keys ps2 := Mp.mem_keys.2 ⟨p, List.mem_of_getElem? hp, rfl⟩
            have hbp := (HS2.out.inv.byt p (List.mem_of_getElem? hp)).1
            have hhas := HS2.out.tie.has p.1 hbp
            rw [decide_eq_true hin] at hhas
            rw [hpx] at hr5 hcl5
            have hlen1 : ([x] : List Nat).length = 1 := rfl
            rw [hlen1] at hr5 hcl5
            obtain ⟨b5, o5, rfl, hlt5, hb5⟩ := hr5.2 (by omega)
            have hcx := hb5 0 (by omega)
            simp only [bv, Nat.add_zero, List.map_cons, List.map_nil, List.getElem?_cons_zero] at hcx
            have HKP := Lib.hid (Ml.keyOf_mk (k := p.1) (by have := (HS2.out.inv.len p (List.mem_of_getElem? hp)).1; omega))
            have hs4 := fun q => str_of (c := c4) (hr4.drewN q)
            have HM2 := Lib.hid HS2.out.map
            have HAX := Lib.hid hax
            have hs40 : (convert 24 9 (.slice A4 p.1.length c4)).run Try.prog wr = .ok (.string (strB p.1)) wr := hs4 0
            clear hin hb5 hlt5 hr4 hr5 hax hlen1 hpx
            cases j with
            | zero =>
              simp only [Nat.zero_mul, Nat.add_zero] at hcl4 hcl5
              go_upto_region 27 with (first
                | (at_lookup; refine wpList_lookup_own_ok_int _ rfl _ _ 42 rfl 9 5 .u8 Ml.law Try.underlying42 Try.underlying5 (Ml.zeroB _) B m2 D2 rfl HM2.out _ _ rfl HKP.out ?_; intro cc hat hwc; rw [hhas]; rw [HAX.out] at hat; obtain rfl : (x : Int) = cc := by (injection hat with hat; injection hat))
                | fail)
              clear hhas hs40
              go_quiet (fail)
              go_wp2_with fail
              go_roundw
              case rel => exact ⟨1, by omega, by go_num, Lib.hid (HS2.out.below (belowN_d nq))⟩
              case measure => simp [intOf]; omega
            | succ j =>
              obtain ⟨p0, hp0⟩ : ∃ p0, ps2[j]? = some p0 := ⟨_, List.getElem?_eq_getElem (by omega)⟩
              obtain ⟨_, _, p0', A6, c6, A7, c7, hae, hp0', hcl6, _, hr6, _⟩ := HS2.out.r.at (k := j) (by omega)
              injection hae with hae
              injection hae with hae1 hae2
              subst hae1 hae2
              rw [hp0] at hp0'
              injection hp0' with hp0'
              subst hp0'
              have hs6 := fun q => str_of (c := c6) (hr6.drewN q)
              have hltb := bytesLess_strB (HS2.out.inv.byt p0 (List.mem_of_getElem? hp0)).1 hbp
              have hrise : Mp.ltB p0.1 p.1 = true := by
                obtain ⟨h1, e1⟩ := List.getElem?_eq_some_iff.1 hp0
                obtain ⟨h2, e2⟩ := List.getElem?_eq_some_iff.1 hp
                have := List.pairwise_iff_getElem.1 HS2.out.inv.rise j (j + 1) h1 h2 (by omega)
                rwa [e1, e2] at this
              rw [hrise] at hltb
              have hsub : IntKind.i64.wrap (j : Int) = (j : Int) := IntWalk.i64_in _ (by omega)
              have hj0 : (0 : Int) < (j : Int) + 1 := by omega
              have hjn : (j : Int) < (n2 : Int) := by omega
              have hjn2 : (j : Int) + 1 < (n2 : Int) := by omega
              clear hr6 hp0 hrise
              go_upto_region 27 with (first
                | (at_lookup; refine wpList_lookup_own_ok_int _ rfl _ _ 42 rfl 9 5 .u8 Ml.law Try.underlying42 Try.underlying5 (Ml.zeroB _) B m2 D2 rfl HM2.out _ _ rfl HKP.out ?_; intro cc hat hwc; rw [hhas]; rw [HAX.out] at hat; obtain rfl : (x : Int) = cc := by (injection hat with hat; injection hat))
                | fail)
              clear hhas hs40
              go_quiet (fail)
              go_wp2_with fail
              go_roundw
              case rel => exact ⟨j + 2, by omega, by go_num, Lib.hid (HS2.out.below (belowN_d nq))⟩
              case measure => simp [intOf]; omega
          · obtain rfl : j = n2 := by omega
            go_wp2_with fail
            go_roundw
            case rel => exact ⟨i + 1, A2, j, c2, m2, ps2, D2, by omega, by omega, hm2, by go_num, rfl, HS2⟩
            case measure => simp [intOf]; omega
    · have hk1 : ¬ (i : Int) < (len0 : Int) ∨ ¬ (i : Int) < 50 := by omega
      by_cases hl : i < len0
      · have hk1 : (i : Int) < (len0 : Int) := by omega
        have hk2 : ¬ (i : Int) < 50 := by omega
        go_wp2_with (go_at_call 9; refine (hA _).mono ?_; rintro e w1 ⟨rfl, hb⟩)
        go_ret
        exact ⟨rfl, HS.out.bel.trans (hb.mono HS.out.bel.size)⟩
      · have hk1 : ¬ (i : Int) < (len0 : Int) := by omega
        go_wp2_with (go_at_call 9; refine (hA _).mono ?_; rintro e w1 ⟨rfl, hb⟩)
        go_ret
        exact ⟨rfl, HS.out.bel.trans (hb.mono HS.out.bel.size)⟩
end Go.Proofs.Ytmnfjobeaklokaa
