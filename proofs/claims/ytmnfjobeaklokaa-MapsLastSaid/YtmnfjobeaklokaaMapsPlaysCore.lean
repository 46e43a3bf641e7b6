/- MapsPlays: the walk, over any contracts of the code's. -/
import Derived.Test.YtmnfjobeaklokaaMapsC
import Derived.Deep.CutBlock
namespace Go.Proofs.Ytmnfjobeaklokaa
open Go.RowKit
set_option linter.unusedVariables false
/-- both maps read as ps -/
structure Two7 (w wr : World) (A A' : Option Addr) (n c c' : Nat) (ps : List Pr) : Prop where
  r1 : RdP wr wr.heap.size A n ps
  r2 : RdP wr wr.heap.size A' n ps
  le : n ≤ c
  le' : n ≤ c'
  inv : Mp.Inv ps
  bel : Below w.heap.size w wr
/-- the two answers to one step -/
structure Step7 (w wr : World) (f g : FuncId) (xs ys : Array Value) (ps2 : List Pr) (e N : Int) (v : List Nat) : Prop where
  ans : ∀ w', Below wr.heap.size wr w' → Calls Try.prog f xs w' (GotPR w w' ps2 e v N) ∧ Calls Try.prog g ys w' (GotPR w w' ps2 e v N)
  inv : Mp.Inv ps2
  val : ∀ x ∈ v, x < 256
theorem Mp.putV_byt {ps : List Pr} (h : Mp.Inv ps) (k v : List Nat) : ∀ x ∈ Mp.putV ps k v, x < 256 := by
  rcases Mp.putV_mem (ps := ps) (k := k) (v := v) with e | ⟨p, hp, e⟩
  · rw [e]; simp
  · rw [e]; exact (h.byt p hp).2
theorem Mp.getV_byt {ps : List Pr} (h : Mp.Inv ps) (k : List Nat) : ∀ x ∈ Mp.getV ps k, x < 256 := by
  rcases Mp.getV_mem (ps := ps) (k := k) with e | ⟨p, hp, e⟩
  · rw [e]; simp
  · rw [e]; exact (h.byt p hp).2
section
variable {w wr wk : World} {A A' Ak Av : Option Addr} {n c c' nk ck nv cv Bk Bv : Nat} {ps : List Pr} {k v : List Nat}
theorem Step7.put (hP : PutC7) (h : Two7 w wr A A' n c c' ps) (hbk : ∀ x ∈ k, x < 256) (hbv : ∀ x ∈ v, x < 256) (hnk : nk ≤ 100000) (hnv : nv ≤ 100000) (hwk : Below wr.heap.size wr wk) (hk : Rd wk wk.heap.size Ak nk (bv k)) (hv : Rd wk wk.heap.size Av nv (bv v)) :
    Step7 w wk 6 11 #[.slice A n c, .slice Ak nk ck, .slice Av nv cv] #[.slice A' n c', .slice Ak nk ck, .slice Av nv cv] (Mp.putS ps k v) (Mp.putE ps k v) (Mp.putN ps k v) (Mp.putV ps k v) := by
  have hl := h.r1.length
  have h8 := h.inv.few
  have hb : Below w.heap.size w wk := h.bel.trans (hwk.mono h.bel.size)
  exact ⟨fun w' hw => ⟨hP h.le h.inv hbk hbv hnk hnv ((h.r1.below' hwk).below hw) (hk.below hw) (hv.below hw) (hb.trans (hw.mono hb.size)),
    refPut_any (by omega) (inv_lim h.inv) h.inv.byt hbk h.inv.rise ((h.r2.below' hwk).below hw) (hk.below hw) (hv.below hw) (hb.trans (hw.mono hb.size))⟩, h.inv.put hbk hbv, Mp.putV_byt h.inv k v⟩
theorem Step7.del (hD : DelC7) (h : Two7 w wr A A' n c c' ps) (hbk : ∀ x ∈ k, x < 256) (hnk : nk ≤ 100000) (hwk : Below wr.heap.size wr wk) (hk : Rd wk wk.heap.size Ak nk (bv k)) :
    Step7 w wk 12 13 #[.slice A n c, .slice Ak nk ck] #[.slice A' n c', .slice Ak nk ck] (Mp.delS ps k) (Mp.getE ps k) 0 (Mp.getV ps k) := by
  have hl := h.r1.length
  have h8 := h.inv.few
  have hb : Below w.heap.size w wk := h.bel.trans (hwk.mono h.bel.size)
  exact ⟨fun w' hw => ⟨hD h.le h.inv hbk hnk ((h.r1.below' hwk).below hw) (hk.below hw) (hb.trans (hw.mono hb.size)),
    refDel_any (by omega) (inv_lim h.inv) h.inv.byt hbk ((h.r2.below' hwk).below hw) (hk.below hw) (hb.trans (hw.mono hb.size))⟩, h.inv.del, Mp.getV_byt h.inv k⟩
end
theorem samePairs_bel (w : World) {A A' : Option Addr} {n c n' c' B B' : Nat} {ps : List Pr} (hn : n ≤ 100000) (hb : BytesP ps) (h : RdP w B A n ps) (h' : RdP w B' A' n' ps) :
    Calls Try.prog 7 #[.slice A n c, .slice A' n' c'] w fun e w' => e = .returned (.bool true) ∧ Below w.heap.size w w' :=
  (samePairs_any w hn hb h h').mono fun e w' ⟨h1, m, h2⟩ => ⟨h1, by rw [h2]; exact belowN_d m⟩
set_option maxHeartbeats 8000000 in
set_option maxRecDepth 100000 in
theorem mapsPlays_core (hP : PutC7) (hG : GetC7) (hD : DelC7) (hA : AwakeC7) (a0 : Option Addr) (len0 cap0 : Nat) (z0 : List Int) (a1 : Option Addr) (len1 cap1 : Nat) (z1 : List (List Nat)) (w : World) (w0 : IsRow .i64 w a0 len0 cap0 z0) (w1 : IsRowQ w a1 len1 cap1 z1) :
    Calls Try.prog 4 #[.slice a0 len0 cap0, .slice a1 len1 cap1] w fun e w' => e = .returned (.bool true) ∧ Below w.heap.size w w' := by
  obtain ⟨hz, hzl, hle0, hcap0⟩ := w0.ints
  obtain ⟨zs, hzs⟩ : ∃ zs, zs = z0.take len0 := ⟨_, rfl⟩
  rw [← hzs] at hz hzl
  obtain ⟨hr1, hle1, hcap1, hby⟩ := w1
  have hn0 : len0 ≤ 9223372036854775807 := Nat.le_trans hle0 hcap0
  have hn1 : len1 ≤ 9223372036854775807 := Nat.le_trans hle1 hcap1
  have HZ := Lib.hid hz
  have HZL := Lib.hid hzl
  have HR := Lib.hid hr1
  have HL1 := Lib.hid hr1.length
  have HBY := Lib.hid hby
  clear w0 hcap0 hcap1 hzs hz hzl hr1 hby
  go_enter Try.func4, Try.ntmps4
  go_wp2
  go_loopw [15] (fun s15 wr => ∃ k : Nat, k ≤ len1 ∧ s15 = .int .i64 (k : Int) ∧ Hid (∀ (j : Nat) (l : List Nat), j < k → z1[j]? = some l → l.length ≤ 60) ∧ Hid (Below w.heap.size w wr)) (fun s15 _ => len1 - (intOf s15).toNat)
  case atStart => exact ⟨0, Nat.zero_le _, rfl, Lib.hid (fun j _ hj => absurd hj (by omega)), Lib.hid (Below.refl _ _)⟩
  case round =>
    obtain ⟨k, hk, rfl, HS, HB⟩ := hrel
    by_cases hlt : k < len1
    · obtain ⟨b, o, l, A1, c1, rfl, hl, hcell, hrd⟩ := ((HR.out.below HB.out).fit).at hlt
      have HL := Lib.hid hl
      clear hl hrd
      have hv : IntKind.i64.wrap ((k : Int) + 1) = (k : Int) + 1 := IntWalk.i64_in _ (by omega)
      by_cases h60 : 60 < l.length
      · go_wp2_with (go_at_call 9; refine (hA _).mono ?_; rintro e w1 ⟨rfl, hb⟩)
        go_ret
        exact ⟨rfl, HB.out.trans (hb.mono HB.out.size)⟩
      · go_wp2
        go_roundw
        case rel =>
          refine ⟨k + 1, by omega, by go_num, Lib.hid (fun j l' hj hl' => ?_), HB⟩
          rcases Nat.lt_or_ge j k with h1 | h1
          · exact HS.out j l' h1 hl'
          · obtain rfl : j = k := by omega
            rw [HL.out] at hl'
            injection hl' with hl'
            subst hl'
            omega
        case measure => simp [intOf]; omega
    · obtain rfl : len1 = k := by omega
      have HSH : Hid (∀ l ∈ z1, l.length ≤ 60) := Lib.hid (fun l hl => by
        obtain ⟨j, hj, e⟩ := List.getElem_of_mem hl
        exact HS.out j l (by rw [← HL1.out]; exact hj) (by rw [List.getElem?_eq_getElem hj, e]))
      have HT2 : Hid (Two7 w wr none none 0 0 0 []) := Lib.hid ⟨RdP.nil _ _ _, RdP.nil _ _ _, Nat.le_refl _, Nat.le_refl _, Mp.Inv.nil, HB.out⟩
      clear HS HB hlt hk
      rename World => u
      go_wp2
      go_loopw [5, 6, 8] (fun s5 s6 s8 wr => ∃ (i : Nat) (A A' : Option Addr) (n c c' : Nat) (ps : List Pr), i ≤ len0 ∧ s8 = .int .i64 (i : Int) ∧ s5 = .slice A n c ∧ s6 = .slice A' n c' ∧ Hid (Two7 w wr A A' n c c' ps)) (fun _ _ s8 _ => len0 - (intOf s8).toNat)
      case atStart => exact ⟨0, _, _, _, _, _, _, Nat.zero_le _, rfl, rfl, rfl, HT2⟩
      case round =>
        clear HT2
        obtain ⟨i, A, A', n, c, c', ps, hi, rfl, rfl, rfl, HT2⟩ := hrel
        by_cases hlt : i < len0 ∧ i < 50
        · obtain ⟨hlt, h50⟩ := hlt
          have hk1 : (i : Int) < (len0 : Int) := by omega
          have hk2 : (i : Int) < 50 := by omega
          have hwi : IntKind.i64.wrap ((i : Int) + 1) = (i : Int) + 1 := IntWalk.i64_in _ (by omega)
          have hu8 : IntKind.u8.wrap (i : Int) = (i : Int) := IntWalk.u8_in _ (by omega)
          have HBw := Lib.hid HT2.out.bel
          obtain ⟨z, hz⟩ : ∃ z, zs[i]? = some z := ⟨_, List.getElem?_eq_getElem (by have := HZL.out; omega)⟩
          have hzc := (HZ.out.below HBw.out).fit
          obtain ⟨b, o, rfl, _⟩ := hzc.int_at hlt
          have hc0 := hzc.int_cell hlt hz
          have hzlt := World.block_lt_of_cell? _ _ hc0
          have HZC : Hid (∀ wx, Below wr.heap.size wr wx → wx.cell? ⟨b, o + i, none⟩ = some (.int .i64 z)) := Lib.hid (fun wx hb => (hb.cell (p := ⟨b, o + i, none⟩) hzlt).trans hc0)
          clear hz hzc
          go_wp2_with fail
          refine (keys_any _ _).mono ?_
          rintro e w1 ⟨kk, Ak, ck, rfl, hrk, hbk, hk9, hb1⟩
          have HBK := Lib.hid hbk
          have hb1' : Below wr.heap.size wr (w1.alloc (.cells #[.int .u8 (i : Int)] 5)) := hb1.alloc hb1.size _
          have HB1 := Lib.hid hb1'
          have HRK := Lib.hid ((hrk.alloc (Nat.le_refl _) (.cells #[.int .u8 (i : Int)] 5)).fit)
          have hR0 : Rd (w1.alloc (.cells #[.int .u8 (i : Int)] 5)) (w1.heap.size + 1) (some ⟨w1.heap.size, 0, none⟩) 1 (bv [i]) := Rd.made w1 #[.int .u8 (i : Int)] 5 (0, 0) 1 rfl
          have HR0 := Lib.hid hR0.fit
          have hc1 := HZC.out _ hb1'
          clear hc0 hbk hb1 hb1' hrk hR0 hzlt
          go_upto_if 47 with fail
          go_cut [10] from 47 to 59 (fun s10 wx => ∃ (Av : Option Addr) (nv cv : Nat) (v : List Nat), s10 = .slice Av nv cv ∧ wx = w1.alloc (.cells #[.int .u8 (i : Int)] 5) ∧ Hid (Rd wx wx.heap.size Av nv (bv v)) ∧ Hid (∀ x ∈ v, x < 256) ∧ nv ≤ 60)
          case first =>
            by_cases hp2 : 0 < len1
            · have hp2i : (0 : Int) < (len1 : Int) := by omega
              have e255 := and_255 (z / 64)
              obtain ⟨j, hj, hjl⟩ : ∃ j : Nat, z / 64 % 256 % (len1 : Int) = (j : Int) ∧ j < len1 := by
                have h1 := Int.emod_nonneg (z / 64 % 256) (show (len1 : Int) ≠ 0 by omega)
                have h2 := Int.emod_lt_of_pos (z / 64 % 256) (show 0 < (len1 : Int) by omega)
                exact ⟨(z / 64 % 256 % (len1 : Int)).toNat, by omega, by omega⟩
              have hB1w := HBw.out.trans (HB1.out.mono HBw.out.size)
              obtain ⟨b', o', l, A5, c5, rfl, hl, hcell, hrd⟩ := ((HR.out.below hB1w).fit).at hjl
              have hl60 := HSH.out l (List.mem_of_getElem? hl)
              have HLV := Lib.hid (HBY.out l (List.mem_of_getElem? hl))
              have HRD := Lib.hid hrd
              clear hl hrd hB1w
              go_wp2_with fail
              go_meet
              exact ⟨A5, l.length, c5, l, rfl, rfl, HRD, HLV, hl60⟩
            · have hp2i : ¬ (0 : Int) < (len1 : Int) := by omega
              go_wp2_with fail
              go_meet
              exact ⟨_, 1, 1, [i], rfl, rfl, HR0, Lib.hid (fun x hx => by simp at hx; omega), by omega⟩
          case rest =>
            obtain ⟨Av, nv, cv, v, rfl, rfl, HRV, HBV, hnv⟩ := hcut
            obtain ⟨wk, hwk⟩ : ∃ wk, wk = w1.alloc (.cells #[.int .u8 (i : Int)] 5) := ⟨_, rfl⟩
            rw [← hwk] at HRV HB1 HRK hc1 ⊢
            clear HR0 hwk
            have hB2 : Below wk.heap.size wk ((wk.alloc (.cells zeroR 26)).alloc (.cells zeroR 26)) := ((Below.refl _ _).alloc (Nat.le_refl _) _).alloc (by simp) _
            have hc2 := HZC.out _ (HB1.out.trans (hB2.mono HB1.out.size))
            have HB2 := Lib.hid hB2
            have HP0 := Lib.hid ((Blk.new wk 26 zeroR).alloc (.cells zeroR 26))
            have HQ0 : Hid (Blk ((wk.alloc (.cells zeroR 26)).alloc (.cells zeroR 26)) (wk.heap.size + 1) 26 zeroR) := Lib.hid (by have h := Blk.new (wk.alloc (.cells zeroR 26)) 26 zeroR; rwa [show (wk.alloc (.cells zeroR 26)).heap.size = wk.heap.size + 1 by simp] at h)
            have e3 := and_3 z
            have hnk : kk.length ≤ 100000 := by omega
            have hnv' : nv ≤ 100000 := by omega
            have hBwk : Below w.heap.size w wk := HBw.out.trans (HB1.out.mono HBw.out.size)
            have HBwk := Lib.hid hBwk
            have hne : wk.heap.size + 1 ≠ wk.heap.size := by omega
            clear hc1 hB2 hBwk
            have HM := Lib.hid (show z % 4 = 0 ∨ z % 4 = 1 ∨ z % 4 = 2 ∨ z % 4 = 3 by omega)
            rcases HM.out with hm | hm | hm | hm
            · have hm0 : (z % 4 == 0) = true := by simp [hm]
              have hm1 : (z % 4 == 1) = false := by simp [hm]
              have hm2 : (z % 4 == 2) = false := by simp [hm]
              have HMM := Lib.hid hm
              clear hm
              obtain ⟨ps2, e2, N2, v2, HC⟩ : ∃ (ps2 : List Pr) (e2 N2 : Int) (v2 : List Nat), Hid (Step7 w wk 6 11 #[.slice A n c, .slice Ak kk.length ck, .slice Av nv cv] #[.slice A' n c', .slice Ak kk.length ck, .slice Av nv cv] ps2 e2 N2 v2) := ⟨_, _, _, _, Lib.hid (Step7.put hP HT2.out HBK.out HBV.out hnk hnv' HB1.out HRK.out HRV.out)⟩
              clear HT2
              go_upto_region 20 with fail
              go_wp2_with fail
              refine ((HC.out.ans _ HB2.out).1).mono ?_
              rintro e w1 ⟨A1, c1, A3, c3, rfl, hq1, hv1, hB1, hb1⟩
              unfold resV
              have HP1 := Lib.hid (HP0.out.below hb1)
              have HQ1 := Lib.hid (HQ0.out.below hb1)
              obtain ⟨x0, x1, x2, f0, f1, f2⟩ := three HP1.out
              obtain ⟨k1, k2, k3⟩ := put3 HP1.out (.int .i64 e2) (.slice A3 v2.length c3) (.int .i64 N2)
              have HQ2 := Lib.hid ((((HQ1.out.set_other (i := 0) (u := .int .i64 e2) hne).set_other (i := 1) (u := .slice A3 v2.length c3) hne).set_other (i := 2) (u := .int .i64 N2) hne))
              have HX := Lib.hid (And.intro (hq1.put3 HP1.out (by decide) (by decide) (.int .i64 e2) (.slice A3 v2.length c3) (.int .i64 N2)) (And.intro (k3 _ _ _ _ _ _ hv1 (by decide)) (And.intro k1 (And.intro (k2 w HBwk.out.size hB1) (k2 wk (Nat.le_refl _) (HB2.out.trans (hb1.mono HB2.out.size)))))))
              clear k1 k2 k3 hq1 hv1 hB1 hb1
              go_wp2_with fail
              refine ((HC.out.ans _ HX.out.2.2.2.2).2).mono ?_
              rintro e w3 ⟨A2, c2, A4, c4, rfl, hq3, hv3, hB3, hb3⟩
              unfold resV
              clear x0 x1 x2 f0 f1 f2
              have HP4 := Lib.hid (HX.out.2.2.1.below hb3)
              have HQ4 := Lib.hid (HQ2.out.below hb3)
              obtain ⟨x0, x1, x2, f0, f1, f2⟩ := three HQ4.out
              obtain ⟨k1, k2, k3⟩ := put3 HQ4.out (.int .i64 e2) (.slice A4 v2.length c4) (.int .i64 N2)
              have hP5 := ((HP4.out.set_other (i := 0) (u := .int .i64 e2) hne.symm).set_other (i := 1) (u := .slice A4 v2.length c4) hne.symm).set_other (i := 2) (u := .int .i64 N2) hne.symm
              have hX : OwnP w _ A1 ps2.length c1 ps2 ∧ OwnP w _ A2 ps2.length c2 ps2 ∧ OwnB w _ A3 v2.length c3 v2 ∧ OwnB w _ A4 v2.length c4 v2 ∧ Below w.heap.size w _ :=
                ⟨(HX.out.1.below hb3).put3 HQ4.out (by decide) (by decide) (.int .i64 e2) (.slice A4 v2.length c4) (.int .i64 N2), hq3.put3 HQ4.out (by decide) (by decide) (.int .i64 e2) (.slice A4 v2.length c4) (.int .i64 N2), k3 _ _ _ _ _ _ (own_below HX.out.2.1 hb3) (by decide), k3 _ _ _ _ _ _ hv3 (by decide), k2 w (Nat.le_trans HBwk.out.size (by omega)) hB3⟩
              have HY := Lib.hid hX
              obtain ⟨y0, y1, y2, _, _, _⟩ := three hP5
              obtain ⟨z0', z1', z2', _, _, _⟩ := three k1
              clear HX hP5 k1 k2 k3 hq3 hv3 hB3 hb3 hX HP4 HQ4 HP1 HQ1 HQ2 hc2 HP0 HQ0
              go_wp2_with fail
              refine (same_is _ e2 N2 HC.out.val (Rd.own_ HY.out.2.2.1) (Rd.own_ HY.out.2.2.2.1)).mono ?_
              rintro e v3 ⟨rfl, j1⟩
              go_wp2_with fail
              refine (samePairs_bel _ (by have := HC.out.inv.few; omega) HC.out.inv.byt ((HY.out.1.rd).below j1) ((HY.out.2.1.rd).below j1)).mono ?_
              rintro e v4 ⟨rfl, j2⟩
              go_wp2
              go_roundw
              case rel =>
                have j3 := j1.trans (j2.mono j1.size)
                exact ⟨i + 1, _, _, _, _, _, ps2, by omega, by go_num, rfl, rfl, Lib.hid ⟨(HY.out.1.rd.below j3).fit, (HY.out.2.1.rd.below j3).fit, HY.out.1.cap, HY.out.2.1.cap, HC.out.inv, HY.out.2.2.2.2.trans (j3.mono HY.out.2.2.2.2.size)⟩⟩
              case measure => simp [intOf]; omega
            · have hm0 : (z % 4 == 0) = false := by simp [hm]
              have hm1 : (z % 4 == 1) = true := by simp [hm]
              have hm2 : (z % 4 == 2) = false := by simp [hm]
              have HMM := Lib.hid hm
              clear hm
              obtain ⟨ps2, e2, N2, v2, HC⟩ : ∃ (ps2 : List Pr) (e2 N2 : Int) (v2 : List Nat), Hid (Step7 w wk 6 11 #[.slice A n c, .slice Ak kk.length ck, .slice Av nv cv] #[.slice A' n c', .slice Ak kk.length ck, .slice Av nv cv] ps2 e2 N2 v2) := ⟨_, _, _, _, Lib.hid (Step7.put hP HT2.out HBK.out HBV.out hnk hnv' HB1.out HRK.out HRV.out)⟩
              clear HT2
              go_upto_region 20 with fail
              go_wp2_with fail
              refine ((HC.out.ans _ HB2.out).1).mono ?_
              rintro e w1 ⟨A1, c1, A3, c3, rfl, hq1, hv1, hB1, hb1⟩
              unfold resV
              have HP1 := Lib.hid (HP0.out.below hb1)
              have HQ1 := Lib.hid (HQ0.out.below hb1)
              obtain ⟨x0, x1, x2, f0, f1, f2⟩ := three HP1.out
              obtain ⟨k1, k2, k3⟩ := put3 HP1.out (.int .i64 e2) (.slice A3 v2.length c3) (.int .i64 N2)
              have HQ2 := Lib.hid ((((HQ1.out.set_other (i := 0) (u := .int .i64 e2) hne).set_other (i := 1) (u := .slice A3 v2.length c3) hne).set_other (i := 2) (u := .int .i64 N2) hne))
              have HX := Lib.hid (And.intro (hq1.put3 HP1.out (by decide) (by decide) (.int .i64 e2) (.slice A3 v2.length c3) (.int .i64 N2)) (And.intro (k3 _ _ _ _ _ _ hv1 (by decide)) (And.intro k1 (And.intro (k2 w HBwk.out.size hB1) (k2 wk (Nat.le_refl _) (HB2.out.trans (hb1.mono HB2.out.size)))))))
              clear k1 k2 k3 hq1 hv1 hB1 hb1
              go_wp2_with fail
              refine ((HC.out.ans _ HX.out.2.2.2.2).2).mono ?_
              rintro e w3 ⟨A2, c2, A4, c4, rfl, hq3, hv3, hB3, hb3⟩
              unfold resV
              clear x0 x1 x2 f0 f1 f2
              have HP4 := Lib.hid (HX.out.2.2.1.below hb3)
              have HQ4 := Lib.hid (HQ2.out.below hb3)
              obtain ⟨x0, x1, x2, f0, f1, f2⟩ := three HQ4.out
              obtain ⟨k1, k2, k3⟩ := put3 HQ4.out (.int .i64 e2) (.slice A4 v2.length c4) (.int .i64 N2)
              have hP5 := ((HP4.out.set_other (i := 0) (u := .int .i64 e2) hne.symm).set_other (i := 1) (u := .slice A4 v2.length c4) hne.symm).set_other (i := 2) (u := .int .i64 N2) hne.symm
              have hX : OwnP w _ A1 ps2.length c1 ps2 ∧ OwnP w _ A2 ps2.length c2 ps2 ∧ OwnB w _ A3 v2.length c3 v2 ∧ OwnB w _ A4 v2.length c4 v2 ∧ Below w.heap.size w _ :=
                ⟨(HX.out.1.below hb3).put3 HQ4.out (by decide) (by decide) (.int .i64 e2) (.slice A4 v2.length c4) (.int .i64 N2), hq3.put3 HQ4.out (by decide) (by decide) (.int .i64 e2) (.slice A4 v2.length c4) (.int .i64 N2), k3 _ _ _ _ _ _ (own_below HX.out.2.1 hb3) (by decide), k3 _ _ _ _ _ _ hv3 (by decide), k2 w (Nat.le_trans HBwk.out.size (by omega)) hB3⟩
              have HY := Lib.hid hX
              obtain ⟨y0, y1, y2, _, _, _⟩ := three hP5
              obtain ⟨z0', z1', z2', _, _, _⟩ := three k1
              clear HX hP5 k1 k2 k3 hq3 hv3 hB3 hb3 hX HP4 HQ4 HP1 HQ1 HQ2 hc2 HP0 HQ0
              go_wp2_with fail
              refine (same_is _ e2 N2 HC.out.val (Rd.own_ HY.out.2.2.1) (Rd.own_ HY.out.2.2.2.1)).mono ?_
              rintro e v3 ⟨rfl, j1⟩
              go_wp2_with fail
              refine (samePairs_bel _ (by have := HC.out.inv.few; omega) HC.out.inv.byt ((HY.out.1.rd).below j1) ((HY.out.2.1.rd).below j1)).mono ?_
              rintro e v4 ⟨rfl, j2⟩
              go_wp2
              go_roundw
              case rel =>
                have j3 := j1.trans (j2.mono j1.size)
                exact ⟨i + 1, _, _, _, _, _, ps2, by omega, by go_num, rfl, rfl, Lib.hid ⟨(HY.out.1.rd.below j3).fit, (HY.out.2.1.rd.below j3).fit, HY.out.1.cap, HY.out.2.1.cap, HC.out.inv, HY.out.2.2.2.2.trans (j3.mono HY.out.2.2.2.2.size)⟩⟩
              case measure => simp [intOf]; omega
            · have hm0 : (z % 4 == 0) = false := by simp [hm]
              have hm1 : (z % 4 == 1) = false := by simp [hm]
              have hm2 : (z % 4 == 2) = true := by simp [hm]
              have HMM := Lib.hid hm
              clear hm
              obtain ⟨ps2, e2, N2, v2, HC⟩ : ∃ (ps2 : List Pr) (e2 N2 : Int) (v2 : List Nat), Hid (Step7 w wk 12 13 #[.slice A n c, .slice Ak kk.length ck] #[.slice A' n c', .slice Ak kk.length ck] ps2 e2 N2 v2) := ⟨_, _, _, _, Lib.hid (Step7.del hD HT2.out HBK.out hnk HB1.out HRK.out)⟩
              clear HT2
              go_upto_region 23 with fail
              go_wp2_with fail
              refine ((HC.out.ans _ HB2.out).1).mono ?_
              rintro e w1 ⟨A1, c1, A3, c3, rfl, hq1, hv1, hB1, hb1⟩
              unfold resV
              have HP1 := Lib.hid (HP0.out.below hb1)
              have HQ1 := Lib.hid (HQ0.out.below hb1)
              obtain ⟨x0, x1, x2, f0, f1, f2⟩ := three HP1.out
              obtain ⟨k1, k2, k3⟩ := put3 HP1.out (.int .i64 e2) (.slice A3 v2.length c3) (.int .i64 N2)
              have HQ2 := Lib.hid ((((HQ1.out.set_other (i := 0) (u := .int .i64 e2) hne).set_other (i := 1) (u := .slice A3 v2.length c3) hne).set_other (i := 2) (u := .int .i64 N2) hne))
              have HX := Lib.hid (And.intro (hq1.put3 HP1.out (by decide) (by decide) (.int .i64 e2) (.slice A3 v2.length c3) (.int .i64 N2)) (And.intro (k3 _ _ _ _ _ _ hv1 (by decide)) (And.intro k1 (And.intro (k2 w HBwk.out.size hB1) (k2 wk (Nat.le_refl _) (HB2.out.trans (hb1.mono HB2.out.size)))))))
              clear k1 k2 k3 hq1 hv1 hB1 hb1
              go_wp2_with fail
              refine ((HC.out.ans _ HX.out.2.2.2.2).2).mono ?_
              rintro e w3 ⟨A2, c2, A4, c4, rfl, hq3, hv3, hB3, hb3⟩
              unfold resV
              clear x0 x1 x2 f0 f1 f2
              have HP4 := Lib.hid (HX.out.2.2.1.below hb3)
              have HQ4 := Lib.hid (HQ2.out.below hb3)
              obtain ⟨x0, x1, x2, f0, f1, f2⟩ := three HQ4.out
              obtain ⟨k1, k2, k3⟩ := put3 HQ4.out (.int .i64 e2) (.slice A4 v2.length c4) (.int .i64 N2)
              have hP5 := ((HP4.out.set_other (i := 0) (u := .int .i64 e2) hne.symm).set_other (i := 1) (u := .slice A4 v2.length c4) hne.symm).set_other (i := 2) (u := .int .i64 N2) hne.symm
              have hX : OwnP w _ A1 ps2.length c1 ps2 ∧ OwnP w _ A2 ps2.length c2 ps2 ∧ OwnB w _ A3 v2.length c3 v2 ∧ OwnB w _ A4 v2.length c4 v2 ∧ Below w.heap.size w _ :=
                ⟨(HX.out.1.below hb3).put3 HQ4.out (by decide) (by decide) (.int .i64 e2) (.slice A4 v2.length c4) (.int .i64 N2), hq3.put3 HQ4.out (by decide) (by decide) (.int .i64 e2) (.slice A4 v2.length c4) (.int .i64 N2), k3 _ _ _ _ _ _ (own_below HX.out.2.1 hb3) (by decide), k3 _ _ _ _ _ _ hv3 (by decide), k2 w (Nat.le_trans HBwk.out.size (by omega)) hB3⟩
              have HY := Lib.hid hX
              obtain ⟨y0, y1, y2, _, _, _⟩ := three hP5
              obtain ⟨z0', z1', z2', _, _, _⟩ := three k1
              clear HX hP5 k1 k2 k3 hq3 hv3 hB3 hb3 hX HP4 HQ4 HP1 HQ1 HQ2 hc2 HP0 HQ0
              go_wp2_with fail
              refine (same_is _ e2 N2 HC.out.val (Rd.own_ HY.out.2.2.1) (Rd.own_ HY.out.2.2.2.1)).mono ?_
              rintro e v3 ⟨rfl, j1⟩
              go_wp2_with fail
              refine (samePairs_bel _ (by have := HC.out.inv.few; omega) HC.out.inv.byt ((HY.out.1.rd).below j1) ((HY.out.2.1.rd).below j1)).mono ?_
              rintro e v4 ⟨rfl, j2⟩
              go_wp2
              go_roundw
              case rel =>
                have j3 := j1.trans (j2.mono j1.size)
                exact ⟨i + 1, _, _, _, _, _, ps2, by omega, by go_num, rfl, rfl, Lib.hid ⟨(HY.out.1.rd.below j3).fit, (HY.out.2.1.rd.below j3).fit, HY.out.1.cap, HY.out.2.1.cap, HC.out.inv, HY.out.2.2.2.2.trans (j3.mono HY.out.2.2.2.2.size)⟩⟩
              case measure => simp [intOf]; omega
            · have hm0 : (z % 4 == 0) = false := by simp [hm]
              have hm1 : (z % 4 == 1) = false := by simp [hm]
              have hm2 : (z % 4 == 2) = false := by simp [hm]
              have HMM := Lib.hid hm
              clear hm
              have hn8 := HT2.out.inv.few
              have hlen := HT2.out.r1.length
              have HB3 := Lib.hid (HB1.out.trans (HB2.out.mono HB1.out.size))
              have HW3 := Lib.hid (HBwk.out.trans (HB2.out.mono HBwk.out.size))
              have HRK3 := Lib.hid (HRK.out.below HB2.out)
              obtain ⟨E, hE⟩ : ∃ E, Mp.getE ps kk = E := ⟨_, rfl⟩
              obtain ⟨V, hV⟩ : ∃ V, Mp.getV ps kk = V := ⟨_, rfl⟩
              have HVB : Hid (∀ x ∈ V, x < 256) := Lib.hid (by rw [← hV]; exact Mp.getV_byt HT2.out.inv kk)
              have HG1 : Hid (Calls Try.prog 8 #[.slice A n c, .slice Ak kk.length ck] _ (GotR w _ E V 0)) := Lib.hid (by have h := hG (W := w) (c := c) (c' := ck) HT2.out.le HT2.out.inv HBK.out hnk (HT2.out.r1.below HB3.out) HRK3.out HW3.out; rw [hE, hV] at h; exact h)
              have HG2 : Hid (∀ wx, Below ((wk.alloc (.cells zeroR 26)).alloc (.cells zeroR 26)).heap.size ((wk.alloc (.cells zeroR 26)).alloc (.cells zeroR 26)) wx → Calls Try.prog 14 #[.slice A' n c', .slice Ak kk.length ck] wx (GotR w wx E V 0)) := Lib.hid (fun wx hb => by have h := refGet_any (W := w) (c := c') (c' := ck) (by omega) (inv_lim HT2.out.inv) HT2.out.inv.byt HBK.out ((HT2.out.r2.below' HB3.out).below hb) (HRK3.out.fit.below hb) (HW3.out.trans (hb.mono HW3.out.size)); rw [hE, hV] at h; exact h)
              clear hE hV
              go_upto_region 17 with fail
              go_wp2_with fail
              refine HG1.out.mono ?_
              rintro e w1 ⟨A3, c3, rfl, hv1, hB1, hb1⟩
              unfold resV
              go_wp2_with fail
              refine (HG2.out _ hb1).mono ?_
              rintro e w3 ⟨A4, c4, rfl, hv3, hB3, hb3⟩
              unfold resV
              have HP4 := Lib.hid ((HP0.out.below hb1).below hb3)
              have HQ4 := Lib.hid ((HQ0.out.below hb1).below hb3)
              obtain ⟨x0, x1, x2, f0, f1, f2⟩ := three HP4.out
              obtain ⟨y0, y1, y2, g0, g1, g2⟩ := three HQ4.out
              obtain ⟨k1, k2, k3⟩ := put3 HP4.out (.int .i64 E) (.slice A3 V.length c3) (.int .i64 0)
              have HQ5 := Lib.hid ((((HQ4.out.set_other (i := 0) (u := .int .i64 E) hne).set_other (i := 1) (u := .slice A3 V.length c3) hne).set_other (i := 2) (u := .int .i64 0) hne))
              obtain ⟨l1, l2, l3⟩ := put3 HQ5.out (.int .i64 E) (.slice A4 V.length c4) (.int .i64 0)
              have HP6 := Lib.hid (((k1.set_other (i := 0) (u := .int .i64 E) hne.symm).set_other (i := 1) (u := .slice A4 V.length c4) hne.symm).set_other (i := 2) (u := .int .i64 0) hne.symm)
              have HL1 := Lib.hid l1
              have HV1 := Lib.hid (l3 _ _ _ _ _ _ (k3 _ _ _ _ _ _ (own_below hv1 hb3) (by decide)) (by decide))
              have HV3 := Lib.hid (l3 _ _ _ _ _ _ (k3 _ _ _ _ _ _ hv3 (by decide)) (by decide))
              have HB6 := Lib.hid (l2 w (Nat.le_trans HBwk.out.size (by omega)) (k2 w HBwk.out.size hB3))
              have HK6 := Lib.hid (l2 wk (by omega) (k2 wk (Nat.le_refl _) ((HB2.out.trans (hb1.mono HB2.out.size)).trans (hb3.mono (Nat.le_trans HB2.out.size hb1.size)))))
              clear k1 k2 k3 l1 l2 l3 hv1 hB1 hv3 hB3 hb1 hb3 HP0 HQ0 HG1 HG2 HB3 hc2
              go_upto_region 25 with fail
              clear x0 x1 x2 f0 f1 f2 y0 y1 y2 g0 g1 g2
              obtain ⟨x0, x1, x2, _, _, _⟩ := three HP6.out
              obtain ⟨y0, y1, y2, _, _, _⟩ := three HL1.out
              go_wp2_with fail
              refine (same_is _ E 0 HVB.out (Rd.own_ HV1.out) (Rd.own_ HV3.out)).mono ?_
              rintro e v3 ⟨rfl, j1⟩
              go_wp2_with fail
              have HBr := Lib.hid (HB1.out.trans (HK6.out.mono HB1.out.size))
              refine (samePairs_bel _ (by omega) HT2.out.inv.byt ((HT2.out.r1.below' HBr.out).below j1) ((HT2.out.r2.below' HBr.out).below j1)).mono ?_
              rintro e v4 ⟨rfl, j2⟩
              go_wp2
              go_roundw
              case rel =>
                have j3 := j1.trans (j2.mono j1.size)
                exact ⟨i + 1, _, _, _, _, _, ps, by omega, by go_num, rfl, rfl, Lib.hid ⟨((HT2.out.r1.below' HBr.out).below j3).fit, ((HT2.out.r2.below' HBr.out).below j3).fit, HT2.out.le, HT2.out.le', HT2.out.inv, HB6.out.trans (j3.mono HB6.out.size)⟩⟩
              case measure => simp [intOf]; omega
        · by_cases hend : i < len0
          · have h40 : ¬ (i : Int) < 50 := by omega
            have hklt : (i : Int) < (len0 : Int) := by omega
            have HBw := Lib.hid HT2.out.bel
            go_wp2_with (go_at_call 9; refine (hA _).mono ?_; rintro e w9 ⟨rfl, hb⟩)
            go_ret
            exact ⟨rfl, HBw.out.trans (hb.mono HBw.out.size)⟩
          · have hklt : ¬ (i : Int) < (len0 : Int) := by omega
            have HBw := Lib.hid HT2.out.bel
            go_wp2_with (go_at_call 9; refine (hA _).mono ?_; rintro e w9 ⟨rfl, hb⟩)
            go_ret
            exact ⟨rfl, HBw.out.trans (hb.mono HBw.out.size)⟩
end Go.Proofs.Ytmnfjobeaklokaa
