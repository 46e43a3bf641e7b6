/- FifoPlays: the walk, over any two contracts of the code's. -/
import Derived.Test.YtogohlljkpchmaaFifoRef
import Derived.Test.YtogohlljkpchmaaSameRows
import Derived.Test.YtogohlljkpchmaaBitsKit
import Derived.Deep.CutBlock
namespace Go.Proofs.Ytogohlljkpchmaa
open Go.RowKit
set_option linter.unusedVariables false
/-- what the code's Push answers -/
def PushC : Prop := ∀ {W w : World} {qs : List (List Nat)} {v : List Nat} {A A' : Option Addr} {n c n' c' B B' : Nat}, n ≤ 100000 → LimL qs → Lim 0 n' → RdQ w B A n qs → Rd w B' A' n' (bv v) → Below W.heap.size W w →
    Calls Try.prog 7 #[.slice A n c, .slice A' n' c'] w (GotQR W w (pushS qs v) (pushE qs v) [] (pushN qs v))
/-- what the code's Pop answers -/
def PopC : Prop := ∀ {W w : World} {qs : List (List Nat)} {A : Option Addr} {n c B : Nat}, n ≤ 100000 → n ≤ c → LimL qs → RdQ w B A n qs → Below W.heap.size W w →
    Calls Try.prog 9 #[.slice A n c] w (GotQR W w qs.tail (popE qs) (popV qs) 0)
/-- what awake answers -/
def AwakeC : Prop := ∀ w : World, Calls Try.prog 10 #[] w fun e w' => e = .returned (.bool true) ∧ Below w.heap.size w w'
/-- both queues read as qs -/
structure Two (w wr : World) (A A' : Option Addr) (n c c' : Nat) (qs : List (List Nat)) : Prop where
  r1 : RdQ wr wr.heap.size A n qs
  r2 : RdQ wr wr.heap.size A' n qs
  le : n ≤ c
  le' : n ≤ c'
  few : n ≤ 12
  lim : LimL qs
  byt : BytesL qs
  bel : Below w.heap.size w wr
theorem OwnQ.cap {W w : World} {A : Option Addr} {n c : Nat} {qs : List (List Nat)} (h : OwnQ W w A n c qs) : n ≤ c := by
  obtain ⟨vs, h1, _⟩ := h
  exact (own_cap h1).1
/-- the two answers to one step -/
structure Step (w wr : World) (f g : FuncId) (xs ys : Array Value) (qs2 : List (List Nat)) (e N : Int) (v : List Nat) : Prop where
  ans : ∀ w', Below wr.heap.size wr w' → Calls Try.prog f xs w' (GotQR w w' qs2 e v N) ∧ Calls Try.prog g ys w' (GotQR w w' qs2 e v N)
  few : qs2.length ≤ 12
  lim : LimL qs2
  byt : BytesL qs2
  val : ∀ x ∈ v, x < 256
theorem Step.pop {w wr : World} {A A' : Option Addr} {n c c' : Nat} {qs : List (List Nat)} (hQ : PopC) (h : Two w wr A A' n c c' qs) :
    Step w wr 9 12 #[.slice A n c] #[.slice A' n c'] qs.tail (popE qs) 0 (popV qs) := by
  have h12 := h.few
  refine ⟨fun w' hb => ⟨hQ (by omega) h.le h.lim (h.r1.below hb) (h.bel.trans (hb.mono h.bel.size)), refPop_any (by omega) h.le' h.lim (h.r2.below hb) (h.bel.trans (hb.mono h.bel.size))⟩, ?_, fun l hl => h.lim l (List.mem_of_mem_tail hl), fun l hl => h.byt l (List.mem_of_mem_tail hl), ?_⟩
  · have := h.r1.length; simp; omega
  · unfold popV
    cases qs with
    | nil => intro x hx; simp at hx
    | cons a t => exact h.byt a (by simp)
theorem Step.push {w wr : World} {A A' A'' : Option Addr} {n c c' n'' c'' B : Nat} {qs : List (List Nat)} {v : List Nat} (hP : PushC) (h : Two w wr A A' n c c' qs) (hl : v.length ≤ 60) (hv : ∀ x ∈ v, x < 256) (hr : Rd wr B A'' n'' (bv v)) :
    Step w wr 7 11 #[.slice A n c, .slice A'' n'' c''] #[.slice A' n c', .slice A'' n'' c''] (pushS qs v) (pushE qs v) (pushN qs v) [] := by
  have h12 := h.few
  have hn := hr.length
  have hq := h.r1.length
  have hr := hr.fit
  have hL : Lim 0 n'' := by unfold Lim; omega
  refine ⟨fun w' hb => ⟨hP (by omega) h.lim hL (h.r1.below hb) (hr.below hb) (h.bel.trans (hb.mono h.bel.size)), refPush_any (by omega) h.lim hL (h.r2.below hb) (hr.below hb) (h.bel.trans (hb.mono h.bel.size))⟩, ?_, ?_, ?_, fun x hx => by cases hx⟩
  · unfold pushS; split
    · omega
    · split
      · omega
      · simp; omega
  · unfold pushS; split
    · exact h.lim
    · split
      · exact h.lim
      · intro l hl'; rcases List.mem_append.1 hl' with h1 | h1
        · exact h.lim l h1
        · simp at h1; subst h1; unfold Lim; omega
  · unfold pushS; split
    · exact h.byt
    · split
      · exact h.byt
      · intro l hl'; rcases List.mem_append.1 hl' with h1 | h1
        · exact h.byt l h1
        · simp at h1; subst h1; exact hv
set_option maxHeartbeats 4000000 in
set_option maxRecDepth 100000 in
theorem fifoPlays_core (hP : PushC) (hQ : PopC) (hA : AwakeC) (a0 : Option Addr) (len0 cap0 : Nat) (z0 : List Int) (a1 : Option Addr) (len1 cap1 : Nat) (z1 : List (List Nat)) (w : World) (w0 : IsRow .i64 w a0 len0 cap0 z0) (w1 : IsRowQ w a1 len1 cap1 z1) :
    Calls Try.prog 5 #[.slice a0 len0 cap0, .slice a1 len1 cap1] w fun e w' => e = .returned (.bool true) ∧ Below w.heap.size w w' := by
  obtain ⟨hz, hzl, hle0, hcap0⟩ := w0.ints
  obtain ⟨zs, hzs⟩ : ∃ zs, zs = z0.take len0 := ⟨_, rfl⟩
  rw [← hzs] at hz hzl
  obtain ⟨hr1, hle1, hcap1, hby⟩ := w1
  have hn0 : len0 ≤ 9223372036854775807 := Nat.le_trans hle0 hcap0
  have hn1 : len1 ≤ 9223372036854775807 := Nat.le_trans hle1 hcap1
  have hB0 := Below.refl w.heap.size w
  have HZ := Lib.hid hz
  have HR := Lib.hid hr1
  have HL1 := Lib.hid hr1.length
  have HBY := Lib.hid hby
  clear w0 hcap0 hcap1 hzs hz hr1 hby
  go_enter Try.func5, Try.ntmps5
  go_upto_if 14 with fail
  go_cut [5, 6] (fun s5 s6 wx => ∃ (A : Option Addr) (n c : Nat) (qs : List (List Nat)), s5 = .slice A n c ∧ s6 = .slice A n c ∧ RdQ wx wx.heap.size A n qs ∧ n ≤ c ∧ n ≤ 12 ∧ (∀ l ∈ qs, l ∈ z1) ∧ Below w.heap.size w wx)
  case first =>
    by_cases h12 : len1 ≤ 12
    · go_wp2
      go_meet
      exact ⟨_, _, _, _, rfl, rfl, HR.out, hle1, h12, fun l h => h, hB0⟩
    · go_wp2
      go_meet
      exact ⟨_, _, _, _, rfl, rfl, RdQ.nil _ _ _, Nat.le_refl _, by omega, fun l h => by simp at h, hB0⟩
  case rest =>
    obtain ⟨A, n, c, qs, rfl, rfl, hrd, hnc, h12, hsub, hB⟩ := hcut
    rename World => u
    have HRD := Lib.hid hrd
    have HSUB := Lib.hid hsub
    have HB := Lib.hid hB
    clear hrd hsub hB
    go_wp2
    go_loopw [19] (fun s19 wr => ∃ k : Nat, k ≤ len1 ∧ s19 = .int .i64 (k : Int) ∧ (∀ (j : Nat) (l : List Nat), j < k → z1[j]? = some l → l.length ≤ 60) ∧ Below u.heap.size u wr) (fun s19 _ => len1 - (intOf s19).toNat)
    case atStart => exact ⟨0, Nat.zero_le _, rfl, fun j _ hj => absurd hj (by omega), Below.refl _ _⟩
    case round =>
      obtain ⟨k, hk, rfl, hs, hbr⟩ := hrel
      have HS := Lib.hid hs
      clear hs
      by_cases hlt : k < len1
      · obtain ⟨b, o, l, A1, c1, rfl, hl, hcell, hrd⟩ := (((HR.out.below HB.out).fit).below hbr).at hlt
        have HL := Lib.hid hl
        clear hl hrd
        have hv : IntKind.i64.wrap ((k : Int) + 1) = (k : Int) + 1 := IntWalk.i64_in _ (by omega)
        by_cases h60 : 60 < l.length
        · go_wp2_with (go_at_call 10; refine (hA _).mono ?_; rintro e w1 ⟨rfl, hb⟩)
          go_ret
          exact ⟨rfl, HB.out.trans ((hbr.trans (hb.mono hbr.size)).mono HB.out.size)⟩
        · go_wp2
          go_roundw
          case rel =>
            refine ⟨k + 1, by omega, by go_num, fun j l' hj hl' => ?_, hbr⟩
            rcases Nat.lt_or_ge j k with h1 | h1
            · exact HS.out j l' h1 hl'
            · obtain rfl : j = k := by omega
              rw [HL.out] at hl'
              injection hl' with hl'
              subst hl'
              omega
          case measure => simp [intOf]; omega
      · have hkn : k = len1 := by omega
        rw [hkn]
        have HKN := Lib.hid hkn
        clear hkn hlt hk
        have hshort : ∀ l ∈ z1, l.length ≤ 60 := by
          intro l hl
          obtain ⟨i, hi, rfl⟩ := List.mem_iff_getElem.1 hl
          exact HS.out i _ (by have := HL1.out; have := HKN.out; omega) (List.getElem?_eq_getElem hi)
        have HTW : Hid (Two w wr A A n c c qs) := Lib.hid ⟨(HRD.out.below hbr).fit, (HRD.out.below hbr).fit, hnc, hnc, h12, fun l hl => by unfold Lim; have := hshort l (HSUB.out l hl); omega, fun l hl => HBY.out l (HSUB.out l hl), HB.out.trans (hbr.mono HB.out.size)⟩
        have HSH := Lib.hid hshort
        clear hshort HS HSUB hB0 HRD hbr hnc h12
        go_wp2
        rename World => u1
        go_loopw [5, 6, 8] (fun s5 s6 s8 wr => ∃ (k : Nat) (A A' : Option Addr) (n c c' : Nat) (qs : List (List Nat)), k ≤ len0 ∧ s8 = .int .i64 (k : Int) ∧ s5 = .slice A n c ∧ s6 = .slice A' n c' ∧ Hid (Two w wr A A' n c c' qs)) (fun _ _ s8 _ => len0 - (intOf s8).toNat)
        case atStart => exact ⟨0, _, _, _, _, _, _, Nat.zero_le _, rfl, rfl, rfl, HTW⟩
        case round =>
          clear HTW
          obtain ⟨k, A, A', n, c, c', qs, hk, rfl, rfl, rfl, HT⟩ := hrel
          by_cases hlt : k < len0 ∧ k < 40
          · obtain ⟨hlt, h40⟩ := hlt
            have hn12 := HT.out.few
            have hnc := HT.out.le
            have hnc' := HT.out.le'
            have HBw := Lib.hid HT.out.bel
            obtain ⟨z, hz⟩ : ∃ z, zs[k]? = some z := ⟨_, List.getElem?_eq_getElem (by omega)⟩
            have hzc := (HZ.out.below HBw.out).fit
            obtain ⟨b, o, rfl, _⟩ := hzc.int_at hlt
            have b2 : Below wr.heap.size wr ((wr.alloc (.cells zeroR 26)).alloc (.cells zeroR 26)) := ((Below.refl _ _).alloc (Nat.le_refl _) _).alloc (by simp) _
            have hcz := (hzc.below b2).int_cell hlt hz
            have HP0 := Lib.hid ((Blk.new wr 26 zeroR).alloc (.cells zeroR 26))
            have HQ0 : Hid (Blk ((wr.alloc (.cells zeroR 26)).alloc (.cells zeroR 26)) (wr.heap.size + 1) 26 zeroR) := Lib.hid (by have h := Blk.new (wr.alloc (.cells zeroR 26)) 26 zeroR; rwa [show (wr.alloc (.cells zeroR 26)).heap.size = wr.heap.size + 1 by simp] at h)
            have hk40 : (k : Int) < 40 := by omega
            have hklt : (k : Int) < (len0 : Int) := by omega
            have e3 := and_3 z
            have e255 := and_255 (z / 4)
            have HB2 := Lib.hid b2
            clear hz hzc b2
            have hlc : n ≤ 100000 := by omega
            by_cases hp1 : z % 4 < 2
            · by_cases hp2 : 0 < len1
              · obtain ⟨j, hj, hjl⟩ : ∃ j : Nat, z / 4 % 256 % (len1 : Int) = (j : Int) ∧ j < len1 := by
                  have h1 := Int.emod_nonneg (z / 4 % 256) (show (len1 : Int) ≠ 0 by omega)
                  have h2 := Int.emod_lt_of_pos (z / 4 % 256) (show 0 < (len1 : Int) by omega)
                  exact ⟨(z / 4 % 256 % (len1 : Int)).toNat, by omega, by omega⟩
                obtain ⟨b', o', l, A5, c5, rfl, hl, hcell, hrd⟩ := ((HR.out.below HBw.out).fit).at hjl
                have hcl := (HB2.out.cell (p := ⟨b', o' + j, none⟩) (World.block_lt_of_cell? wr _ hcell)).trans hcell
                obtain ⟨qs2, e2, N2, v2, HC⟩ : ∃ (qs2 : List (List Nat)) (e2 N2 : Int) (v2 : List Nat), Hid (Step w wr 7 11 #[.slice A n c, .slice A5 l.length c5] #[.slice A' n c', .slice A5 l.length c5] qs2 e2 N2 v2) := ⟨_, _, _, _, Lib.hid (Step.push hP HT.out (HSH.out l (List.mem_of_getElem? hl)) (HBY.out l (List.mem_of_getElem? hl)) hrd)⟩
                clear HT hn12 hnc hnc' hlc hl hcell hrd
                go_upto_region 15 with fail
                go_wp2_with fail
                refine ((HC.out.ans _ HB2.out).1).mono ?_
                rintro e w1 ⟨A1, c1, A3, c3, rfl, hq1, hv1, hB1, hb1⟩
                unfold resV
                have HP1 := Lib.hid (HP0.out.below hb1)
                have HQ1 := Lib.hid (HQ0.out.below hb1)
                obtain ⟨x0, x1, x2, f0, f1, f2⟩ := three HP1.out
                obtain ⟨k1, k2, k3⟩ := put3 HP1.out (.int .i64 e2) (.slice A3 v2.length c3) (.int .i64 N2)
                have hne : wr.heap.size + 1 ≠ wr.heap.size := by omega
                have HQ2 := Lib.hid ((((HQ1.out.set_other (i := 0) (u := .int .i64 e2) hne).set_other (i := 1) (u := .slice A3 v2.length c3) hne).set_other (i := 2) (u := .int .i64 N2) hne))
                have HX := Lib.hid (And.intro (hq1.put3 HP1.out (by decide) (by decide) (.int .i64 e2) (.slice A3 v2.length c3) (.int .i64 N2)) (And.intro (k3 _ _ _ _ _ _ hv1 (by decide)) (And.intro k1 (And.intro (k2 w HBw.out.size hB1) (k2 wr (Nat.le_refl _) (HB2.out.trans (hb1.mono HB2.out.size)))))))
                clear k1 k2 k3 hq1 hv1 hB1 hb1
                go_wp2_with fail
                refine ((HC.out.ans _ HX.out.2.2.2.2).2).mono ?_
                rintro e w3 ⟨A2, c2, A4, c4, rfl, hq3, hv3, hB3, hb3⟩
                unfold resV
                clear x0 x1 x2 f0 f1 f2
                have HP4 := Lib.hid (HX.out.2.2.1.below hb3)
                have HQ4 := Lib.hid (HQ2.out.below hb3)
                obtain ⟨x0, x1, x2, f0, f1, f2⟩ := three HQ4.out
                obtain ⟨k1, k2, k3⟩ := put3 HQ4.out (.int .i64 e2) (.slice A4 v2.length c4) (.int .i64 N2)
                have hP5 := ((HP4.out.set_other (i := 0) (u := .int .i64 e2) hne.symm).set_other (i := 1) (u := .slice A4 v2.length c4) hne.symm).set_other (i := 2) (u := .int .i64 N2) hne.symm
                have hX : OwnQ w _ A1 qs2.length c1 qs2 ∧ OwnQ w _ A2 qs2.length c2 qs2 ∧ OwnB w _ A3 v2.length c3 v2 ∧ OwnB w _ A4 v2.length c4 v2 ∧ Below w.heap.size w _ :=
                  ⟨(HX.out.1.below hb3).put3 HQ4.out (by decide) (by decide) (.int .i64 e2) (.slice A4 v2.length c4) (.int .i64 N2), hq3.put3 HQ4.out (by decide) (by decide) (.int .i64 e2) (.slice A4 v2.length c4) (.int .i64 N2), k3 _ _ _ _ _ _ (own_below HX.out.2.1 hb3) (by decide), k3 _ _ _ _ _ _ hv3 (by decide), k2 w (Nat.le_trans HBw.out.size (by omega)) hB3⟩
                have HY := Lib.hid hX
                have HK := Lib.hid (And.intro hP5 k1)
                obtain ⟨y0, y1, y2, _, _, _⟩ := three hP5
                obtain ⟨z0', z1', z2', _, _, _⟩ := three k1
                clear HX hP5 k1 k2 k3 hq3 hv3 hB3 hb3 hX HP4 HQ4 HP1 HQ1 HQ2 HK
                go_wp2_with fail
                refine (same_is _ e2 N2 HC.out.val (Rd.own_ HY.out.2.2.1) (Rd.own_ HY.out.2.2.2.1)).mono ?_
                rintro e v3 ⟨rfl, j1⟩
                go_wp2_with fail
                refine (sameRows_below _ HC.out.byt HC.out.byt ((HY.out.1.rd).below j1) ((HY.out.2.1.rd).below j1) (Nat.le_trans HC.out.few (by decide)) (Nat.le_trans HC.out.few (by decide))).mono ?_
                rintro e v4 ⟨rfl, j2⟩
                rw [decide_eq_true rfl]
                go_wp2
                go_roundw
                case rel =>
                  have j3 := j1.trans (j2.mono j1.size)
                  exact ⟨k + 1, _, _, _, _, _, _, by omega, by go_num, rfl, rfl, Lib.hid ⟨(HY.out.1.rd.below j3).fit, (HY.out.2.1.rd.below j3).fit, HY.out.1.cap, HY.out.2.1.cap, HC.out.few, HC.out.lim, HC.out.byt, HY.out.2.2.2.2.trans (j3.mono HY.out.2.2.2.2.size)⟩⟩
                case measure => simp [intOf]; omega
              · have hp3 : ¬ (0 : Int) < (len1 : Int) := by omega
                obtain ⟨qs2, e2, N2, v2, HC⟩ : ∃ (qs2 : List (List Nat)) (e2 N2 : Int) (v2 : List Nat), Hid (Step w wr 9 12 #[.slice A n c] #[.slice A' n c'] qs2 e2 N2 v2) := ⟨_, _, _, _, Lib.hid (Step.pop hQ HT.out)⟩
                clear HT hn12 hnc hnc' hlc
                go_upto_region 18 with fail
                go_wp2_with fail
                refine ((HC.out.ans _ HB2.out).1).mono ?_
                rintro e w1 ⟨A1, c1, A3, c3, rfl, hq1, hv1, hB1, hb1⟩
                unfold resV
                have HP1 := Lib.hid (HP0.out.below hb1)
                have HQ1 := Lib.hid (HQ0.out.below hb1)
                obtain ⟨x0, x1, x2, f0, f1, f2⟩ := three HP1.out
                obtain ⟨k1, k2, k3⟩ := put3 HP1.out (.int .i64 e2) (.slice A3 v2.length c3) (.int .i64 N2)
                have hne : wr.heap.size + 1 ≠ wr.heap.size := by omega
                have HQ2 := Lib.hid ((((HQ1.out.set_other (i := 0) (u := .int .i64 e2) hne).set_other (i := 1) (u := .slice A3 v2.length c3) hne).set_other (i := 2) (u := .int .i64 N2) hne))
                have HX := Lib.hid (And.intro (hq1.put3 HP1.out (by decide) (by decide) (.int .i64 e2) (.slice A3 v2.length c3) (.int .i64 N2)) (And.intro (k3 _ _ _ _ _ _ hv1 (by decide)) (And.intro k1 (And.intro (k2 w HBw.out.size hB1) (k2 wr (Nat.le_refl _) (HB2.out.trans (hb1.mono HB2.out.size)))))))
                clear k1 k2 k3 hq1 hv1 hB1 hb1
                go_wp2_with fail
                refine ((HC.out.ans _ HX.out.2.2.2.2).2).mono ?_
                rintro e w3 ⟨A2, c2, A4, c4, rfl, hq3, hv3, hB3, hb3⟩
                unfold resV
                clear x0 x1 x2 f0 f1 f2
                have HP4 := Lib.hid (HX.out.2.2.1.below hb3)
                have HQ4 := Lib.hid (HQ2.out.below hb3)
                obtain ⟨x0, x1, x2, f0, f1, f2⟩ := three HQ4.out
                obtain ⟨k1, k2, k3⟩ := put3 HQ4.out (.int .i64 e2) (.slice A4 v2.length c4) (.int .i64 N2)
                have hP5 := ((HP4.out.set_other (i := 0) (u := .int .i64 e2) hne.symm).set_other (i := 1) (u := .slice A4 v2.length c4) hne.symm).set_other (i := 2) (u := .int .i64 N2) hne.symm
                have hX : OwnQ w _ A1 qs2.length c1 qs2 ∧ OwnQ w _ A2 qs2.length c2 qs2 ∧ OwnB w _ A3 v2.length c3 v2 ∧ OwnB w _ A4 v2.length c4 v2 ∧ Below w.heap.size w _ :=
                  ⟨(HX.out.1.below hb3).put3 HQ4.out (by decide) (by decide) (.int .i64 e2) (.slice A4 v2.length c4) (.int .i64 N2), hq3.put3 HQ4.out (by decide) (by decide) (.int .i64 e2) (.slice A4 v2.length c4) (.int .i64 N2), k3 _ _ _ _ _ _ (own_below HX.out.2.1 hb3) (by decide), k3 _ _ _ _ _ _ hv3 (by decide), k2 w (Nat.le_trans HBw.out.size (by omega)) hB3⟩
                have HY := Lib.hid hX
                have HK := Lib.hid (And.intro hP5 k1)
                obtain ⟨y0, y1, y2, _, _, _⟩ := three hP5
                obtain ⟨z0', z1', z2', _, _, _⟩ := three k1
                clear HX hP5 k1 k2 k3 hq3 hv3 hB3 hb3 hX HP4 HQ4 HP1 HQ1 HQ2 HK
                go_wp2_with fail
                refine (same_is _ e2 N2 HC.out.val (Rd.own_ HY.out.2.2.1) (Rd.own_ HY.out.2.2.2.1)).mono ?_
                rintro e v3 ⟨rfl, j1⟩
                go_wp2_with fail
                refine (sameRows_below _ HC.out.byt HC.out.byt ((HY.out.1.rd).below j1) ((HY.out.2.1.rd).below j1) (Nat.le_trans HC.out.few (by decide)) (Nat.le_trans HC.out.few (by decide))).mono ?_
                rintro e v4 ⟨rfl, j2⟩
                rw [decide_eq_true rfl]
                go_wp2
                go_roundw
                case rel =>
                  have j3 := j1.trans (j2.mono j1.size)
                  exact ⟨k + 1, _, _, _, _, _, _, by omega, by go_num, rfl, rfl, Lib.hid ⟨(HY.out.1.rd.below j3).fit, (HY.out.2.1.rd.below j3).fit, HY.out.1.cap, HY.out.2.1.cap, HC.out.few, HC.out.lim, HC.out.byt, HY.out.2.2.2.2.trans (j3.mono HY.out.2.2.2.2.size)⟩⟩
                case measure => simp [intOf]; omega
            · obtain ⟨qs2, e2, N2, v2, HC⟩ : ∃ (qs2 : List (List Nat)) (e2 N2 : Int) (v2 : List Nat), Hid (Step w wr 9 12 #[.slice A n c] #[.slice A' n c'] qs2 e2 N2 v2) := ⟨_, _, _, _, Lib.hid (Step.pop hQ HT.out)⟩
              clear HT hn12 hnc hnc' hlc
              go_upto_region 18 with fail
              go_wp2_with fail
              refine ((HC.out.ans _ HB2.out).1).mono ?_
              rintro e w1 ⟨A1, c1, A3, c3, rfl, hq1, hv1, hB1, hb1⟩
              unfold resV
              have HP1 := Lib.hid (HP0.out.below hb1)
              have HQ1 := Lib.hid (HQ0.out.below hb1)
              obtain ⟨x0, x1, x2, f0, f1, f2⟩ := three HP1.out
              obtain ⟨k1, k2, k3⟩ := put3 HP1.out (.int .i64 e2) (.slice A3 v2.length c3) (.int .i64 N2)
              have hne : wr.heap.size + 1 ≠ wr.heap.size := by omega
              have HQ2 := Lib.hid ((((HQ1.out.set_other (i := 0) (u := .int .i64 e2) hne).set_other (i := 1) (u := .slice A3 v2.length c3) hne).set_other (i := 2) (u := .int .i64 N2) hne))
              have HX := Lib.hid (And.intro (hq1.put3 HP1.out (by decide) (by decide) (.int .i64 e2) (.slice A3 v2.length c3) (.int .i64 N2)) (And.intro (k3 _ _ _ _ _ _ hv1 (by decide)) (And.intro k1 (And.intro (k2 w HBw.out.size hB1) (k2 wr (Nat.le_refl _) (HB2.out.trans (hb1.mono HB2.out.size)))))))
              clear k1 k2 k3 hq1 hv1 hB1 hb1
              go_wp2_with fail
              refine ((HC.out.ans _ HX.out.2.2.2.2).2).mono ?_
              rintro e w3 ⟨A2, c2, A4, c4, rfl, hq3, hv3, hB3, hb3⟩
              unfold resV
              clear x0 x1 x2 f0 f1 f2
              have HP4 := Lib.hid (HX.out.2.2.1.below hb3)
              have HQ4 := Lib.hid (HQ2.out.below hb3)
              obtain ⟨x0, x1, x2, f0, f1, f2⟩ := three HQ4.out
              obtain ⟨k1, k2, k3⟩ := put3 HQ4.out (.int .i64 e2) (.slice A4 v2.length c4) (.int .i64 N2)
              have hP5 := ((HP4.out.set_other (i := 0) (u := .int .i64 e2) hne.symm).set_other (i := 1) (u := .slice A4 v2.length c4) hne.symm).set_other (i := 2) (u := .int .i64 N2) hne.symm
              have hX : OwnQ w _ A1 qs2.length c1 qs2 ∧ OwnQ w _ A2 qs2.length c2 qs2 ∧ OwnB w _ A3 v2.length c3 v2 ∧ OwnB w _ A4 v2.length c4 v2 ∧ Below w.heap.size w _ :=
                ⟨(HX.out.1.below hb3).put3 HQ4.out (by decide) (by decide) (.int .i64 e2) (.slice A4 v2.length c4) (.int .i64 N2), hq3.put3 HQ4.out (by decide) (by decide) (.int .i64 e2) (.slice A4 v2.length c4) (.int .i64 N2), k3 _ _ _ _ _ _ (own_below HX.out.2.1 hb3) (by decide), k3 _ _ _ _ _ _ hv3 (by decide), k2 w (Nat.le_trans HBw.out.size (by omega)) hB3⟩
              have HY := Lib.hid hX
              have HK := Lib.hid (And.intro hP5 k1)
              obtain ⟨y0, y1, y2, _, _, _⟩ := three hP5
              obtain ⟨z0', z1', z2', _, _, _⟩ := three k1
              clear HX hP5 k1 k2 k3 hq3 hv3 hB3 hb3 hX HP4 HQ4 HP1 HQ1 HQ2 HK
              go_wp2_with fail
              refine (same_is _ e2 N2 HC.out.val (Rd.own_ HY.out.2.2.1) (Rd.own_ HY.out.2.2.2.1)).mono ?_
              rintro e v3 ⟨rfl, j1⟩
              go_wp2_with fail
              refine (sameRows_below _ HC.out.byt HC.out.byt ((HY.out.1.rd).below j1) ((HY.out.2.1.rd).below j1) (Nat.le_trans HC.out.few (by decide)) (Nat.le_trans HC.out.few (by decide))).mono ?_
              rintro e v4 ⟨rfl, j2⟩
              rw [decide_eq_true rfl]
              go_wp2
              go_roundw
              case rel =>
                have j3 := j1.trans (j2.mono j1.size)
                exact ⟨k + 1, _, _, _, _, _, _, by omega, by go_num, rfl, rfl, Lib.hid ⟨(HY.out.1.rd.below j3).fit, (HY.out.2.1.rd.below j3).fit, HY.out.1.cap, HY.out.2.1.cap, HC.out.few, HC.out.lim, HC.out.byt, HY.out.2.2.2.2.trans (j3.mono HY.out.2.2.2.2.size)⟩⟩
              case measure => simp [intOf]; omega
          · by_cases hend : k < len0
            · have h40 : ¬ (k : Int) < 40 := by omega
              have hklt : (k : Int) < (len0 : Int) := by omega
              have HBw := Lib.hid HT.out.bel
              go_wp2_with (go_at_call 10; refine (hA _).mono ?_; rintro e w1 ⟨rfl, hb⟩)
              go_ret
              exact ⟨rfl, HBw.out.trans (hb.mono HBw.out.size)⟩
            · have hklt : ¬ (k : Int) < (len0 : Int) := by omega
              have HBw := Lib.hid HT.out.bel
              go_wp2_with (go_at_call 10; refine (hA _).mono ?_; rintro e w1 ⟨rfl, hb⟩)
              go_ret
              exact ⟨rfl, HBw.out.trans (hb.mono HBw.out.size)⟩
end Go.Proofs.Ytogohlljkpchmaa
