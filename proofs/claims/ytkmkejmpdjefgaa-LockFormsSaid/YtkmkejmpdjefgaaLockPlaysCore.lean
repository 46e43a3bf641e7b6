/- LockPlays: the walk, over any contracts of the code's. -/
import Derived.Test.YtkmkejmpdjefgaaLockC
namespace Go.Proofs.Ytkmkejmpdjefgaa
open Go.RowKit
set_option linter.unusedVariables false
/-- both locks read as zs -/
structure Two6 (w wr : World) (A A' : Option Addr) (n c c' : Nat) (zs : List Int) : Prop where
  r1 : Rd wr wr.heap.size A n (iv zs)
  r2 : Rd wr wr.heap.size A' n (iv zs)
  le : n ≤ c
  le' : n ≤ c'
  few : n ≤ 12
  nod : zs.Nodup
  bel : Below w.heap.size w wr
/-- the two answers to one step -/
structure Step6 (w wr : World) (f g : FuncId) (xs ys : Array Value) (zs2 : List Int) (e N : Int) : Prop where
  ans : ∀ w', Below wr.heap.size wr w' → Calls Try.prog f xs w' (GotIR w w' zs2 e N) ∧ Calls Try.prog g ys w' (GotIR w w' zs2 e N)
  few : zs2.length ≤ 12
  nod : zs2.Nodup
theorem takeS_nodup {s : List Int} (x : Int) (h : s.Nodup) : (takeS s x).Nodup := by
  unfold takeS
  split
  · exact h
  · split
    · exact h
    · rename_i h1 _
      rw [List.nodup_append]
      exact ⟨h, by simp, fun a ha b hb => by simp at hb; subst hb; rintro rfl; exact h1 ha⟩
theorem takeS_few {s : List Int} (x : Int) (h : s.length ≤ 12) : (takeS s x).length ≤ 12 := by
  unfold takeS
  split
  · exact h
  · split
    · exact h
    · simp; omega
theorem Step6.take {w wr : World} {A A' : Option Addr} {n c c' : Nat} {zs : List Int} (hT : TakeC) (h : Two6 w wr A A' n c c' zs) (x : Int) :
    Step6 w wr 9 13 #[.slice A n c, .int .i64 x] #[.slice A' n c', .int .i64 x] (takeS zs x) (takeE zs x) (takeN zs x) := by
  have h12 := h.few
  have hl : zs.length = n := by have := h.r1.1; rwa [iv_length] at this
  exact ⟨fun w' hb => ⟨hT x (by omega) h.le (h.r1.below hb) (h.bel.trans (hb.mono h.bel.size)), refTake_any x (by unfold Lim; omega) (h.r2.below hb) (h.bel.trans (hb.mono h.bel.size))⟩, takeS_few x (by omega), takeS_nodup x h.nod⟩
theorem Step6.free {w wr : World} {A A' : Option Addr} {n c c' : Nat} {zs : List Int} (hF : FreeC) (h : Two6 w wr A A' n c c' zs) (x : Int) :
    Step6 w wr 8 14 #[.slice A n c, .int .i64 x] #[.slice A' n c', .int .i64 x] (zs.erase x) (freeE zs x) (freeN zs x) := by
  have h12 := h.few
  have hl : zs.length = n := by have := h.r1.1; rwa [iv_length] at this
  exact ⟨fun w' hb => ⟨hF x (by omega) h.le h.nod (h.r1.below hb) (h.bel.trans (hb.mono h.bel.size)), refFree_any x (by unfold Lim; omega) h.le' (h.r2.below hb) (h.bel.trans (hb.mono h.bel.size))⟩, Nat.le_trans List.length_erase_le (by omega), h.nod.erase x⟩
/-- no two of the first are alike -/
def Dis (zs : List Int) (i : Nat) : Prop := ∀ (a b : Nat) (x : Int), a < b → b < i → a < 12 → zs[a]? = some x → zs[b]? ≠ some x
theorem Dis.nodup {zs : List Int} (h : Dis zs zs.length) (h12 : zs.length ≤ 12) : zs.Nodup := by
  refine List.pairwise_iff_getElem.2 fun i j hi hj hij e => ?_
  exact h i j zs[i] hij hj (by omega) (List.getElem?_eq_getElem hi) (by rw [List.getElem?_eq_getElem hj, e])
set_option maxHeartbeats 4000000 in
set_option maxRecDepth 100000 in
theorem lockPlays_core (hT : TakeC) (hF : FreeC) (hO : OwnerC) (hA : AwakeC6) (a0 : Option Addr) (len0 cap0 : Nat) (z0 : List Int) (a1 : Option Addr) (len1 cap1 : Nat) (z1 : List Int) (a2 : Bool) (w : World) (w0 : IsRow .i64 w a0 len0 cap0 z0) (w1 : IsRow .i64 w a1 len1 cap1 z1) :
    Calls Try.prog 6 #[.slice a0 len0 cap0, .slice a1 len1 cap1, .bool a2] w fun e w' => e = .returned (.bool true) ∧ Below w.heap.size w w' := by
  obtain ⟨hz, hzl, hle0, hcap0⟩ := w0.ints
  obtain ⟨zs, hzs⟩ : ∃ zs, zs = z0.take len0 := ⟨_, rfl⟩
  rw [← hzs] at hz hzl
  obtain ⟨hy, hyl, hle1, hcap1⟩ := w1.ints
  obtain ⟨ys, hys⟩ : ∃ ys, ys = z1.take len1 := ⟨_, rfl⟩
  rw [← hys] at hy hyl
  have hn0 : len0 ≤ 9223372036854775807 := Nat.le_trans hle0 hcap0
  have hn1 : len1 ≤ 9223372036854775807 := Nat.le_trans hle1 hcap1
  have HZ := Lib.hid hz
  have HZL := Lib.hid hzl
  have HY := Lib.hid hy
  have HYL := Lib.hid hyl
  clear w0 w1 hcap0 hcap1 hzs hys hz hy hzl hyl
  go_enter Try.func6, Try.ntmps6
  go_wp2_with fail
  go_loopw [16] (fun s16 wr => ∃ i : Nat, i ≤ len1 ∧ s16 = .int .i64 (i : Int) ∧ Hid (Dis ys i) ∧ Hid (Below w.heap.size w wr)) (fun s16 _ => len1 - (intOf s16).toNat)
  case atStart => exact ⟨0, Nat.zero_le _, rfl, Lib.hid (fun a b x h1 h2 => by omega), Lib.hid (Below.refl _ _)⟩
  case round =>
    obtain ⟨i, hi, rfl, HD, HB⟩ := hrel
    by_cases hlt : i < len1
    · obtain ⟨z, hz⟩ : ∃ z, ys[i]? = some z := ⟨_, List.getElem?_eq_getElem (by have := HYL.out; omega)⟩
      have HV := Lib.hid hz
      have hwi : IntKind.i64.wrap ((i : Int) + 1) = (i : Int) + 1 := IntWalk.i64_in _ (by omega)
      obtain ⟨b, o, rfl, _⟩ := HY.out.int_at hlt
      clear hz
      go_upto_block 1 with fail
      go_cut [7, 8] from 18 to 37 (fun s7 s8 wx => Hid (Dis ys (i + 1)) ∧ Hid (Below w.heap.size w wx))
      case first =>
        go_wp2_with fail
        go_loopw [8] (fun s8 wy => ∃ k : Nat, k ≤ i ∧ k ≤ 12 ∧ s8 = .int .i64 (k : Int) ∧ Hid (∀ (a : Nat) (x : Int), a < k → ys[a]? = some x → ys[i]? ≠ some x) ∧ Hid (Below w.heap.size w wy)) (fun s8 _ => i - (intOf s8).toNat)
        case atStart => exact ⟨0, Nat.zero_le _, by omega, rfl, Lib.hid (fun a x h => by omega), HB⟩
        case round =>
          clear HB
          obtain ⟨k, hk, hk12, rfl, HE, HB⟩ := hrel
          have hend : ∀ m, (k = i ∨ k = 12) → m = i + 1 → Hid (Dis ys m) := fun m hki hm => Lib.hid (by
            subst hm
            intro a b x h1 h2 h3 ha
            rcases Nat.lt_or_ge b i with h4 | h4
            · exact HD.out a b x h1 h4 h3 ha
            · obtain rfl : b = i := by omega
              exact HE.out a x (by omega) ha)
          have HEND := Lib.hid hend
          clear hend
          by_cases hki : k < i
          · by_cases hkt : k < 12
            · have hk1 : (k : Int) < (i : Int) := by omega
              have hk2 : (k : Int) < 12 := by omega
              obtain ⟨v, hv⟩ : ∃ v, ys[k]? = some v := ⟨_, List.getElem?_eq_getElem (by have := HYL.out; omega)⟩
              have hc1 := (HY.out.below HB.out).int_cell hlt HV.out
              have hc2 := (HY.out.below HB.out).int_cell (k := k) (by omega) hv
              have hwk : IntKind.i64.wrap ((k : Int) + 1) = (k : Int) + 1 := IntWalk.i64_in _ (by omega)
              have HVV := Lib.hid hv
              clear hv
              by_cases he : z = v
              · subst he
                go_upto_region 7 with fail
                go_quiet (fail)
                go_wp2_with (go_at_call 11; refine (hA _).mono ?_; rintro e w9 ⟨rfl, hb⟩)
                go_ret
                have h1 := belowN HB.out nq
                exact ⟨rfl, h1.trans (hb.mono h1.size)⟩
              · have he' : (z == v) = false := by simpa using he
                have HNE := Lib.hid he
                clear he
                go_upto_region 7 with fail
                go_quiet (fail)
                go_wp2_with fail
                go_roundw
                case rel =>
                  exact ⟨k + 1, by omega, by omega, by go_num, Lib.hid (fun a x h ha => by
                    rcases Nat.lt_or_ge a k with h4 | h4
                    · exact HE.out a x h4 ha
                    · obtain rfl : a = k := by omega
                      intro hi2
                      rw [HVV.out] at ha
                      rw [HV.out] at hi2
                      injection ha with ha
                      injection hi2 with hi2
                      exact HNE.out (by omega)), Lib.hid (belowN HB.out _)⟩
                case measure => simp [intOf]; omega
            · have hk1 : (k : Int) < (i : Int) := by omega
              have hk2 : ¬ (k : Int) < 12 := by omega
              have HF := HEND.out _ (.inr (by omega)) rfl
              go_wp2_with fail
              go_meet
              exact ⟨HF, HB⟩
          · have hk1 : ¬ (k : Int) < (i : Int) := by omega
            have HF := HEND.out _ (.inl (by omega)) rfl
            go_wp2_with fail
            go_meet
            exact ⟨HF, HB⟩
      case rest =>
        obtain ⟨HD1, HB1⟩ := hcut
        clear HD HB
        go_wp2_with fail
        go_roundw
        case rel => exact ⟨i + 1, by omega, by go_num, HD1, HB1⟩
        case measure => simp [intOf]; omega
    · obtain rfl : i = len1 := by omega
      clear hlt hi
      go_upto_if 41 with fail
      go_cut [1] (fun s1 wx => ∃ (A : Option Addr) (n c : Nat) (vs : List Int), s1 = .slice A n c ∧ wx = wr ∧ Hid (Rd wr wr.heap.size A n (iv vs)) ∧ n ≤ c ∧ n ≤ 12 ∧ Hid vs.Nodup)
      case first =>
        by_cases h12 : i ≤ 12
        · have h12i : ¬ (12 : Int) < (i : Int) := by omega
          go_wp2
          go_meet
          exact ⟨_, _, _, ys, rfl, rfl, Lib.hid (HY.out.below HB.out).fit, hle1, h12, Lib.hid (Dis.nodup (by rw [HYL.out]; exact HD.out) (by have := HYL.out; omega))⟩
        · have h12i : (12 : Int) < (i : Int) := by omega
          go_wp2
          go_meet
          exact ⟨none, 0, 0, [], rfl, rfl, Lib.hid (Rd.none_ _ _ _), Nat.le_refl _, by omega, Lib.hid (by simp)⟩
      case rest =>
        obtain ⟨A, n, c, vs, rfl, rfl, HR, hnc, h12, HND⟩ := hcut
        rename World => u
        have HT2 : Hid (Two6 w u A A n c c vs) := Lib.hid ⟨HR.out, HR.out, hnc, hnc, h12, HND.out, HB.out⟩
        clear HD HR HND HB
        go_wp2_with fail
        go_loopw [1, 9, 10] (fun s1 s9 s10 wr => ∃ (k : Nat) (A A' : Option Addr) (n c c' : Nat) (vs : List Int), k ≤ len0 ∧ s10 = .int .i64 (k : Int) ∧ s1 = .slice A n c ∧ s9 = .slice A' n c' ∧ Hid (Two6 w wr A A' n c c' vs)) (fun _ _ s10 _ => len0 - (intOf s10).toNat)
        case atStart => exact ⟨0, A, A, n, c, c, vs, Nat.zero_le _, rfl, rfl, rfl, HT2⟩
        case round =>
          clear HT2 hnc h12
          rename World => wr
          obtain ⟨k, A, A', n, c, c', vs, hk, rfl, rfl, rfl, HT2⟩ := hrel
          by_cases hlt : k < len0 ∧ k < 50
          · obtain ⟨hlt, h50⟩ := hlt
            have hk1 : (k : Int) < (len0 : Int) := by omega
            have hk2 : (k : Int) < 50 := by omega
            have hwk : IntKind.i64.wrap ((k : Int) + 1) = (k : Int) + 1 := IntWalk.i64_in _ (by omega)
            have HBw := Lib.hid HT2.out.bel
            obtain ⟨z, hz⟩ : ∃ z, zs[k]? = some z := ⟨_, List.getElem?_eq_getElem (by have := HZL.out; omega)⟩
            have hzc := (HZ.out.below HBw.out).fit
            obtain ⟨b, o, rfl, _⟩ := hzc.int_at hlt
            have b2 : Below wr.heap.size wr ((wr.alloc (.cells zeroR 28)).alloc (.cells zeroR 28)) := ((Below.refl _ _).alloc (Nat.le_refl _) _).alloc (by simp) _
            have hc0 := hzc.int_cell hlt hz
            have hcz := (hzc.below b2).int_cell hlt hz
            have HB2 := Lib.hid b2
            clear hz hzc b2
            go_upto_if 58 with fail
            go_cut [11] from 59 to 60 (fun s11 wx => ∃ x : Int, s11 = .int .i64 x ∧ wx = wr)
            case first =>
              cases a2 with
              | true =>
                go_wp2_with fail
                go_meet
                exact ⟨_, rfl, rfl⟩
              | false =>
                go_wp2_with fail
                go_meet
                exact ⟨_, rfl, rfl⟩
            case rest =>
              obtain ⟨x, rfl, rfl⟩ := hcut
              rename World => wr
              clear hc0
              have HP0 := Lib.hid ((Blk.new wr 28 zeroR).alloc (.cells zeroR 28))
              have HQ0 : Hid (Blk ((wr.alloc (.cells zeroR 28)).alloc (.cells zeroR 28)) (wr.heap.size + 1) 28 zeroR) := Lib.hid (by have h := Blk.new (wr.alloc (.cells zeroR 28)) 28 zeroR; rwa [show (wr.alloc (.cells zeroR 28)).heap.size = wr.heap.size + 1 by simp] at h)
              have e1 := and_1 z
              by_cases hp : z % 2 = 0
              · have hx1 : True := trivial
                obtain ⟨vs2, e2, N2, HC⟩ : ∃ (vs2 : List Int) (e2 N2 : Int), Hid (Step6 w wr 9 13 #[.slice A n c, .int .i64 x] #[.slice A' n c', .int .i64 x] vs2 e2 N2) := ⟨_, _, _, Lib.hid (Step6.take hT HT2.out x)⟩
                clear HT2 hx1
                go_upto_region 21 with fail
                go_wp2_with fail
                refine ((HC.out.ans _ HB2.out).1).mono ?_
                rintro e w1 ⟨A1, c1, A3, c3, rfl, hq1, hv1, hB1, hb1⟩
                unfold resV
                have HP1 := Lib.hid (HP0.out.below hb1)
                have HQ1 := Lib.hid (HQ0.out.below hb1)
                obtain ⟨x0, x1, x2, f0, f1, f2⟩ := three HP1.out
                obtain ⟨k1, k2, k3⟩ := put3 HP1.out (.int .i64 e2) (.slice A3 0 c3) (.int .i64 N2)
                have hne : wr.heap.size + 1 ≠ wr.heap.size := by omega
                have HQ2 := Lib.hid ((((HQ1.out.set_other (i := 0) (u := .int .i64 e2) hne).set_other (i := 1) (u := .slice A3 0 c3) hne).set_other (i := 2) (u := .int .i64 N2) hne))
                have HX := Lib.hid (And.intro (k3 _ _ _ _ _ _ hq1 (by decide)) (And.intro (k3 _ _ _ _ _ _ hv1 (by decide)) (And.intro k1 (And.intro (k2 w HBw.out.size hB1) (k2 wr (Nat.le_refl _) (HB2.out.trans (hb1.mono HB2.out.size)))))))
                clear k1 k2 k3 hq1 hv1 hB1 hb1
                go_wp2_with fail
                refine ((HC.out.ans _ HX.out.2.2.2.2).2).mono ?_
                rintro e w3 ⟨A2, c2, A4, c4, rfl, hq3, hv3, hB3, hb3⟩
                unfold resV
                clear x0 x1 x2 f0 f1 f2
                have HP4 := Lib.hid (HX.out.2.2.1.below hb3)
                have HQ4 := Lib.hid (HQ2.out.below hb3)
                obtain ⟨x0, x1, x2, f0, f1, f2⟩ := three HQ4.out
                obtain ⟨k1, k2, k3⟩ := put3 HQ4.out (.int .i64 e2) (.slice A4 0 c4) (.int .i64 N2)
                have hP5 := ((HP4.out.set_other (i := 0) (u := .int .i64 e2) hne.symm).set_other (i := 1) (u := .slice A4 0 c4) hne.symm).set_other (i := 2) (u := .int .i64 N2) hne.symm
                have hX : OwnI w _ A1 vs2.length c1 vs2 ∧ OwnI w _ A2 vs2.length c2 vs2 ∧ OwnB w _ A3 0 c3 [] ∧ OwnB w _ A4 0 c4 [] ∧ Below w.heap.size w _ :=
                  ⟨k3 _ _ _ _ _ _ (ownsRow_below HX.out.1 hb3) (by decide), k3 _ _ _ _ _ _ hq3 (by decide), k3 _ _ _ _ _ _ (own_below HX.out.2.1 hb3) (by decide), k3 _ _ _ _ _ _ hv3 (by decide), k2 w (Nat.le_trans HBw.out.size (by omega)) hB3⟩
                have HY2 := Lib.hid hX
                obtain ⟨y0, y1, y2, _, _, _⟩ := three hP5
                obtain ⟨z0', z1', z2', _, _, _⟩ := three k1
                clear HX hP5 k1 k2 k3 hq3 hv3 hB3 hb3 hX HP4 HQ4 HP1 HQ1 HQ2
                go_wp2_with fail
                refine (same_is _ (l := []) e2 N2 (fun x hx => by cases hx) (Rd.own_ HY2.out.2.2.1) (Rd.own_ HY2.out.2.2.2.1)).mono ?_
                rintro e v3 ⟨rfl, j1⟩
                go_wp2_with fail
                refine (sameI_is _ (c := c1) (c' := c2) (zs := vs2) ((Rd.own_ HY2.out.1).below j1) ((Rd.own_ HY2.out.2.1).below j1) (by have := HC.out.few; unfold maxLen; omega)).mono ?_
                rintro e v4 ⟨rfl, j2⟩
                have J2 := Lib.hid (j1.trans (j2.mono j1.size))
                have JB := Lib.hid (HY2.out.2.2.2.2.trans (J2.out.mono HY2.out.2.2.2.2.size))
                go_wp2_with fail
                refine (hO (W := w) (zs := vs2) (A := A1) (n := vs2.length) (c := c1) (by have := HC.out.few; omega) (ownI_cap HY2.out.1) ((Rd.own_ HY2.out.1).below J2.out) JB.out).mono ?_
                rintro e v5 ⟨A5, c5, rfl, hv5, hB5, hb5⟩
                unfold resV
                go_wp2_with fail
                refine (refOwner_got (W := w) (zs := vs2) (A := A2) (n := vs2.length) (c := c2) (((Rd.own_ HY2.out.2.1).below J2.out).fit.below hb5) hB5).mono ?_
                rintro e v6 ⟨A6, c6, rfl, hv6, hB6, hb6⟩
                unfold resV
                go_wp2_with fail
                refine (same_is _ (l := []) _ _ (fun x hx => by cases hx) ((Rd.own_ hv5).below hb6) (Rd.own_ hv6)).mono ?_
                rintro e v7 ⟨rfl, j7⟩
                go_wp2
                go_roundw
                case rel =>
                  have j6 := ((J2.out.trans (hb5.mono J2.out.size)).trans (hb6.mono (Nat.le_trans J2.out.size hb5.size))).trans (j7.mono (Nat.le_trans (Nat.le_trans J2.out.size hb5.size) hb6.size))
                  exact ⟨k + 1, _, _, _, _, _, vs2, by omega, by go_num, rfl, rfl, Lib.hid ⟨((Rd.own_ HY2.out.1).below j6).fit, ((Rd.own_ HY2.out.2.1).below j6).fit, ownI_cap HY2.out.1, ownI_cap HY2.out.2.1, HC.out.few, HC.out.nod, hB6.trans (j7.mono hB6.size)⟩⟩
                case measure => simp [intOf]; omega
              · have hp' : (z % 2 == 0) = false := by simpa using hp
                have hx1 : True := trivial
                obtain ⟨vs2, e2, N2, HC⟩ : ∃ (vs2 : List Int) (e2 N2 : Int), Hid (Step6 w wr 8 14 #[.slice A n c, .int .i64 x] #[.slice A' n c', .int .i64 x] vs2 e2 N2) := ⟨_, _, _, Lib.hid (Step6.free hF HT2.out x)⟩
                clear HT2 hx1
                go_upto_region 23 with fail
                go_wp2_with fail
                refine ((HC.out.ans _ HB2.out).1).mono ?_
                rintro e w1 ⟨A1, c1, A3, c3, rfl, hq1, hv1, hB1, hb1⟩
                unfold resV
                have HP1 := Lib.hid (HP0.out.below hb1)
                have HQ1 := Lib.hid (HQ0.out.below hb1)
                obtain ⟨x0, x1, x2, f0, f1, f2⟩ := three HP1.out
                obtain ⟨k1, k2, k3⟩ := put3 HP1.out (.int .i64 e2) (.slice A3 0 c3) (.int .i64 N2)
                have hne : wr.heap.size + 1 ≠ wr.heap.size := by omega
                have HQ2 := Lib.hid ((((HQ1.out.set_other (i := 0) (u := .int .i64 e2) hne).set_other (i := 1) (u := .slice A3 0 c3) hne).set_other (i := 2) (u := .int .i64 N2) hne))
                have HX := Lib.hid (And.intro (k3 _ _ _ _ _ _ hq1 (by decide)) (And.intro (k3 _ _ _ _ _ _ hv1 (by decide)) (And.intro k1 (And.intro (k2 w HBw.out.size hB1) (k2 wr (Nat.le_refl _) (HB2.out.trans (hb1.mono HB2.out.size)))))))
                clear k1 k2 k3 hq1 hv1 hB1 hb1
                go_wp2_with fail
                refine ((HC.out.ans _ HX.out.2.2.2.2).2).mono ?_
                rintro e w3 ⟨A2, c2, A4, c4, rfl, hq3, hv3, hB3, hb3⟩
                unfold resV
                clear x0 x1 x2 f0 f1 f2
                have HP4 := Lib.hid (HX.out.2.2.1.below hb3)
                have HQ4 := Lib.hid (HQ2.out.below hb3)
                obtain ⟨x0, x1, x2, f0, f1, f2⟩ := three HQ4.out
                obtain ⟨k1, k2, k3⟩ := put3 HQ4.out (.int .i64 e2) (.slice A4 0 c4) (.int .i64 N2)
                have hP5 := ((HP4.out.set_other (i := 0) (u := .int .i64 e2) hne.symm).set_other (i := 1) (u := .slice A4 0 c4) hne.symm).set_other (i := 2) (u := .int .i64 N2) hne.symm
                have hX : OwnI w _ A1 vs2.length c1 vs2 ∧ OwnI w _ A2 vs2.length c2 vs2 ∧ OwnB w _ A3 0 c3 [] ∧ OwnB w _ A4 0 c4 [] ∧ Below w.heap.size w _ :=
                  ⟨k3 _ _ _ _ _ _ (ownsRow_below HX.out.1 hb3) (by decide), k3 _ _ _ _ _ _ hq3 (by decide), k3 _ _ _ _ _ _ (own_below HX.out.2.1 hb3) (by decide), k3 _ _ _ _ _ _ hv3 (by decide), k2 w (Nat.le_trans HBw.out.size (by omega)) hB3⟩
                have HY2 := Lib.hid hX
                obtain ⟨y0, y1, y2, _, _, _⟩ := three hP5
                obtain ⟨z0', z1', z2', _, _, _⟩ := three k1
                clear HX hP5 k1 k2 k3 hq3 hv3 hB3 hb3 hX HP4 HQ4 HP1 HQ1 HQ2
                go_wp2_with fail
                refine (same_is _ (l := []) e2 N2 (fun x hx => by cases hx) (Rd.own_ HY2.out.2.2.1) (Rd.own_ HY2.out.2.2.2.1)).mono ?_
                rintro e v3 ⟨rfl, j1⟩
                go_wp2_with fail
                refine (sameI_is _ (c := c1) (c' := c2) (zs := vs2) ((Rd.own_ HY2.out.1).below j1) ((Rd.own_ HY2.out.2.1).below j1) (by have := HC.out.few; unfold maxLen; omega)).mono ?_
                rintro e v4 ⟨rfl, j2⟩
                have J2 := Lib.hid (j1.trans (j2.mono j1.size))
                have JB := Lib.hid (HY2.out.2.2.2.2.trans (J2.out.mono HY2.out.2.2.2.2.size))
                go_wp2_with fail
                refine (hO (W := w) (zs := vs2) (A := A1) (n := vs2.length) (c := c1) (by have := HC.out.few; omega) (ownI_cap HY2.out.1) ((Rd.own_ HY2.out.1).below J2.out) JB.out).mono ?_
                rintro e v5 ⟨A5, c5, rfl, hv5, hB5, hb5⟩
                unfold resV
                go_wp2_with fail
                refine (refOwner_got (W := w) (zs := vs2) (A := A2) (n := vs2.length) (c := c2) (((Rd.own_ HY2.out.2.1).below J2.out).fit.below hb5) hB5).mono ?_
                rintro e v6 ⟨A6, c6, rfl, hv6, hB6, hb6⟩
                unfold resV
                go_wp2_with fail
                refine (same_is _ (l := []) _ _ (fun x hx => by cases hx) ((Rd.own_ hv5).below hb6) (Rd.own_ hv6)).mono ?_
                rintro e v7 ⟨rfl, j7⟩
                go_wp2
                go_roundw
                case rel =>
                  have j6 := ((J2.out.trans (hb5.mono J2.out.size)).trans (hb6.mono (Nat.le_trans J2.out.size hb5.size))).trans (j7.mono (Nat.le_trans (Nat.le_trans J2.out.size hb5.size) hb6.size))
                  exact ⟨k + 1, _, _, _, _, _, vs2, by omega, by go_num, rfl, rfl, Lib.hid ⟨((Rd.own_ HY2.out.1).below j6).fit, ((Rd.own_ HY2.out.2.1).below j6).fit, ownI_cap HY2.out.1, ownI_cap HY2.out.2.1, HC.out.few, HC.out.nod, hB6.trans (j7.mono hB6.size)⟩⟩
                case measure => simp [intOf]; omega
          · by_cases hend : k < len0
            · have h40 : ¬ (k : Int) < 50 := by omega
              have hklt : (k : Int) < (len0 : Int) := by omega
              have HBw := Lib.hid HT2.out.bel
              go_wp2_with (go_at_call 11; refine (hA _).mono ?_; rintro e w9 ⟨rfl, hb⟩)
              go_ret
              exact ⟨rfl, HBw.out.trans (hb.mono HBw.out.size)⟩
            · have hklt : ¬ (k : Int) < (len0 : Int) := by omega
              have HBw := Lib.hid HT2.out.bel
              go_wp2_with (go_at_call 11; refine (hA _).mono ?_; rintro e w9 ⟨rfl, hb⟩)
              go_ret
              exact ⟨rfl, HBw.out.trans (hb.mono HBw.out.size)⟩
end Go.Proofs.Ytkmkejmpdjefgaa
