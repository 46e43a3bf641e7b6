/- LockOwn: the walk, over any contracts of the code's. -/
import Derived.Test.YtkmkejmpdjefgaaLockTurnsCore
import Derived.Test.YtkmkejmpdjefgaaSetKit
namespace Go.Proofs.Ytkmkejmpdjefgaa
open Go.RowKit
set_option linter.unusedVariables false
theorem own_keep {w w' : World} {base size n c B : Nat} {e : TypeId} {A : Option Addr} {vs : List Value} (h : w.ownsRow base e size (.slice A n c) n vs) (hlt : ∀ a, A = some a → a.block < B) (hb : Below B w w') : w'.ownsRow base e size (.slice A n c) n vs := by
  obtain ⟨h1, h2⟩ := h
  refine ⟨h1, ?_⟩
  rcases h2 with h2 | ⟨g, cap, cur, hv, hg, hh, r⟩
  · exact .inl h2
  · injection hv with hv1 hv2 hv3
    exact .inr ⟨g, cap, cur, by rw [hv1, hv3], hg, (hb.block g (hlt _ hv1)).trans hh, r⟩
theorem ownI_set {w : World} {base n c g : Nat} {l : List Int} (h : w.ownsRow base 3 1 (.slice (some ⟨g, 0, none⟩) n c) n (iv l)) (j : Nat) (x : Int) :
    (w.setCell ⟨g, j, none⟩ (.int .i64 x)).ownsRow base 3 1 (.slice (some ⟨g, 0, none⟩) n c) n (iv (l.set j x)) := by
  have := (h.stored j (.int .i64 x)).1
  unfold iv at this ⊢
  rw [List.map_set]
  exact this
theorem own_frozen {w : World} {base size n c g : Nat} {e : TypeId} {vs : List Value} (h : w.ownsRow base e size (.slice (some ⟨g, 0, none⟩) n c) n vs) (j : Nat) : w.frozen? ⟨g, j, none⟩ = false := by
  rcases own_blk h with ⟨h1, _⟩ | ⟨g', cur, h1, _, h2⟩
  · cases h1
  · injection h1 with h1; injection h1 with h1; subst h1; exact h2.frozen j
theorem ownI_some {w : World} {base : Nat} {A : Option Addr} {n c : Nat} {l : List Int} (h : w.ownsRow base 3 1 (.slice A n c) n (iv l)) {j : Nat} (hj : j < n) : ∃ (g : Nat) (z : Int), A = some ⟨g, 0, none⟩ ∧ base ≤ g ∧ g < w.heap.size ∧ w.cell? ⟨g, j, none⟩ = some (.int .i64 z) ∧ w.frozen? ⟨g, j, none⟩ = false := by
  have hl : l.length = n := by have := h.1; rw [iv_length] at this; omega
  obtain ⟨z, hz⟩ : ∃ z, l[j]? = some z := ⟨_, List.getElem?_eq_getElem (by omega)⟩
  obtain ⟨g, rfl, h1, h2⟩ := own_addr h (by omega)
  exact ⟨g, z, rfl, h1, h2, (h.cellAt j (by omega)).trans (iv_get hz), own_frozen h j⟩
theorem own_more_ {w : World} {base base' : Nat} {e : TypeId} {s n : Nat} {v : Value} {xs : List Value} (h : w.ownsRow base e s v n xs) (hb : base' ≤ base) : w.ownsRow base' e s v n xs := by
  obtain ⟨h1, h2⟩ := h
  refine ⟨h1, ?_⟩
  rcases h2 with h2 | ⟨g, cap, cur, hv, hb', r⟩
  · exact .inl h2
  · exact .inr ⟨g, cap, cur, hv, by omega, r⟩
theorem takeS_5 {s : List Int} (x : Int) (h : s.length ≤ 5) : (takeS s x).length ≤ 5 := by
  unfold takeS
  split
  · exact h
  · split
    · exact h
    · simp; omega
set_option maxHeartbeats 4000000 in
set_option maxRecDepth 100000 in
theorem lockOwn_core (hT : TakeC) (hF : FreeC) (hO : OwnerC) (hA : AwakeC6) (a0 : Option Addr) (len0 cap0 : Nat) (z0 : List Int) (a1 a2 : Int) (w : World) (w0 : IsRow .i64 w a0 len0 cap0 z0) :
    Calls Try.prog 5 #[.slice a0 len0 cap0, .int .i64 a1, .int .i64 a2] w fun e w' => e = .returned (.bool true) ∧ Below w.heap.size w w' := by
  obtain ⟨hz, hzl, hle0, hcap0⟩ := w0.ints
  obtain ⟨zs, hzs⟩ : ∃ zs, zs = z0.take len0 := ⟨_, rfl⟩
  rw [← hzs] at hz hzl
  have hn0 : len0 ≤ 9223372036854775807 := Nat.le_trans hle0 hcap0
  have HZ := Lib.hid hz
  have HZL := Lib.hid hzl
  clear w0 hcap0 hzs hz hzl
  go_enter Try.func5, Try.ntmps5
  go_upto_block 0 with fail
  go_cut [7, 8] from 16 to 35 (fun s7 s8 wx => ∃ (A : Option Addr) (c : Nat) (L : List Int), s7 = .slice A L.length c ∧ Hid (RdL w wx A L.length c L) ∧ Hid L.Nodup ∧ L.length ≤ 5)
  case first =>
    go_wp2_with fail
    go_loopw [7, 8] (fun s7 s8 wr => ∃ (i : Nat) (A : Option Addr) (c : Nat) (L : List Int), i ≤ len0 ∧ s8 = .int .i64 (i : Int) ∧ s7 = .slice A L.length c ∧ Hid (RdL w wr A L.length c L) ∧ Hid L.Nodup ∧ L.length ≤ 5) (fun _ s8 _ => len0 - (intOf s8).toNat)
    case atStart => exact ⟨0, none, 0, [], Nat.zero_le _, rfl, rfl, Lib.hid ⟨Rd.none_ _ _ _, Nat.le_refl _, Below.refl _ _⟩, Lib.hid (by simp), by simp⟩
    case round =>
      obtain ⟨i, A, c, L, hi, rfl, rfl, HS, HN, h5⟩ := hrel
      by_cases hlt : i < len0
      · by_cases h20 : i < 20
        · have hk1 : (i : Int) < (len0 : Int) := by omega
          have hk2 : (i : Int) < 20 := by omega
          have hwi : IntKind.i64.wrap ((i : Int) + 1) = (i : Int) + 1 := IntWalk.i64_in _ (by omega)
          obtain ⟨z, hz⟩ : ∃ z, zs[i]? = some z := ⟨_, List.getElem?_eq_getElem (by have := HZL.out; omega)⟩
          have hzc := (HZ.out.below HS.out.bel).fit
          obtain ⟨b, o, rfl, _⟩ := hzc.int_at hlt
          have hc0 := hzc.int_cell hlt hz
          have e7 := and_7 z
          clear hz hzc
          go_wp2_with fail
          refine (hT (W := w) (z % 8) (by omega) HS.out.le HS.out.r HS.out.bel).mono ?_
          rintro e w1 ⟨A1, c1, A2, c2, rfl, hq, hv, hB1, _⟩
          unfold resV
          have HS2 : Hid (RdL w w1 A1 (takeS L (z % 8)).length c1 (takeS L (z % 8))) := Lib.hid ⟨Rd.own_ hq, ownI_cap hq, hB1⟩
          clear hq hv hB1
          go_wp2_with fail
          go_roundw
          case rel => exact ⟨i + 1, A1, c1, takeS L (z % 8), by omega, by go_num, rfl, HS2, Lib.hid (takeS_nodup _ HN.out), takeS_5 _ h5⟩
          case measure => simp [intOf]; omega
        · have hk1 : (i : Int) < (len0 : Int) := by omega
          have hk2 : ¬ (i : Int) < 20 := by omega
          go_wp2_with fail
          go_meet
          exact ⟨A, c, L, rfl, HS, HN, h5⟩
      · have hk1 : ¬ (i : Int) < (len0 : Int) := by omega
        go_wp2_with fail
        go_meet
        exact ⟨A, c, L, rfl, HS, HN, h5⟩
  case rest =>
    obtain ⟨A, c, L, rfl, HS, HN, h5⟩ := hcut
    rename World => wc
    have e15 := and_15 a1
    have e15' := and_15 a2
    go_wp2_with (first
      | (at_builtin
         refine wpList_append_cells (W := wc) cellI (.tmp 36) (.tmp 37) rfl (by rfl) rfl (ownI_at (Below.refl _ _) rfl) rfl (HS.out.r.alloc (Nat.le_refl _) _) (iv_one _) (by omega) (by omega) ((Below.refl _ _).alloc (Nat.le_refl _) _) ?_
         intro A1 c1 wA hownA hBA hgA
         simp only [Nat.zero_add] at hownA
         clear hgA)
      | fail)
    have HWA : Hid (OwnI wc wA A1 L.length c1 L) := Lib.hid hownA
    have HBA := Lib.hid hBA
    clear hownA hBA
    refine (hT (W := wA) (a1 % 16) (by omega) HS.out.le (HS.out.r.below HBA.out) (Below.refl _ _)).mono ?_
    obtain ⟨N1, hN1⟩ : ∃ N, takeN L (a1 % 16) = N := ⟨_, rfl⟩
    obtain ⟨E1, hE1⟩ : ∃ N, takeE L (a1 % 16) = N := ⟨_, rfl⟩
    obtain ⟨T1, hT1⟩ : ∃ N, takeS L (a1 % 16) = N := ⟨_, rfl⟩
    have HT5 : Hid (T1.length ≤ 5) := Lib.hid (by rw [← hT1]; exact takeS_5 _ h5)
    rw [hN1, hE1, hT1]
    clear hN1 hE1 hT1
    rintro e w1 ⟨A2, c2, A3, c3, rfl, hq, hv, hB1, _⟩
    unfold resV
    have b2 : Below w1.heap.size w1 (w1.alloc (.cells #[.int .i64 E1, .slice A3 0 c3, .int .i64 N1] 28)) := (Below.refl _ _).alloc (Nat.le_refl _) _
    have HQ := Lib.hid (ownsRow_below hq b2)
    have HQL := Lib.hid (own_block_lt hq)
    have HB1 := Lib.hid (hB1.trans (b2.mono hB1.size))
    clear hq hv hB1 b2
    go_wp2_with fail
    refine (hF (W := w1.alloc (.cells #[.int .i64 E1, .slice A3 0 c3, .int .i64 N1] 28)) (a2 % 16) (by omega) HS.out.le HN.out ((HS.out.r.below HBA.out).fit.below HB1.out) (Below.refl _ _)).mono ?_
    obtain ⟨N2, hN2⟩ : ∃ N, freeN L (a2 % 16) = N := ⟨_, rfl⟩
    obtain ⟨E2, hE2⟩ : ∃ N, freeE L (a2 % 16) = N := ⟨_, rfl⟩
    obtain ⟨T2, hT2⟩ : ∃ N, L.erase (a2 % 16) = N := ⟨_, rfl⟩
    have HT6 : Hid (T2.length ≤ 5) := Lib.hid (by rw [← hT2]; exact Nat.le_trans List.length_erase_le h5)
    rw [hN2, hE2, hT2]
    clear hN2 hE2 hT2
    rintro e w2 ⟨A4, c4, A5, c5, rfl, hq2, hv2, hB2, _⟩
    unfold resV
    obtain ⟨B2, hB2e⟩ : ∃ B2, w1.heap.size + 1 = B2 := ⟨_, rfl⟩
    have hsz : (w1.alloc (.cells #[.int .i64 E1, .slice A3 0 c3, .int .i64 N1] 28)).heap.size = B2 := by rw [← hB2e]; simp
    have b3 : Below w2.heap.size w2 (w2.alloc (.cells #[.int .i64 E2, .slice A5 0 c5, .int .i64 N2] 28)) := (Below.refl _ _).alloc (Nat.le_refl _) _
    have HU : Hid ((w2.alloc (.cells #[.int .i64 E2, .slice A5 0 c5, .int .i64 N2] 28)).ownsRow B2 3 1 (.slice A4 T2.length c4) T2.length (iv T2)) := Lib.hid (by have h := ownsRow_below hq2 b3; rwa [hsz] at h)
    have hb23 : Below B2 (w1.alloc (.cells #[.int .i64 E1, .slice A3 0 c3, .int .i64 N1] 28)) (w2.alloc (.cells #[.int .i64 E2, .slice A5 0 c5, .int .i64 N2] 28)) := by have h := hB2.trans (b3.mono hB2.size); rwa [hsz] at h
    have HTG : Hid (∀ a, A2 = some a → a.block < B2) := Lib.hid (fun a ha => by have := HQL.out a ha; omega)
    have HT1 : Hid (OwnI wA (w2.alloc (.cells #[.int .i64 E2, .slice A5 0 c5, .int .i64 N2] 28)) A2 T1.length c2 T1) := Lib.hid (own_keep HQ.out HTG.out hb23)
    have HBC := Lib.hid (HB1.out.trans (hb23.mono (by have := HB1.out.size; omega)))
    have HAB : Hid (wA.heap.size ≤ B2) := Lib.hid (by have := HB1.out.size; omega)
    clear hq2 hv2 hB2 b3 hb23 hsz hB2e HQ HQL HB1
    go_wp2_with fail
    go_loopw [55] (fun s55 wr => ∃ (k : Nat) (xs : List Int), k ≤ T1.length ∧ s55 = .int .i64 (k : Int) ∧ Hid (OwnI wA wr A2 T1.length c2 xs) ∧ Hid (wr.ownsRow B2 3 1 (.slice A4 T2.length c4) T2.length (iv T2)) ∧ Hid (Below wA.heap.size wA wr)) (fun s55 _ => T1.length - (intOf s55).toNat)
    case atStart => exact ⟨0, T1, Nat.zero_le _, rfl, HT1, HU, HBC⟩
    case round =>
      clear HT1 HU HBC
      obtain ⟨k, xs, hk, rfl, HT1, HU, HBC⟩ := hrel
      have h15 := HT5.out
      by_cases hlt : k < T1.length
      · obtain ⟨g, v, rfl, hg1, hg2, hc, hf⟩ := ownI_some HT1.out hlt
        have hgB := HTG.out _ rfl
        have hwk : IntKind.i64.wrap ((k : Int) + 1) = (k : Int) + 1 := IntWalk.i64_in _ (by omega)
        have HT2 := Lib.hid (ownI_set HT1.out k 777)
        have HU2 := Lib.hid (own_set_lt HU.out hgB k (.int .i64 777))
        have HB2 := Lib.hid (HBC.out.setCell (p := ⟨g, k, none⟩) hg1 (.int .i64 777))
        clear HT1 HU HBC hg1 hg2 hgB h15
        go_wp2_with fail
        go_roundw
        case rel => exact ⟨k + 1, _, by omega, by go_num, HT2, HU2, HB2⟩
        case measure => simp only [intOf]; omega
      · obtain rfl : k = T1.length := by omega
        clear hlt hk
        rename World => wy
        go_wp2_with fail
        go_loopw [64] (fun s64 wr => ∃ (k : Nat) (xs2 : List Int), k ≤ T2.length ∧ s64 = .int .i64 (k : Int) ∧ Hid (OwnI wA wr A2 T1.length c2 xs) ∧ Hid (wr.ownsRow B2 3 1 (.slice A4 T2.length c4) T2.length (iv xs2)) ∧ Hid (Below wA.heap.size wA wr)) (fun s64 _ => T2.length - (intOf s64).toNat)
        case atStart => exact ⟨0, T2, Nat.zero_le _, rfl, HT1, HU, HBC⟩
        case round =>
          clear HT1 HU HBC
          obtain ⟨k, xs2, hk, rfl, HT1, HU, HBC⟩ := hrel
          have h16 := HT6.out
          by_cases hlt : k < T2.length
          · obtain ⟨g, v, rfl, hg1, hg2, hc, hf⟩ := ownI_some HU.out hlt
            have hwk : IntKind.i64.wrap ((k : Int) + 1) = (k : Int) + 1 := IntWalk.i64_in _ (by omega)
            have HU2 := Lib.hid (ownI_set HU.out k 777)
            have HT2 := Lib.hid (own_keep HT1.out HTG.out ((Below.refl _ _).setCell (p := ⟨g, k, none⟩) hg1 (.int .i64 777)))
            have HB2 := Lib.hid (HBC.out.setCell (p := ⟨g, k, none⟩) (Nat.le_trans HAB.out hg1) (.int .i64 777))
            clear HT1 HU HBC hg1 hg2 h16 h15
            go_wp2_with fail
            go_roundw
            case rel => exact ⟨k + 1, _, by omega, by go_num, HT2, HU2, HB2⟩
            case measure => simp only [intOf]; omega
          · obtain rfl : k = T2.length := by omega
            clear hlt hk
            rename World => wz
            have hsum : IntKind.i64.wrap (((T1.length : Int) + 1) + ((T2.length : Int) + 1)) = ((T1.length : Int) + 1) + ((T2.length : Int) + 1) := IntWalk.i64_in _ (by omega)
            have hge : (2 : Int) ≤ ((T1.length : Int) + 1) + ((T2.length : Int) + 1) := by omega
            go_upto_region 21 with (first
              | (at_builtin
                 refine wpList_append_cells (W := wA) cellI (.tmp 71) (.tmp 72) rfl (by rfl) rfl (ownsRow_below HT1.out ((Below.refl _ _).alloc (Nat.le_refl _) _)) rfl (Rd.oneAt _ _ _ rfl) (by intro u hu; simp at hu; subst hu; rfl) (by omega) (by omega) (HBC.out.alloc HBC.out.size _) ?_
                 intro A6 c6 w6 hown6 hB6 hg6
                 have HU6 := Lib.hid (own_grown_lt (ownsRow_below HU.out ((Below.refl _ _).alloc (Nat.le_refl _) (.cells #[.int .i64 1] 3))) hg6 HTG.out)
                 clear hown6 hg6)
              | (at_builtin
                 refine wpList_append_cells (W := wA) cellI (.tmp 74) (.tmp 75) rfl (by rfl) rfl (ownsRow_below (own_more_ HU6.out HAB.out) ((Below.refl _ _).alloc (Nat.le_refl _) _)) rfl (Rd.oneAt _ _ _ rfl) (by intro u hu; simp at hu; subst hu; rfl) (by omega) (by omega) (hB6.alloc hB6.size _) ?_
                 intro A7 c7 w7 hown7 hB7 hg7
                 clear hown7 hg7)
              | fail)
            go_wp2_with fail
            refine (sameI_is _ (c := c) (c' := c1) ((HS.out.r.below HBA.out).fit.below hB7) ((Rd.own_ HWA.out).below hB7) (by unfold maxLen; omega)).mono ?_
            rintro e w8 ⟨rfl, hb8⟩
            go_wp2_with (go_at_call 11; refine (hA _).mono ?_; rintro e w9 ⟨rfl, hb⟩)
            go_ret
            have h1 : Below wc.heap.size wc w8 := HBA.out.trans ((hB7.trans (hb8.mono hB7.size)).mono HBA.out.size)
            have h2 := HS.out.bel.trans (h1.mono HS.out.bel.size)
            exact ⟨rfl, h2.trans (hb.mono h2.size)⟩
end Go.Proofs.Ytkmkejmpdjefgaa
