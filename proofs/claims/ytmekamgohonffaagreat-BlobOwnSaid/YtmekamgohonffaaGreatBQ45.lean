/- MachGet2 MachChk -/
import Derived.Test.YtmekamgohonffaaGreatBQ08
import Derived.Test.YtmekamgohonffaaGreatBQ14
import Derived.Test.YtmekamgohonffaaGreatBQ17
import Derived.Test.YtmekamgohonffaaGreatBQ23
import Derived.Test.YtmekamgohonffaaGreatBQ24
import Derived.Test.YtmekamgohonffaaGreatBQ33
import Derived.Test.YtmekamgohonffaaGreatBQ36
import Derived.Test.YtmekamgohonffaaGreatBQ44
import Derived.Deep.RegionHeld3
import Derived.Deep.RegionLaw
namespace Go.Proofs.YtmekamgohonffaaGreat
open Go.RowKit
set_option linter.unusedVariables false
set_option maxHeartbeats 2000000 in
set_option maxRecDepth 100000 in
theorem getEachQ_any (w : World) (b : Nat) (s : Pk.St) {most : Int} (hm0 : 0 ≤ most) (hm : most ≤ 100) (h : RdrAt w b s) {R : List (List Nat)} {s' : Pk.St} (hR : (getQ (Pk.numV s most) (Pk.numS s most)).1 = R) (hs' : (getQ (Pk.numV s most) (Pk.numS s most)).2 = s') :
    Calls Tryz.prog 55 #[.pointer (some ⟨b, 0, none⟩), .int .i64 most, .func (.func 54) #[] #[]] w fun en w' => ∃ A c, en = .returned (.slice A R.length c) ∧ OwnQ w w' A R.length c R ∧ RdrAt w' b s' ∧ Only b w w' := by
  have hbl := h.lt
  have HBL := Lib.hid hbl
  obtain ⟨n, hn⟩ : ∃ x, Pk.numV s most = x := ⟨_, rfl⟩
  obtain ⟨s1, hs1⟩ : ∃ x, Pk.numS s most = x := ⟨_, rfl⟩
  have hn100 : n ≤ 100 := by have := numV_le s hm0; omega
  have HC := Lib.hid (rnum_is w b s most h n s1 hn hs1)
  rw [hn, hs1] at hR hs'
  have HG : Hid (getQ n s1 = (R, s')) := Lib.hid (by rw [← hR, ← hs'])
  have H0 : Hid (RgSt w w b s) := Lib.hid ⟨h, only_refl b w⟩
  clear hR hs' hn hs1 h
  go_enter Tryz.func55, Tryz.ntmps55
  go_wp2_with (first
    | (go_at_call 25; refine HC.out.mono ?_; rintro en w1 ⟨rfl, hr1, hb1⟩; have HS1 := Lib.hid (H0.out.call hr1 hb1); clear hr1 hb1 HC)
    | fail)
  go_loopw [7, 11] (fun s7 s11 wr => ∃ (k : Nat) (A1 : Option Addr) (c1 : Nat) (acc : List (List Nat)) (sk : Pk.St), k ≤ n ∧ s11 = .int .i64 (k : Int) ∧ s7 = .slice A1 k c1 ∧ Hid (RgSt w wr b sk) ∧ Hid (OwnQ w wr A1 k c1 acc) ∧ Hid (getQ n s1 = (acc ++ (getQ (n - k) sk).1, (getQ (n - k) sk).2))) (fun _ s11 _ => n - (intOf s11).toNat)
  case atStart => exact ⟨0, none, 0, [], s1, Nat.zero_le _, rfl, rfl, HS1, Lib.hid (OwnQ.nil _ _), Lib.hid (by simp)⟩
  case round =>
    clear HS1 H0
    obtain ⟨k, A1, c1, acc, sk, hk, rfl, rfl, HS, HO, HQ⟩ := hrel
    by_cases hlt : k < n
    · obtain ⟨m, hm1⟩ : ∃ m, n - k = m + 1 := ⟨n - k - 1, by omega⟩
      have hstep : getQ (m + 1) sk = (Pk.bytV sk 16 :: (getQ m (Pk.bytS sk 16)).1, (getQ m (Pk.bytS sk 16)).2) := rfl
      have hq := HQ.out
      rw [hm1, hstep] at hq
      obtain ⟨x, ex⟩ : ∃ x, Pk.bytV sk 16 = x := ⟨_, rfl⟩
      obtain ⟨t, et⟩ : ∃ x, Pk.bytS sk 16 = x := ⟨_, rfl⟩
      rw [ex, et] at hq
      have HC := Lib.hid (getVal_any wr b sk HS.out.r ex et)
      have hmk : n - (k + 1) = m := by omega
      have HQN : Hid (getQ n s1 = ((acc ++ [x]) ++ (getQ (n - (k + 1)) t).1, (getQ (n - (k + 1)) t).2)) := Lib.hid (by rw [hmk, hq]; simp)
      clear hq hstep ex et hm1 hmk HQ
      go_wp2_with (first
        | (go_at_call 54; refine HC.out.mono ?_; rintro en w1 ⟨A2, c2, rfl, ho2, hr2, hb2⟩
           have b1 : Below w1.heap.size w1 (w1.alloc (.cells #[.slice A2 x.length c2] 23)) := (Below.refl _ _).alloc (Nat.le_refl _) _
           have HS2 := Lib.hid ((HS.out.call hr2 hb2).below b1)
           obtain ⟨vs, hv1, hv2⟩ := (HO.out.old hb2 (Old.some HBL.out)).below b1
           have HO2 := Lib.hid (own_below (own_of HS.out.size ho2) b1)
           have hsz : w.heap.size ≤ (w1.alloc (.cells #[.slice A2 x.length c2] 23)).heap.size := HS2.out.size)
        | (at_builtin
           refine wpList_append_at w.heap.size hsz cellQ (.tmp 13) (.tmp 17) rfl (by rfl) rfl hv1 rfl (Rd.oneV _ _ _) (by intro u hu; simp at hu; subst hu; rfl) (by omega) (by omega) ?_
           intro A3 c3 w3 hown3 hg3)
        | fail)
      go_roundw
      case rel =>
        refine ⟨k + 1, A3, c3, acc ++ [x], t, by omega, by go_num, rfl, Lib.hid (HS2.out.row hv1 (by decide) (by decide) hg3), Lib.hid ?_, HQN⟩
        refine ⟨vs ++ [.slice A2 x.length c2], hown3, (hv2.snoc HO2.out).grown hv1 hg3⟩
      case measure => simp only [intOf]; omega
    · have hq := HQ.out
      have hnk : n - k = 0 := by omega
      rw [hnk, show getQ 0 sk = ([], sk) from rfl, List.append_nil, HG.out] at hq
      injection hq with h1 h2
      subst h1 h2
      have hlen : R.length = k := HO.out.length
      subst hlen
      go_wp2_with fail
      go_ret
      exact ⟨A1, c1, rfl, HO.out, HS.out.r, HS.out.only⟩
set_option maxHeartbeats 2000000 in
set_option maxRecDepth 100000 in
theorem getEachI_any (w : World) (b : Nat) (s : Pk.St) {most : Int} (hm0 : 0 ≤ most) (hm : most ≤ 100) (h : RdrAt w b s) {R : List Int} {s' : Pk.St} (hR : (getI (Pk.numV s most) (Pk.numS s most)).1 = R) (hs' : (getI (Pk.numV s most) (Pk.numS s most)).2 = s') :
    Calls Tryz.prog 56 #[.pointer (some ⟨b, 0, none⟩), .int .i64 most, .func (.func 57) #[] #[]] w fun en w' => ∃ A c, en = .returned (.slice A R.length c) ∧ OwnI w w' A R.length c R ∧ RdrAt w' b s' ∧ Only b w w' := by
  have hbl := h.lt
  have HBL := Lib.hid hbl
  obtain ⟨n, hn⟩ : ∃ x, Pk.numV s most = x := ⟨_, rfl⟩
  obtain ⟨s1, hs1⟩ : ∃ x, Pk.numS s most = x := ⟨_, rfl⟩
  have hn100 : n ≤ 100 := by have := numV_le s hm0; omega
  have HC := Lib.hid (rnum_is w b s most h n s1 hn hs1)
  rw [hn, hs1] at hR hs'
  have HG : Hid (getI n s1 = (R, s')) := Lib.hid (by rw [← hR, ← hs'])
  have H0 : Hid (RgSt w w b s) := Lib.hid ⟨h, only_refl b w⟩
  clear hR hs' hn hs1 h
  go_enter Tryz.func56, Tryz.ntmps56
  go_wp2_with (first
    | (go_at_call 25; refine HC.out.mono ?_; rintro en w1 ⟨rfl, hr1, hb1⟩; have HS1 := Lib.hid (H0.out.call hr1 hb1); clear hr1 hb1 HC)
    | fail)
  go_loopw [7, 11] (fun s7 s11 wr => ∃ (k : Nat) (A1 : Option Addr) (c1 : Nat) (acc : List Int) (sk : Pk.St), k ≤ n ∧ s11 = .int .i64 (k : Int) ∧ s7 = .slice A1 k c1 ∧ Hid (RgSt w wr b sk) ∧ Hid (OwnI w wr A1 k c1 acc) ∧ Hid (getI n s1 = (acc ++ (getI (n - k) sk).1, (getI (n - k) sk).2))) (fun _ s11 _ => n - (intOf s11).toNat)
  case atStart => exact ⟨0, none, 0, [], s1, Nat.zero_le _, rfl, rfl, HS1, Lib.hid (ownI_nil _ _), Lib.hid (by simp)⟩
  case round =>
    clear HS1 H0
    obtain ⟨k, A1, c1, acc, sk, hk, rfl, rfl, HS, HO, HQ⟩ := hrel
    by_cases hlt : k < n
    · obtain ⟨m, hm1⟩ : ∃ m, n - k = m + 1 := ⟨n - k - 1, by omega⟩
      have hstep : getI (m + 1) sk = ((Pk.numV sk 999 : Int) :: (getI m (Pk.numS sk 999)).1, (getI m (Pk.numS sk 999)).2) := rfl
      have hq := HQ.out
      rw [hm1, hstep] at hq
      obtain ⟨x, ex⟩ : ∃ x, Pk.numV sk 999 = x := ⟨_, rfl⟩
      obtain ⟨t, et⟩ : ∃ x, Pk.numS sk 999 = x := ⟨_, rfl⟩
      rw [ex, et] at hq
      have HC := Lib.hid (getWho_any wr b sk HS.out.r ex et)
      have hmk : n - (k + 1) = m := by omega
      have HQN : Hid (getI n s1 = ((acc ++ [(x : Int)]) ++ (getI (n - (k + 1)) t).1, (getI (n - (k + 1)) t).2)) := Lib.hid (by rw [hmk, hq]; simp)
      clear hq hstep ex et hm1 hmk HQ
      go_wp2_with (first
        | (go_at_call 57; refine HC.out.mono ?_; rintro en w1 ⟨rfl, hr2, hb2⟩
           have b1 : Below w1.heap.size w1 (w1.alloc (.cells #[.int .i64 (x : Int)] 3)) := (Below.refl _ _).alloc (Nat.le_refl _) _
           have HS2 := Lib.hid ((HS.out.call hr2 hb2).below b1)
           have hv1 := ownsRow_below (own_old HO.out hb2 (Old.some HBL.out)) b1
           have hsz : w.heap.size ≤ (w1.alloc (.cells #[.int .i64 (x : Int)] 3)).heap.size := HS2.out.size)
        | (at_builtin
           refine wpList_append_at w.heap.size hsz cellI (.tmp 13) (.tmp 17) rfl (by rfl) rfl hv1 rfl (Rd.oneV _ _ _) (by intro u hu; simp at hu; subst hu; rfl) (by omega) (by omega) ?_
           intro A3 c3 w3 hown3 hg3)
        | fail)
      go_roundw
      case rel =>
        refine ⟨k + 1, A3, c3, acc ++ [(x : Int)], t, by omega, by go_num, rfl, Lib.hid (HS2.out.row hv1 (by decide) (by decide) hg3), Lib.hid ?_, HQN⟩
        unfold OwnI
        rw [iv_snocO]
        exact hown3
      case measure => simp only [intOf]; omega
    · have hq := HQ.out
      have hnk : n - k = 0 := by omega
      rw [hnk, show getI 0 sk = ([], sk) from rfl, List.append_nil, HG.out] at hq
      injection hq with h1 h2
      subst h1 h2
      have hlen : R.length = k := ownI_len HO.out
      subst hlen
      go_wp2_with fail
      go_ret
      exact ⟨A1, c1, rfl, HO.out, HS.out.r, HS.out.only⟩
set_option maxHeartbeats 2000000 in
set_option maxRecDepth 100000 in
theorem getEachP_any (w : World) (b : Nat) (s : Pk.St) {most : Int} (hm0 : 0 ≤ most) (hm : most ≤ 100) (h : RdrAt w b s) {R : List Pr} {s' : Pk.St} (hR : (getP (Pk.numV s most) (Pk.numS s most)).1 = R) (hs' : (getP (Pk.numV s most) (Pk.numS s most)).2 = s') :
    Calls Tryz.prog 58 #[.pointer (some ⟨b, 0, none⟩), .int .i64 most, .func (.func 59) #[] #[]] w fun en w' => ∃ A c, en = .returned (.slice A R.length c) ∧ OwnP w w' A R.length c R ∧ RdrAt w' b s' ∧ Only b w w' := by
  have hbl := h.lt
  have HBL := Lib.hid hbl
  obtain ⟨n, hn⟩ : ∃ x, Pk.numV s most = x := ⟨_, rfl⟩
  obtain ⟨s1, hs1⟩ : ∃ x, Pk.numS s most = x := ⟨_, rfl⟩
  have hn100 : n ≤ 100 := by have := numV_le s hm0; omega
  have HC := Lib.hid (rnum_is w b s most h n s1 hn hs1)
  rw [hn, hs1] at hR hs'
  have HG : Hid (getP n s1 = (R, s')) := Lib.hid (by rw [← hR, ← hs'])
  have H0 : Hid (RgSt w w b s) := Lib.hid ⟨h, only_refl b w⟩
  clear hR hs' hn hs1 h
  go_enter Tryz.func58, Tryz.ntmps58
  go_wp2_with (first
    | (go_at_call 25; refine HC.out.mono ?_; rintro en w1 ⟨rfl, hr1, hb1⟩; have HS1 := Lib.hid (H0.out.call hr1 hb1); clear hr1 hb1 HC)
    | fail)
  go_loopw [7, 11] (fun s7 s11 wr => ∃ (k : Nat) (A1 : Option Addr) (c1 : Nat) (acc : List Pr) (sk : Pk.St), k ≤ n ∧ s11 = .int .i64 (k : Int) ∧ s7 = .slice A1 k c1 ∧ Hid (RgSt w wr b sk) ∧ Hid (OwnP w wr A1 k c1 acc) ∧ Hid (getP n s1 = (acc ++ (getP (n - k) sk).1, (getP (n - k) sk).2))) (fun _ s11 _ => n - (intOf s11).toNat)
  case atStart => exact ⟨0, none, 0, [], s1, Nat.zero_le _, rfl, rfl, HS1, Lib.hid (OwnP.nil _ _), Lib.hid (by simp)⟩
  case round =>
    clear HS1 H0
    obtain ⟨k, A1, c1, acc, sk, hk, rfl, rfl, HS, HO, HQ⟩ := hrel
    by_cases hlt : k < n
    · obtain ⟨m, hm1⟩ : ∃ m, n - k = m + 1 := ⟨n - k - 1, by omega⟩
      have hstep : getP (m + 1) sk = ((getP1 sk).1 :: (getP m (getP1 sk).2).1, (getP m (getP1 sk).2).2) := rfl
      have hq := HQ.out
      rw [hm1, hstep] at hq
      obtain ⟨x, ex⟩ : ∃ x, (getP1 sk).1 = x := ⟨_, rfl⟩
      obtain ⟨t, et⟩ : ∃ x, (getP1 sk).2 = x := ⟨_, rfl⟩
      rw [ex, et] at hq
      have HC := Lib.hid (getPair_any wr b sk HS.out.r)
      rw [ex, et] at HC
      have hmk : n - (k + 1) = m := by omega
      have HQN : Hid (getP n s1 = ((acc ++ [x]) ++ (getP (n - (k + 1)) t).1, (getP (n - (k + 1)) t).2)) := Lib.hid (by rw [hmk, hq]; simp)
      clear hq hstep ex et hm1 hmk HQ
      go_wp2_with (first
        | (go_at_call 59; refine HC.out.mono ?_; rintro en w1 ⟨A2, c2, A4, c4, rfl, ho2, ho4, hr2, hb2⟩
           have b1 : Below w1.heap.size w1 (w1.alloc (.cells #[.slice A2 x.1.length c2, .slice A4 x.2.length c4] 74)) := (Below.refl _ _).alloc (Nat.le_refl _) _
           have HS2 := Lib.hid ((HS.out.call hr2 hb2).below b1)
           obtain ⟨vs, hv1, hv2⟩ := (HO.out.old hb2 (Old.some HBL.out)).below b1
           have HO2 := Lib.hid (own_below (own_of HS.out.size ho2) b1)
           have HO4 := Lib.hid (own_below (own_of HS.out.size ho4) b1)
           have hsz : w.heap.size ≤ (w1.alloc (.cells #[.slice A2 x.1.length c2, .slice A4 x.2.length c4] 74)).heap.size := HS2.out.size)
        | (at_builtin
           refine wpList_append_atS w.heap.size hsz cellP (.tmp 13) (.tmp 17) rfl (by rfl) rfl hv1 rfl (Rd.twoAt _ _ _ _ rfl) (by intro u hu; simp at hu; rcases hu with rfl | rfl <;> rfl) (by omega) (by omega) ?_
           intro A3 c3 w3 hown3 hg3)
        | fail)
      go_roundw
      case rel =>
        refine ⟨k + 1, A3, c3, acc ++ [x], t, by omega, by go_num, rfl, Lib.hid (HS2.out.row hv1 (by decide) (by decide) hg3), Lib.hid ?_, HQN⟩
        refine ⟨vs ++ [.slice A2 x.1.length c2, .slice A4 x.2.length c4], hown3, ?_⟩
        rw [flat_append]
        exact (hv2.two HO2.out HO4.out).grownP hv1 hg3
      case measure => simp only [intOf]; omega
    · have hq := HQ.out
      have hnk : n - k = 0 := by omega
      rw [hnk, show getP 0 sk = ([], sk) from rfl, List.append_nil, HG.out] at hq
      injection hq with h1 h2
      subst h1 h2
      have hlen : R.length = k := HO.out.length
      subst hlen
      go_wp2_with fail
      go_ret
      exact ⟨A1, c1, rfl, HO.out, HS.out.r, HS.out.only⟩
set_option maxHeartbeats 2000000 in
set_option maxRecDepth 100000 in
theorem getEachT_any (w : World) (b : Nat) (s : Pk.St) {most : Int} (hm0 : 0 ≤ most) (hm : most ≤ 100) (h : RdrAt w b s) {R : List Ls} {s' : Pk.St} (hR : (getT (Pk.numV s most) (Pk.numS s most)).1 = R) (hs' : (getT (Pk.numV s most) (Pk.numS s most)).2 = s') :
    Calls Tryz.prog 60 #[.pointer (some ⟨b, 0, none⟩), .int .i64 most, .func (.func 61) #[] #[]] w fun en w' => ∃ A c, en = .returned (.slice A R.length c) ∧ OwnL w w' A R.length c R ∧ RdrAt w' b s' ∧ Only b w w' := by
  have hbl := h.lt
  have HBL := Lib.hid hbl
  obtain ⟨n, hn⟩ : ∃ x, Pk.numV s most = x := ⟨_, rfl⟩
  obtain ⟨s1, hs1⟩ : ∃ x, Pk.numS s most = x := ⟨_, rfl⟩
  have hn100 : n ≤ 100 := by have := numV_le s hm0; omega
  have HC := Lib.hid (rnum_is w b s most h n s1 hn hs1)
  rw [hn, hs1] at hR hs'
  have HG : Hid (getT n s1 = (R, s')) := Lib.hid (by rw [← hR, ← hs'])
  have H0 : Hid (RgSt w w b s) := Lib.hid ⟨h, only_refl b w⟩
  clear hR hs' hn hs1 h
  go_enter Tryz.func60, Tryz.ntmps60
  go_wp2_with (first
    | (go_at_call 25; refine HC.out.mono ?_; rintro en w1 ⟨rfl, hr1, hb1⟩; have HS1 := Lib.hid (H0.out.call hr1 hb1); clear hr1 hb1 HC)
    | fail)
  go_loopw [7, 11] (fun s7 s11 wr => ∃ (k : Nat) (A1 : Option Addr) (c1 : Nat) (acc : List Ls) (sk : Pk.St), k ≤ n ∧ s11 = .int .i64 (k : Int) ∧ s7 = .slice A1 k c1 ∧ Hid (RgSt w wr b sk) ∧ Hid (OwnL w wr A1 k c1 acc) ∧ Hid (getT n s1 = (acc ++ (getT (n - k) sk).1, (getT (n - k) sk).2))) (fun _ s11 _ => n - (intOf s11).toNat)
  case atStart => exact ⟨0, none, 0, [], s1, Nat.zero_le _, rfl, rfl, HS1, Lib.hid (OwnL.nil _ _), Lib.hid (by simp)⟩
  case round =>
    clear HS1 H0
    obtain ⟨k, A1, c1, acc, sk, hk, rfl, rfl, HS, HO, HQ⟩ := hrel
    by_cases hlt : k < n
    · obtain ⟨m, hm1⟩ : ∃ m, n - k = m + 1 := ⟨n - k - 1, by omega⟩
      have hstep : getT (m + 1) sk = ((getT1 sk).1 :: (getT m (getT1 sk).2).1, (getT m (getT1 sk).2).2) := rfl
      have hq := HQ.out
      rw [hm1, hstep] at hq
      obtain ⟨x, ex⟩ : ∃ x, (getT1 sk).1 = x := ⟨_, rfl⟩
      obtain ⟨t, et⟩ : ∃ x, (getT1 sk).2 = x := ⟨_, rfl⟩
      rw [ex, et] at hq
      have HC := Lib.hid (getLast_any wr b sk HS.out.r)
      rw [ex, et] at HC
      have hmk : n - (k + 1) = m := by omega
      have HQN : Hid (getT n s1 = ((acc ++ [x]) ++ (getT (n - (k + 1)) t).1, (getT (n - (k + 1)) t).2)) := Lib.hid (by rw [hmk, hq]; simp)
      clear hq hstep ex et hm1 hmk HQ
      go_wp2_with (first
        | (go_at_call 61; refine HC.out.mono ?_; rintro en w1 ⟨A2, c2, rfl, ho2, hr2, hb2⟩
           have b1 : Below w1.heap.size w1 (w1.alloc (.cells #[.int .i64 x.s, .int .i64 x.q, .int .i64 x.e, .slice A2 x.v.length c2, .int .i64 x.n] 79)) := (Below.refl _ _).alloc (Nat.le_refl _) _
           have HS2 := Lib.hid ((HS.out.call hr2 hb2).below b1)
           obtain ⟨vs, hv1, hv2⟩ := (HO.out.old hb2 (Old.some HBL.out)).below b1
           have HO2 := Lib.hid (own_below (own_of HS.out.size ho2) b1)
           have hsz : w.heap.size ≤ (w1.alloc (.cells #[.int .i64 x.s, .int .i64 x.q, .int .i64 x.e, .slice A2 x.v.length c2, .int .i64 x.n] 79)).heap.size := HS2.out.size)
        | (at_builtin
           refine wpList_append_atS w.heap.size hsz cellL (.tmp 13) (.tmp 17) rfl (by rfl) rfl hv1 rfl (Rd.lastAt _ A2 c2 x _ rfl) (lastC_one _ _ _) (by omega) (by omega) ?_
           intro A3 c3 w3 hown3 hg3)
        | fail)
      go_roundw
      case rel =>
        refine ⟨k + 1, A3, c3, acc ++ [x], t, by omega, by go_num, rfl, Lib.hid (HS2.out.row hv1 (by decide) (by decide) hg3), Lib.hid ?_, HQN⟩
        refine ⟨vs ++ lastC A2 c2 x, hown3, (hv2.snoc HO2.out).grown (by decide) hv1 hg3⟩
      case measure => simp only [intOf]; omega
    · have hq := HQ.out
      have hnk : n - k = 0 := by omega
      rw [hnk, show getT 0 sk = ([], sk) from rfl, List.append_nil, HG.out] at hq
      injection hq with h1 h2
      subst h1 h2
      have hlen : R.length = k := HO.out.length
      subst hlen
      go_wp2_with fail
      go_ret
      exact ⟨A1, c1, rfl, HO.out, HS.out.r, HS.out.only⟩
end Go.Proofs.YtmekamgohonffaaGreat

namespace Go.Proofs.YtmekamgohonffaaGreat
open Go.RowKit
set_option linter.unusedVariables false
theorem cmpB_neg {l m : List Nat} (hl : ∀ x ∈ l, x < 256) (hm : ∀ x ∈ m, x < 256) : (cmpB l m < 0) ↔ Mp.ltB l m = true := by
  unfold cmpB
  induction l generalizing m with
  | nil => cases m <;> simp [Lib.compareBytes, Mp.ltB]
  | cons a l ih =>
    cases m with
    | nil => simp [Lib.compareBytes, Mp.ltB]
    | cons b m =>
      have ha := hl a (by simp)
      have hb := hm b (by simp)
      have ih' := ih (m := m) (fun x hx => hl x (by simp [hx])) (fun x hx => hm x (by simp [hx]))
      have lt1 : ∀ a b : Nat, a < 256 → b < 256 → ((UInt8.ofNat a < UInt8.ofNat b) ↔ a < b) := fun a b ha hb => by
        rw [UInt8.lt_iff_toNat_lt]; simp; omega
      simp only [List.map_cons, Lib.compareBytes, Mp.ltB, Bool.or_eq_true, decide_eq_true_eq, Bool.and_eq_true]
      by_cases h1 : a < b
      · rw [if_pos ((lt1 a b ha hb).2 h1)]
        exact ⟨fun _ => .inl h1, fun _ => by omega⟩
      · rw [if_neg (fun h => h1 ((lt1 a b ha hb).1 h))]
        by_cases h2 : b < a
        · rw [if_pos ((lt1 b a hb ha).2 h2)]
          constructor
          · intro h; omega
          · rintro (h | ⟨h, _⟩) <;> omega
        · rw [if_neg (fun h => h2 ((lt1 b a hb ha).1 h))]
          have : a = b := by omega
          rw [ih']
          exact ⟨fun h => .inr ⟨this, h⟩, fun h => h.elim (fun h => absurd h h1) (·.2)⟩
theorem chainB_adj {α : Type} (lt : α → α → Bool) (l : List α) : chainB lt l = true ↔ ∀ (j : Nat) (a b : α), l[j]? = some a → l[j + 1]? = some b → lt a b = true := by
  induction l with
  | nil => simp [chainB]
  | cons a l ih =>
    cases l with
    | nil => simp [chainB]
    | cons b r =>
      simp only [chainB, Bool.and_eq_true]
      rw [ih]
      constructor
      · rintro ⟨h1, h2⟩ j x y hx hy
        cases j with
        | zero => simp at hx hy; subst hx hy; exact h1
        | succ j => simp only [List.getElem?_cons_succ] at hx hy; exact h2 j x y hx hy
      · intro h
        exact ⟨h 0 a b rfl rfl, fun j x y hx hy => h (j + 1) x y (by simpa using hx) (by simpa using hy)⟩
theorem nodup_snoc {l : List Int} {z : Int} : (l ++ [z]).Nodup ↔ l.Nodup ∧ z ∉ l := by
  unfold List.Nodup
  rw [List.pairwise_append]
  constructor
  · rintro ⟨h1, _, h3⟩; exact ⟨h1, fun h => h3 z h z (by simp) rfl⟩
  · rintro ⟨h1, h2⟩; exact ⟨h1, List.pairwise_singleton _ _, fun a ha b hb => by simp at hb; subst hb; rintro rfl; exact h2 ha⟩
set_option maxRecDepth 100000 in
theorem isOnce_any (w : World) {A : Option Addr} {n c B : Nat} {zs : List Int} (h : Rd w B A n (iv zs)) (hn : n ≤ 1000) (hc : n ≤ c) :
    Calls Tryz.prog 62 #[.slice A n c] w fun e w' => e = .returned (.bool (decide zs.Nodup)) ∧ w = w' := by
  have hl : zs.length = n := by have := h.1; rwa [iv_length] at this
  have HL := Lib.hid hl
  have H := Lib.hid h
  obtain ⟨i0, hi0, _, _, _⟩ := info_parts cellI.info
  clear h hl
  go_enter Tryz.func62, Tryz.ntmps62
  go_wp2
  go_loopw [3, 4, 7] (fun s3 s4 s7 wr => ∃ k : Nat, k ≤ n ∧ s7 = .int .i64 k ∧ Hid ((zs.take k).Nodup) ∧ w = wr) (fun _ _ s7 _ => n - (intOf s7).toNat)
  case atStart => exact ⟨0, Nat.zero_le _, rfl, Lib.hid (by simp), rfl⟩
  case round =>
    obtain ⟨k, hk, rfl, HS, rfl⟩ := hrel
    by_cases hlt : k < n
    · obtain ⟨z, hz⟩ : ∃ z, zs[k]? = some z := ⟨_, List.getElem?_eq_getElem (by have := HL.out; omega)⟩
      have hcell : ∃ b o, A = some ⟨b, o, none⟩ ∧ w.cell? ⟨b, o + k, none⟩ = some (.int .i64 z) := by
        obtain ⟨b, o, e, _⟩ := H.out.int_at hlt
        subst e
        exact ⟨b, o, rfl, H.out.int_cell hlt hz⟩
      obtain ⟨b, o, rfl, hc1⟩ := hcell
      have hsl := fun w => run_slice_to (P := Tryz.prog) Tryz.underlying22 hi0 (some ⟨b, o, none⟩) n c k (by omega) w
      have HZ := Lib.hid hz
      have HC : Hid (Calls Tryz.prog 90 #[.slice (some ⟨b, o, none⟩) k c, .int .i64 z] w fun e w' => e = .returned (.bool (decide (z ∈ zs.take k))) ∧ w = w') :=
        Lib.hid (contains_any w z (B := B) (by rw [iv_take]; exact H.out.take hk) (by unfold maxLen; omega))
      clear hz
      by_cases he : z ∈ zs.take k
      · rw [decide_eq_true he] at HC
        have HNO : Hid (decide zs.Nodup = false) := Lib.hid (decide_eq_false (by
          intro hnd
          have h2 : (zs.take (k + 1)).Nodup := List.Pairwise.sublist (List.take_sublist _ _) hnd
          rw [List.take_add_one, HZ.out] at h2
          exact (nodup_snoc.1 h2).2 he))
        clear he
        go_wp2_with (first
          | (go_at_call 90; refine HC.out.mono ?_; rintro e w2 ⟨rfl, rfl⟩)
          | fail)
        go_ret
        exact ⟨ret_bool HNO.out.symm, rfl⟩
      · rw [decide_eq_false he] at HC
        have HN : Hid ((zs.take (k + 1)).Nodup) := Lib.hid (by
          rw [List.take_add_one, HZ.out]
          exact nodup_snoc.2 ⟨HS.out, he⟩)
        clear he
        go_wp2_with (first
          | (go_at_call 90; refine HC.out.mono ?_; rintro e w2 ⟨rfl, rfl⟩)
          | fail)
        go_roundw
        case rel => exact ⟨k + 1, by omega, by go_num, HN, trivial⟩
        case measure => simp only [intOf]; omega
    · obtain rfl : k = n := by omega
      have HY : Hid (decide zs.Nodup = true) := Lib.hid (decide_eq_true (by have := HS.out; rwa [List.take_of_length_le (by have := HL.out; omega)] at this))
      go_wp2
      go_ret
      exact ⟨ret_bool HY.out.symm, rfl⟩
theorem byKey_any (w : World) {A1 A2 A3 A4 : Option Addr} {n1 c1 n2 c2 n3 c3 n4 c4 B B' : Nat} {k k' : List Nat} (h : Rd w B A1 n1 (bv k)) (h' : Rd w B' A3 n3 (bv k')) :
    Calls Tryz.prog 64 #[.agg #[.slice A1 n1 c1, .slice A2 n2 c2], .agg #[.slice A3 n3 c3, .slice A4 n4 c4]] w fun e w' => e = .returned (.int .i64 (cmpB k k')) ∧ Below w.heap.size w w' := by
  have b0 : Below w.heap.size w ((w.alloc (.cells #[.slice A1 n1 c1, .slice A2 n2 c2] 74)).alloc (.cells #[.slice A3 n3 c3, .slice A4 n4 c4] 74)) := ((Below.refl _ _).alloc (Nat.le_refl _) _).alloc (by simp) _
  have H := Lib.hid (h.fit.below b0)
  have H' := Lib.hid (h'.fit.below b0)
  have HB := Lib.hid b0
  have HK1 := Lib.hid ((Blk.new w 74 #[.slice A1 n1 c1, .slice A2 n2 c2]).alloc (.cells #[.slice A3 n3 c3, .slice A4 n4 c4] 74))
  have HK2 := Lib.hid (Blk.new (w.alloc (.cells #[.slice A1 n1 c1, .slice A2 n2 c2] 74)) 74 #[.slice A3 n3 c3, .slice A4 n4 c4])
  rw [World.size_alloc] at HK2
  clear h h' b0
  go_enter Tryz.func64, Tryz.ntmps64
  go_upto_region 1 with fail
  generalize (w.alloc (.cells #[.slice A1 n1 c1, .slice A2 n2 c2] 74)).alloc (.cells #[.slice A3 n3 c3, .slice A4 n4 c4] 74) = wa at H H' HB HK1 HK2 ⊢
  have x0 := HK1.out.cell 0
  have y0 := HK2.out.cell 0
  go_wp2_with (first
    | (go_at_call 91; refine (compare_any _ _ _ _ _ _ _ _ _ _ _ H.out H'.out).mono ?_; rintro e w2 ⟨rfl, rfl⟩)
    | fail)
  go_ret
  exact ⟨rfl, HB.out⟩
set_option maxRecDepth 100000 in
theorem cmpI_any (w : World) (x y : Int) : Calls Tryz.prog 118 #[.int .i64 x, .int .i64 y] w fun e w' => (∃ z : Int, e = .returned (.int .i64 z) ∧ (z < 0 ↔ x < y)) ∧ w = w' := by
  have HNN : ∀ (w : World) (x : Int), Calls Tryz.prog 123 #[.int .i64 x] w fun e w' => e = .returned (.bool false) ∧ w = w' := fun w x => by
    go_enter Tryz.func123, Tryz.ntmps123
    go_wp2_with fail
    go_ret
    exact ⟨rfl, rfl⟩
  by_cases h1 : x < y
  · go_enter Tryz.func118, Tryz.ntmps118
    go_wp2_with (first
      | (go_at_call 123; refine (HNN _ _).mono ?_; rintro e w1 ⟨rfl, rfl⟩)
      | fail)
    go_ret
    exact ⟨⟨-1, rfl, by omega⟩, rfl⟩
  · by_cases h2 : y < x
    · go_enter Tryz.func118, Tryz.ntmps118
      go_wp2_with (first
        | (go_at_call 123; refine (HNN _ _).mono ?_; rintro e w1 ⟨rfl, rfl⟩)
        | fail)
      go_ret
      exact ⟨⟨1, rfl, by omega⟩, rfl⟩
    · go_enter Tryz.func118, Tryz.ntmps118
      go_wp2_with (first
        | (go_at_call 123; refine (HNN _ _).mono ?_; rintro e w1 ⟨rfl, rfl⟩)
        | fail)
      go_ret
      exact ⟨⟨0, rfl, by omega⟩, rfl⟩
theorem bySess_any (w : World) {A A' : Option Addr} {c c' : Nat} (a b : Ls) :
    Calls Tryz.prog 93 #[.agg #[.int .i64 a.s, .int .i64 a.q, .int .i64 a.e, .slice A a.v.length c, .int .i64 a.n], .agg #[.int .i64 b.s, .int .i64 b.q, .int .i64 b.e, .slice A' b.v.length c', .int .i64 b.n]] w fun e w' => (∃ z : Int, e = .returned (.int .i64 z) ∧ (z < 0 ↔ a.s < b.s)) ∧ Below w.heap.size w w' := by
  have b0 : Below w.heap.size w ((w.alloc (.cells #[.int .i64 a.s, .int .i64 a.q, .int .i64 a.e, .slice A a.v.length c, .int .i64 a.n] 79)).alloc (.cells #[.int .i64 b.s, .int .i64 b.q, .int .i64 b.e, .slice A' b.v.length c', .int .i64 b.n] 79)) := ((Below.refl _ _).alloc (Nat.le_refl _) _).alloc (by simp) _
  have HB := Lib.hid b0
  have HK1 := Lib.hid ((Blk.new w 79 #[.int .i64 a.s, .int .i64 a.q, .int .i64 a.e, .slice A a.v.length c, .int .i64 a.n]).alloc (.cells #[.int .i64 b.s, .int .i64 b.q, .int .i64 b.e, .slice A' b.v.length c', .int .i64 b.n] 79))
  have HK2 := Lib.hid (Blk.new (w.alloc (.cells #[.int .i64 a.s, .int .i64 a.q, .int .i64 a.e, .slice A a.v.length c, .int .i64 a.n] 79)) 79 #[.int .i64 b.s, .int .i64 b.q, .int .i64 b.e, .slice A' b.v.length c', .int .i64 b.n])
  rw [World.size_alloc] at HK2
  clear b0
  go_enter Tryz.func93, Tryz.ntmps93
  go_upto_region 1 with fail
  generalize (w.alloc (.cells #[.int .i64 a.s, .int .i64 a.q, .int .i64 a.e, .slice A a.v.length c, .int .i64 a.n] 79)).alloc (.cells #[.int .i64 b.s, .int .i64 b.q, .int .i64 b.e, .slice A' b.v.length c', .int .i64 b.n] 79) = wa at HB HK1 HK2 ⊢
  have x0 := HK1.out.cell 0
  have y0 := HK2.out.cell 0
  go_wp2_with (first
    | (go_at_call 118; refine (cmpI_any _ _ _).mono ?_; rintro e w2 ⟨⟨z, rfl, hz⟩, rfl⟩; have HZ := Lib.hid hz; clear hz)
    | fail)
  go_ret
  exact ⟨⟨z, rfl, HZ.out⟩, HB.out⟩
set_option maxHeartbeats 4000000 in
set_option maxRecDepth 100000 in
theorem isRisingP_any (w : World) {A : Option Addr} {n c B : Nat} {xs : List Pr} (hb : ∀ p ∈ xs, ∀ x ∈ p.1, x < 256) (h : RdP w B A n xs) (hn : n ≤ 1000) :
    Calls Tryz.prog 63 #[.slice A n c, .func (.func 64) #[] #[]] w fun e w' => e = .returned (.bool (chainB (fun p q : Pr => Mp.ltB p.1 q.1) xs)) ∧ Below w.heap.size w w' := by
  have hl := h.length
  have HL := Lib.hid hl
  have H := Lib.hid h.fit
  have HBY := Lib.hid hb
  clear h hl hb
  go_enter Tryz.func63, Tryz.ntmps63
  go_wp2
  go_loopw [5] (fun s5 wr => ∃ j : Nat, j ≤ n ∧ s5 = .int .i64 ((j : Int) + 1) ∧ Hid (∀ (i : Nat) (a b : Pr), i < j → xs[i]? = some a → xs[i + 1]? = some b → (fun p q : Pr => Mp.ltB p.1 q.1) a b = true) ∧ Hid (Below w.heap.size w wr)) (fun s5 _ => n + 1 - (intOf s5).toNat)
  case atStart => exact ⟨0, Nat.zero_le _, rfl, Lib.hid (fun i a b hi => absurd hi (by omega)), Lib.hid (Below.refl _ _)⟩
  case round =>
    obtain ⟨j, hj, rfl, HS, HB⟩ := hrel
    by_cases hlt : j + 1 < n
    · have hi1 : (j : Int) + 1 < (n : Int) := by omega
      have hi2 : IntKind.i64.wrap ((j : Int) + 1 - 1) = (j : Int) := by rw [show (j : Int) + 1 - 1 = (j : Int) by omega]; exact IntWalk.i64_in _ (by omega)
      have hi3 : IntKind.i64.wrap ((j : Int) + 1 + 1) = (j : Int) + 1 + 1 := IntWalk.i64_in _ (by omega)
      have hi4 : (j : Int) < (n : Int) := by omega
      have hi5 : IntKind.i64.wrap (j : Int) = (j : Int) := IntWalk.i64_in _ (by omega)
      have hi6 : ¬ (j : Int) + 1 < 0 := by omega
      obtain ⟨b, o, p, A1, c1, A2, c2, rfl, hp, u0, u1, hrp, _⟩ := H.out.at (k := j) (by omega)
      obtain ⟨b', o', q, D1, d1, D2, d2, e, hq, v0, v1, hrq, _⟩ := H.out.at (k := j + 1) (by omega)
      injection e with e
      injection e with e1 e2
      subst e1 e2
      have HC : Hid (∀ wx, Below w.heap.size w wx → (wx.cell? ⟨b, o + j * 2, none⟩ = some (.slice A1 p.1.length c1) ∧ wx.cell? ⟨b, o + j * 2 + 1, none⟩ = some (.slice A2 p.2.length c2)) ∧ wx.cell? ⟨b, o + (j + 1) * 2, none⟩ = some (.slice D1 q.1.length d1) ∧ wx.cell? ⟨b, o + (j + 1) * 2 + 1, none⟩ = some (.slice D2 q.2.length d2)) :=
        Lib.hid (fun wx hb => ⟨⟨(hb.cell (World.block_lt_of_cell? _ _ u0)).trans u0, (hb.cell (World.block_lt_of_cell? _ _ u1)).trans u1⟩, (hb.cell (World.block_lt_of_cell? _ _ v0)).trans v0, (hb.cell (World.block_lt_of_cell? _ _ v1)).trans v1⟩)
      have HRP := Lib.hid hrp
      have HRQ := Lib.hid hrq
      have HBP := Lib.hid (And.intro (HBY.out p (List.mem_of_getElem? hp)) (HBY.out q (List.mem_of_getElem? hq)))
      have HP := Lib.hid (And.intro hp hq)
      clear u0 u1 v0 v1 hrp hrq hp hq
      go_upto_region 4 with fail
      have hS0 : Below w.heap.size w wr.drew := HB.out.trans ((Below.refl _ _).drew.mono HB.out.size)
      refine wp_region_held_drew (S := fun w' => Below w.heap.size w w') (by kernel_rfl) hS0 (fun _ => ?_)
      have hS := Lib.hid hS0
      clear hS0
      generalize wr.drew = wd at hS ⊢
      refine wpAnyH_take (i := 0) (v := .func (.func 64) #[] #[]) rfl (by kernel_rfl) (by kernel_rfl) (by kernel_rfl) (fun _ _ _ h => h) (Or.inl ⟨by kernel_rfl, fun w _ => by go_simp⟩) hS.out ?_
      refine wpAnyH_take (i := 1) (v := .slice (some ⟨b, o, none⟩) n c) rfl (by kernel_rfl) (by kernel_rfl) (by kernel_rfl) (fun _ _ _ h => h) (Or.inl ⟨by kernel_rfl, fun w _ => by go_simp⟩) hS.out ?_
      refine wpAnyH_take (i := 2) (v := .int .i64 ((j : Int) + 1)) rfl (by kernel_rfl) (by kernel_rfl) (by kernel_rfl) (fun _ _ _ h => h) (Or.inl ⟨by kernel_rfl, fun w _ => by go_simp⟩) hS.out ?_
      refine wpAnyH_take (i := 3) (v := .int .i64 (j : Int)) rfl (by kernel_rfl) (by kernel_rfl) (by kernel_rfl) (fun _ _ _ h => h) (Or.inl ⟨by kernel_rfl, fun w _ => by go_simp⟩) hS.out ?_
      refine wpAnyH_take (i := 6) (v := .slice (some ⟨b, o, none⟩) n c) rfl (by kernel_rfl) (by kernel_rfl) (by kernel_rfl) (fun _ _ _ h => h) (Or.inl ⟨by kernel_rfl, fun w _ => by go_simp⟩) hS.out ?_
      refine wpAnyH_take (i := 7) (v := .int .i64 ((j : Int) + 1)) rfl (by kernel_rfl) (by kernel_rfl) (by kernel_rfl) (fun _ _ _ h => h) (Or.inl ⟨by kernel_rfl, fun w _ => by go_simp⟩) hS.out ?_
      refine wpAnyH_take (i := 4) (v := .pointer (some ⟨b, o + j * 2, none⟩)) rfl (by kernel_rfl) (by kernel_rfl) (by kernel_rfl) (fun _ _ _ h => h) (Or.inl ⟨by kernel_rfl, fun w _ => by go_simp⟩) hS.out ?_
      refine wpAnyH_take (i := 8) (v := .pointer (some ⟨b, o + (j + 1) * 2, none⟩)) rfl (by kernel_rfl) (by kernel_rfl) (by kernel_rfl) (fun _ _ _ h => h) (Or.inl ⟨by kernel_rfl, fun w _ => by go_simp⟩) hS.out ?_
      refine wpAnyH_take (i := 5) (v := .agg #[.slice A1 p.1.length c1, .slice A2 p.2.length c2]) rfl (by kernel_rfl) (by kernel_rfl) (by kernel_rfl) (fun _ _ _ h => h) (Or.inl ⟨by kernel_rfl, fun w h => by obtain ⟨⟨q0, q1⟩, q2, q3⟩ := HC.out w h; go_simp⟩) hS.out ?_
      refine wpAnyH_take (i := 9) (v := .agg #[.slice D1 q.1.length d1, .slice D2 q.2.length d2]) rfl (by kernel_rfl) (by kernel_rfl) (by kernel_rfl) (fun _ _ _ h => h) (Or.inl ⟨by kernel_rfl, fun w h => by obtain ⟨⟨q0, q1⟩, q2, q3⟩ := HC.out w h; go_simp⟩) hS.out ?_
      refine wpAnyH_ready (rs := [10]) (by kernel_rfl) (by simp) ?_
      refine AllReadyH.cons rfl (fun K hK => ?_) AllReadyH.nil
      go_simp
      refine (byKey_any _ (HRP.out.below hS.out) (HRQ.out.below hS.out)).mono ?_
      rintro e w2 ⟨rfl, hb2⟩
      have hS := Lib.hid (hS.out.trans (hb2.mono hS.out.size))
      clear hb2
      go_simp
      refine hK.out _ _ hS.out (fun _ => ?_)
      clear hK K
      obtain ⟨z, hz⟩ : ∃ z, cmpB p.1 q.1 = z := ⟨_, rfl⟩
      have HZ := Lib.hid (cmpB_neg HBP.out.1 HBP.out.2)
      rw [hz] at HZ ⊢
      clear hz
      by_cases hzz : z < 0
      · have hz0 : ¬ (0 : Int) ≤ z := by omega
        have HT := Lib.hid (HZ.out.1 hzz)
        clear hzz
        refine wpAnyH_take (i := 11) (v := .bool false) rfl (by kernel_rfl) (by kernel_rfl) (by kernel_rfl) (fun _ _ _ h => h) (Or.inl ⟨by kernel_rfl, fun w _ => by go_simp⟩) hS.out ?_
        refine wpAnyH_done (by kernel_rfl) ?_ _
        go_wp2_with fail
        go_roundw
        case rel =>
          refine ⟨j + 1, by omega, by go_num, Lib.hid (fun i a b hi ha hb => ?_), hS⟩
          rcases Nat.lt_or_ge i j with h1 | h1
          · exact HS.out i a b h1 ha hb
          · obtain rfl : i = j := by omega
            obtain ⟨g1, g2⟩ := HP.out
            rw [ha] at g1
            rw [hb] at g2
            injection g1 with g1
            injection g2 with g2
            subst g1 g2
            exact HT.out
        case measure => simp only [intOf]; omega
      · have hz0 : (0 : Int) ≤ z := by omega
        have HT : Hid (¬ Mp.ltB p.1 q.1 = true) := Lib.hid (fun h => hzz (HZ.out.2 h))
        clear hzz
        refine wpAnyH_take (i := 11) (v := .bool true) rfl (by kernel_rfl) (by kernel_rfl) (by kernel_rfl) (fun _ _ _ h => h) (Or.inl ⟨by kernel_rfl, fun w _ => by go_simp⟩) hS.out ?_
        refine wpAnyH_done (by kernel_rfl) ?_ _
        have HF : Hid (chainB (fun p q : Pr => Mp.ltB p.1 q.1) xs = false) := Lib.hid (by
          rw [Bool.eq_false_iff]
          intro h
          exact HT.out ((chainB_adj _ _).1 h j p q HP.out.1 HP.out.2))
        go_wp2_with fail
        go_ret
        exact ⟨ret_bool HF.out.symm, hS.out⟩
    · have hi1 : ¬ (j : Int) + 1 < (n : Int) := by omega
      have HY : Hid (chainB (fun p q : Pr => Mp.ltB p.1 q.1) xs = true) := Lib.hid ((chainB_adj _ _).2 fun i a b ha hb => HS.out i a b (by have := (List.getElem?_eq_some_iff.1 hb).1; have := HL.out; omega) ha hb)
      go_wp2_with fail
      go_ret
      exact ⟨ret_bool HY.out.symm, HB.out⟩
set_option maxHeartbeats 4000000 in
set_option maxRecDepth 100000 in
theorem isRisingT_any (w : World) {A : Option Addr} {n c B : Nat} {xs : List Ls} (h : RdL w B A n xs) (hn : n ≤ 1000) :
    Calls Tryz.prog 92 #[.slice A n c, .func (.func 93) #[] #[]] w fun e w' => e = .returned (.bool (chainB (fun a b : Ls => decide (a.s < b.s)) xs)) ∧ Below w.heap.size w w' := by
  have hl := h.length
  have HL := Lib.hid hl
  have H := Lib.hid h.fit
  clear h hl
  go_enter Tryz.func92, Tryz.ntmps92
  go_wp2
  go_loopw [5] (fun s5 wr => ∃ j : Nat, j ≤ n ∧ s5 = .int .i64 ((j : Int) + 1) ∧ Hid (∀ (i : Nat) (a b : Ls), i < j → xs[i]? = some a → xs[i + 1]? = some b → (fun a b : Ls => decide (a.s < b.s)) a b = true) ∧ Hid (Below w.heap.size w wr)) (fun s5 _ => n + 1 - (intOf s5).toNat)
  case atStart => exact ⟨0, Nat.zero_le _, rfl, Lib.hid (fun i a b hi => absurd hi (by omega)), Lib.hid (Below.refl _ _)⟩
  case round =>
    obtain ⟨j, hj, rfl, HS, HB⟩ := hrel
    by_cases hlt : j + 1 < n
    · have hi1 : (j : Int) + 1 < (n : Int) := by omega
      have hi2 : IntKind.i64.wrap ((j : Int) + 1 - 1) = (j : Int) := by rw [show (j : Int) + 1 - 1 = (j : Int) by omega]; exact IntWalk.i64_in _ (by omega)
      have hi3 : IntKind.i64.wrap ((j : Int) + 1 + 1) = (j : Int) + 1 + 1 := IntWalk.i64_in _ (by omega)
      have hi4 : (j : Int) < (n : Int) := by omega
      have hi5 : IntKind.i64.wrap (j : Int) = (j : Int) := IntWalk.i64_in _ (by omega)
      have hi6 : ¬ (j : Int) + 1 < 0 := by omega
      obtain ⟨b, o, p, A1, c1, rfl, hp, u0, u1, u2, u3, u4, hrp⟩ := H.out.at (k := j) (by omega)
      obtain ⟨b', o', q, D1, d1, e, hq, v0, v1, v2, v3, v4, hrq⟩ := H.out.at (k := j + 1) (by omega)
      injection e with e
      injection e with e1 e2
      subst e1 e2
      have HC : Hid (∀ wx, Below w.heap.size w wx → (wx.cell? ⟨b, o + j * 5, none⟩ = some (.int .i64 p.s) ∧ wx.cell? ⟨b, o + j * 5 + 1, none⟩ = some (.int .i64 p.q) ∧ wx.cell? ⟨b, o + j * 5 + 2, none⟩ = some (.int .i64 p.e) ∧ wx.cell? ⟨b, o + j * 5 + 3, none⟩ = some (.slice A1 p.v.length c1) ∧ wx.cell? ⟨b, o + j * 5 + 4, none⟩ = some (.int .i64 p.n)) ∧ wx.cell? ⟨b, o + (j + 1) * 5, none⟩ = some (.int .i64 q.s) ∧ wx.cell? ⟨b, o + (j + 1) * 5 + 1, none⟩ = some (.int .i64 q.q) ∧ wx.cell? ⟨b, o + (j + 1) * 5 + 2, none⟩ = some (.int .i64 q.e) ∧ wx.cell? ⟨b, o + (j + 1) * 5 + 3, none⟩ = some (.slice D1 q.v.length d1) ∧ wx.cell? ⟨b, o + (j + 1) * 5 + 4, none⟩ = some (.int .i64 q.n)) :=
        Lib.hid (fun wx hb => ⟨⟨(hb.cell (World.block_lt_of_cell? _ _ u0)).trans u0, (hb.cell (World.block_lt_of_cell? _ _ u1)).trans u1, (hb.cell (World.block_lt_of_cell? _ _ u2)).trans u2, (hb.cell (World.block_lt_of_cell? _ _ u3)).trans u3, (hb.cell (World.block_lt_of_cell? _ _ u4)).trans u4⟩, (hb.cell (World.block_lt_of_cell? _ _ v0)).trans v0, (hb.cell (World.block_lt_of_cell? _ _ v1)).trans v1, (hb.cell (World.block_lt_of_cell? _ _ v2)).trans v2, (hb.cell (World.block_lt_of_cell? _ _ v3)).trans v3, (hb.cell (World.block_lt_of_cell? _ _ v4)).trans v4⟩)
      have HP := Lib.hid (And.intro hp hq)
      clear u0 u1 u2 u3 u4 v0 v1 v2 v3 v4 hrp hrq hp hq
      go_upto_region 4 with fail
      have hS0 : Below w.heap.size w wr.drew := HB.out.trans ((Below.refl _ _).drew.mono HB.out.size)
      refine wp_region_held_drew (S := fun w' => Below w.heap.size w w') (by kernel_rfl) hS0 (fun _ => ?_)
      have hS := Lib.hid hS0
      clear hS0
      generalize wr.drew = wd at hS ⊢
      refine wpAnyH_take (i := 0) (v := .func (.func 93) #[] #[]) rfl (by kernel_rfl) (by kernel_rfl) (by kernel_rfl) (fun _ _ _ h => h) (Or.inl ⟨by kernel_rfl, fun w _ => by go_simp⟩) hS.out ?_
      refine wpAnyH_take (i := 1) (v := .slice (some ⟨b, o, none⟩) n c) rfl (by kernel_rfl) (by kernel_rfl) (by kernel_rfl) (fun _ _ _ h => h) (Or.inl ⟨by kernel_rfl, fun w _ => by go_simp⟩) hS.out ?_
      refine wpAnyH_take (i := 2) (v := .int .i64 ((j : Int) + 1)) rfl (by kernel_rfl) (by kernel_rfl) (by kernel_rfl) (fun _ _ _ h => h) (Or.inl ⟨by kernel_rfl, fun w _ => by go_simp⟩) hS.out ?_
      refine wpAnyH_take (i := 3) (v := .int .i64 (j : Int)) rfl (by kernel_rfl) (by kernel_rfl) (by kernel_rfl) (fun _ _ _ h => h) (Or.inl ⟨by kernel_rfl, fun w _ => by go_simp⟩) hS.out ?_
      refine wpAnyH_take (i := 6) (v := .slice (some ⟨b, o, none⟩) n c) rfl (by kernel_rfl) (by kernel_rfl) (by kernel_rfl) (fun _ _ _ h => h) (Or.inl ⟨by kernel_rfl, fun w _ => by go_simp⟩) hS.out ?_
      refine wpAnyH_take (i := 7) (v := .int .i64 ((j : Int) + 1)) rfl (by kernel_rfl) (by kernel_rfl) (by kernel_rfl) (fun _ _ _ h => h) (Or.inl ⟨by kernel_rfl, fun w _ => by go_simp⟩) hS.out ?_
      refine wpAnyH_take (i := 4) (v := .pointer (some ⟨b, o + j * 5, none⟩)) rfl (by kernel_rfl) (by kernel_rfl) (by kernel_rfl) (fun _ _ _ h => h) (Or.inl ⟨by kernel_rfl, fun w _ => by go_simp⟩) hS.out ?_
      refine wpAnyH_take (i := 8) (v := .pointer (some ⟨b, o + (j + 1) * 5, none⟩)) rfl (by kernel_rfl) (by kernel_rfl) (by kernel_rfl) (fun _ _ _ h => h) (Or.inl ⟨by kernel_rfl, fun w _ => by go_simp⟩) hS.out ?_
      refine wpAnyH_take (i := 5) (v := .agg #[.int .i64 p.s, .int .i64 p.q, .int .i64 p.e, .slice A1 p.v.length c1, .int .i64 p.n]) rfl (by kernel_rfl) (by kernel_rfl) (by kernel_rfl) (fun _ _ _ h => h) (Or.inl ⟨by kernel_rfl, fun w h => by obtain ⟨⟨q0, q1, q2, q3, q4⟩, q5, q6, q7, q8, q9⟩ := HC.out w h; go_simp⟩) hS.out ?_
      refine wpAnyH_take (i := 9) (v := .agg #[.int .i64 q.s, .int .i64 q.q, .int .i64 q.e, .slice D1 q.v.length d1, .int .i64 q.n]) rfl (by kernel_rfl) (by kernel_rfl) (by kernel_rfl) (fun _ _ _ h => h) (Or.inl ⟨by kernel_rfl, fun w h => by obtain ⟨⟨q0, q1, q2, q3, q4⟩, q5, q6, q7, q8, q9⟩ := HC.out w h; go_simp⟩) hS.out ?_
      refine wpAnyH_ready (rs := [10]) (by kernel_rfl) (by simp) ?_
      refine AllReadyH.cons rfl (fun K hK => ?_) AllReadyH.nil
      go_simp
      refine (bySess_any _ p q).mono ?_
      rintro e w2 ⟨⟨z, rfl, hz⟩, hb2⟩
      have HZ := Lib.hid hz
      clear hz
      have hS := Lib.hid (hS.out.trans (hb2.mono hS.out.size))
      clear hb2
      go_simp
      refine hK.out _ _ hS.out (fun _ => ?_)
      clear hK K
      by_cases hzz : z < 0
      · have hz0 : ¬ (0 : Int) ≤ z := by omega
        have HT := Lib.hid (HZ.out.1 hzz)
        clear hzz
        refine wpAnyH_take (i := 11) (v := .bool false) rfl (by kernel_rfl) (by kernel_rfl) (by kernel_rfl) (fun _ _ _ h => h) (Or.inl ⟨by kernel_rfl, fun w _ => by go_simp⟩) hS.out ?_
        refine wpAnyH_done (by kernel_rfl) ?_ _
        go_wp2_with fail
        go_roundw
        case rel =>
          refine ⟨j + 1, by omega, by go_num, Lib.hid (fun i a b hi ha hb => ?_), hS⟩
          rcases Nat.lt_or_ge i j with h1 | h1
          · exact HS.out i a b h1 ha hb
          · obtain rfl : i = j := by omega
            obtain ⟨g1, g2⟩ := HP.out
            rw [ha] at g1
            rw [hb] at g2
            injection g1 with g1
            injection g2 with g2
            subst g1 g2
            exact decide_eq_true HT.out
        case measure => simp only [intOf]; omega
      · have hz0 : (0 : Int) ≤ z := by omega
        have HT : Hid (¬ p.s < q.s) := Lib.hid (fun h => hzz (HZ.out.2 h))
        clear hzz
        refine wpAnyH_take (i := 11) (v := .bool true) rfl (by kernel_rfl) (by kernel_rfl) (by kernel_rfl) (fun _ _ _ h => h) (Or.inl ⟨by kernel_rfl, fun w _ => by go_simp⟩) hS.out ?_
        refine wpAnyH_done (by kernel_rfl) ?_ _
        have HF : Hid (chainB (fun a b : Ls => decide (a.s < b.s)) xs = false) := Lib.hid (by
          rw [Bool.eq_false_iff]
          intro h
          exact HT.out (of_decide_eq_true ((chainB_adj _ _).1 h j p q HP.out.1 HP.out.2)))
        go_wp2_with fail
        go_ret
        exact ⟨ret_bool HF.out.symm, hS.out⟩
    · have hi1 : ¬ (j : Int) + 1 < (n : Int) := by omega
      have HY : Hid (chainB (fun a b : Ls => decide (a.s < b.s)) xs = true) := Lib.hid ((chainB_adj _ _).2 fun i a b ha hb => HS.out i a b (by have := (List.getElem?_eq_some_iff.1 hb).1; have := HL.out; omega) ha hb)
      go_wp2_with fail
      go_ret
      exact ⟨ret_bool HY.out.symm, HB.out⟩
end Go.Proofs.YtmekamgohonffaaGreat

