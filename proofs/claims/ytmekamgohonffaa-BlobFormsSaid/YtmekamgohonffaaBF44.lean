/- MachGet2 MachDecode -/
import Derived.Test.YtmekamgohonffaaBF09
import Derived.Test.YtmekamgohonffaaBF26
import Derived.Test.YtmekamgohonffaaBF36
import Derived.Test.YtmekamgohonffaaBF42
import Derived.Test.YtmekamgohonffaaBF43
import Derived.Deep.CutBlock
namespace Go.Proofs.Ytmekamgohonffaa
open Go.RowKit
set_option linter.unusedVariables false
set_option maxHeartbeats 2000000 in
set_option maxRecDepth 100000 in
theorem getEachQ_any (w : World) (b : Nat) (s : Pk.St) {most : Int} (hm0 : 0 ≤ most) (hm : most ≤ 100) (h : RdrAt w b s) {R : List (List Nat)} {s' : Pk.St} (hR : (getQ (Pk.numV s most) (Pk.numS s most)).1 = R) (hs' : (getQ (Pk.numV s most) (Pk.numS s most)).2 = s') :
    Calls Try.prog 40 #[.pointer (some ⟨b, 0, none⟩), .int .i64 most, .func (.func 39) #[] #[]] w fun en w' => ∃ A c, en = .returned (.slice A R.length c) ∧ OwnQ w w' A R.length c R ∧ RdrAt w' b s' ∧ Only b w w' := by
  have hbl := h.lt
  have HBL := Lib.hid hbl
  obtain ⟨n, hn⟩ : ∃ x, Pk.numV s most = x := ⟨_, rfl⟩
  obtain ⟨s1, hs1⟩ : ∃ x, Pk.numS s most = x := ⟨_, rfl⟩
  have hn100 : n ≤ 100 := by have := numV_le s hm0; omega
  have HC := Lib.hid (rnum_is w b s most h n s1 hn hs1)
  rw [hn, hs1] at hR hs'
  have HG : Hid (getQ n s1 = (R, s')) := Lib.hid (by rw [← hR, ← hs'])
  have H0 : Hid (RgSt w w b s) := Lib.hid ⟨h, only_refl b w⟩
  clear hR hs' hn hs1 h
  go_enter Try.func40, Try.ntmps40
  go_wp2_with (first
    | (go_at_call 15; refine HC.out.mono ?_; rintro en w1 ⟨rfl, hr1, hb1⟩; have HS1 := Lib.hid (H0.out.call hr1 hb1); clear hr1 hb1 HC)
    | fail)
  go_loopw [7, 11] (fun s7 s11 wr => ∃ (k : Nat) (A1 : Option Addr) (c1 : Nat) (acc : List (List Nat)) (sk : Pk.St), k ≤ n ∧ s11 = .int .i64 (k : Int) ∧ s7 = .slice A1 k c1 ∧ Hid (RgSt w wr b sk) ∧ Hid (OwnQ w wr A1 k c1 acc) ∧ Hid (getQ n s1 = (acc ++ (getQ (n - k) sk).1, (getQ (n - k) sk).2))) (fun _ s11 _ => n - (intOf s11).toNat)
  case atStart => exact ⟨0, none, 0, [], s1, Nat.zero_le _, rfl, rfl, HS1, Lib.hid (OwnQ.nil _ _), Lib.hid (by simp)⟩
  case round =>
    clear HS1 H0
    obtain ⟨k, A1, c1, acc, sk, hk, rfl, rfl, HS, HO, HQ⟩ := hrel
    by_cases hlt : k < n
    · obtain ⟨m, hm1⟩ : ∃ m, n - k = m + 1 := ⟨n - k - 1, by omega⟩
      have hstep : getQ (m + 1) sk = (Pk.bytV sk 16 :: (getQ m (Pk.bytS sk 16)).1, (getQ m (Pk.bytS sk 16)).2) := rfl
      have hq := HQ.out
      rw [hm1, hstep] at hq
      obtain ⟨x, ex⟩ : ∃ x, Pk.bytV sk 16 = x := ⟨_, rfl⟩
      obtain ⟨t, et⟩ : ∃ x, Pk.bytS sk 16 = x := ⟨_, rfl⟩
      rw [ex, et] at hq
      have HC := Lib.hid (getVal_any wr b sk HS.out.r ex et)
      have hmk : n - (k + 1) = m := by omega
      have HQN : Hid (getQ n s1 = ((acc ++ [x]) ++ (getQ (n - (k + 1)) t).1, (getQ (n - (k + 1)) t).2)) := Lib.hid (by rw [hmk, hq]; simp)
      clear hq hstep ex et hm1 hmk HQ
      go_wp2_with (first
        | (go_at_call 39; refine HC.out.mono ?_; rintro en w1 ⟨A2, c2, rfl, ho2, hr2, hb2⟩
           have b1 : Below w1.heap.size w1 (w1.alloc (.cells #[.slice A2 x.length c2] 22)) := (Below.refl _ _).alloc (Nat.le_refl _) _
           have HS2 := Lib.hid ((HS.out.call hr2 hb2).below b1)
           obtain ⟨vs, hv1, hv2⟩ := (HO.out.old hb2 (Old.some HBL.out)).below b1
           have HO2 := Lib.hid (own_below (own_of HS.out.size ho2) b1)
           have hsz : w.heap.size ≤ (w1.alloc (.cells #[.slice A2 x.length c2] 22)).heap.size := HS2.out.size)
        | (at_builtin
           refine wpList_append_at w.heap.size hsz cellQ (.tmp 13) (.tmp 17) rfl (by rfl) rfl hv1 rfl (Rd.oneV _ _ _) (by intro u hu; simp at hu; subst hu; rfl) (by omega) (by omega) ?_
           intro A3 c3 w3 hown3 hg3)
        | fail)
      go_roundw
      case rel =>
        refine ⟨k + 1, A3, c3, acc ++ [x], t, by omega, by go_num, rfl, Lib.hid (HS2.out.row hv1 (by decide) (by decide) hg3), Lib.hid ?_, HQN⟩
        refine ⟨vs ++ [.slice A2 x.length c2], hown3, (hv2.snoc HO2.out).grown hv1 hg3⟩
      case measure => simp only [intOf]; omega
    · have hq := HQ.out
      have hnk : n - k = 0 := by omega
      rw [hnk, show getQ 0 sk = ([], sk) from rfl, List.append_nil, HG.out] at hq
      injection hq with h1 h2
      subst h1 h2
      have hlen : R.length = k := HO.out.length
      subst hlen
      go_wp2_with fail
      go_ret
      exact ⟨A1, c1, rfl, HO.out, HS.out.r, HS.out.only⟩
set_option maxHeartbeats 2000000 in
set_option maxRecDepth 100000 in
theorem getEachI_any (w : World) (b : Nat) (s : Pk.St) {most : Int} (hm0 : 0 ≤ most) (hm : most ≤ 100) (h : RdrAt w b s) {R : List Int} {s' : Pk.St} (hR : (getI (Pk.numV s most) (Pk.numS s most)).1 = R) (hs' : (getI (Pk.numV s most) (Pk.numS s most)).2 = s') :
    Calls Try.prog 41 #[.pointer (some ⟨b, 0, none⟩), .int .i64 most, .func (.func 42) #[] #[]] w fun en w' => ∃ A c, en = .returned (.slice A R.length c) ∧ OwnI w w' A R.length c R ∧ RdrAt w' b s' ∧ Only b w w' := by
  have hbl := h.lt
  have HBL := Lib.hid hbl
  obtain ⟨n, hn⟩ : ∃ x, Pk.numV s most = x := ⟨_, rfl⟩
  obtain ⟨s1, hs1⟩ : ∃ x, Pk.numS s most = x := ⟨_, rfl⟩
  have hn100 : n ≤ 100 := by have := numV_le s hm0; omega
  have HC := Lib.hid (rnum_is w b s most h n s1 hn hs1)
  rw [hn, hs1] at hR hs'
  have HG : Hid (getI n s1 = (R, s')) := Lib.hid (by rw [← hR, ← hs'])
  have H0 : Hid (RgSt w w b s) := Lib.hid ⟨h, only_refl b w⟩
  clear hR hs' hn hs1 h
  go_enter Try.func41, Try.ntmps41
  go_wp2_with (first
    | (go_at_call 15; refine HC.out.mono ?_; rintro en w1 ⟨rfl, hr1, hb1⟩; have HS1 := Lib.hid (H0.out.call hr1 hb1); clear hr1 hb1 HC)
    | fail)
  go_loopw [7, 11] (fun s7 s11 wr => ∃ (k : Nat) (A1 : Option Addr) (c1 : Nat) (acc : List Int) (sk : Pk.St), k ≤ n ∧ s11 = .int .i64 (k : Int) ∧ s7 = .slice A1 k c1 ∧ Hid (RgSt w wr b sk) ∧ Hid (OwnI w wr A1 k c1 acc) ∧ Hid (getI n s1 = (acc ++ (getI (n - k) sk).1, (getI (n - k) sk).2))) (fun _ s11 _ => n - (intOf s11).toNat)
  case atStart => exact ⟨0, none, 0, [], s1, Nat.zero_le _, rfl, rfl, HS1, Lib.hid (ownI_nil _ _), Lib.hid (by simp)⟩
  case round =>
    clear HS1 H0
    obtain ⟨k, A1, c1, acc, sk, hk, rfl, rfl, HS, HO, HQ⟩ := hrel
    by_cases hlt : k < n
    · obtain ⟨m, hm1⟩ : ∃ m, n - k = m + 1 := ⟨n - k - 1, by omega⟩
      have hstep : getI (m + 1) sk = ((Pk.numV sk 999 : Int) :: (getI m (Pk.numS sk 999)).1, (getI m (Pk.numS sk 999)).2) := rfl
      have hq := HQ.out
      rw [hm1, hstep] at hq
      obtain ⟨x, ex⟩ : ∃ x, Pk.numV sk 999 = x := ⟨_, rfl⟩
      obtain ⟨t, et⟩ : ∃ x, Pk.numS sk 999 = x := ⟨_, rfl⟩
      rw [ex, et] at hq
      have HC := Lib.hid (getWho_any wr b sk HS.out.r ex et)
      have hmk : n - (k + 1) = m := by omega
      have HQN : Hid (getI n s1 = ((acc ++ [(x : Int)]) ++ (getI (n - (k + 1)) t).1, (getI (n - (k + 1)) t).2)) := Lib.hid (by rw [hmk, hq]; simp)
      clear hq hstep ex et hm1 hmk HQ
      go_wp2_with (first
        | (go_at_call 42; refine HC.out.mono ?_; rintro en w1 ⟨rfl, hr2, hb2⟩
           have b1 : Below w1.heap.size w1 (w1.alloc (.cells #[.int .i64 (x : Int)] 3)) := (Below.refl _ _).alloc (Nat.le_refl _) _
           have HS2 := Lib.hid ((HS.out.call hr2 hb2).below b1)
           have hv1 := ownsRow_below (own_old HO.out hb2 (Old.some HBL.out)) b1
           have hsz : w.heap.size ≤ (w1.alloc (.cells #[.int .i64 (x : Int)] 3)).heap.size := HS2.out.size)
        | (at_builtin
           refine wpList_append_at w.heap.size hsz cellI (.tmp 13) (.tmp 17) rfl (by rfl) rfl hv1 rfl (Rd.oneV _ _ _) (by intro u hu; simp at hu; subst hu; rfl) (by omega) (by omega) ?_
           intro A3 c3 w3 hown3 hg3)
        | fail)
      go_roundw
      case rel =>
        refine ⟨k + 1, A3, c3, acc ++ [(x : Int)], t, by omega, by go_num, rfl, Lib.hid (HS2.out.row hv1 (by decide) (by decide) hg3), Lib.hid ?_, HQN⟩
        unfold OwnI
        rw [iv_snocO]
        exact hown3
      case measure => simp only [intOf]; omega
    · have hq := HQ.out
      have hnk : n - k = 0 := by omega
      rw [hnk, show getI 0 sk = ([], sk) from rfl, List.append_nil, HG.out] at hq
      injection hq with h1 h2
      subst h1 h2
      have hlen : R.length = k := ownI_len HO.out
      subst hlen
      go_wp2_with fail
      go_ret
      exact ⟨A1, c1, rfl, HO.out, HS.out.r, HS.out.only⟩
set_option maxHeartbeats 2000000 in
set_option maxRecDepth 100000 in
theorem getEachP_any (w : World) (b : Nat) (s : Pk.St) {most : Int} (hm0 : 0 ≤ most) (hm : most ≤ 100) (h : RdrAt w b s) {R : List Pr} {s' : Pk.St} (hR : (getP (Pk.numV s most) (Pk.numS s most)).1 = R) (hs' : (getP (Pk.numV s most) (Pk.numS s most)).2 = s') :
    Calls Try.prog 43 #[.pointer (some ⟨b, 0, none⟩), .int .i64 most, .func (.func 44) #[] #[]] w fun en w' => ∃ A c, en = .returned (.slice A R.length c) ∧ OwnP w w' A R.length c R ∧ RdrAt w' b s' ∧ Only b w w' := by
  have hbl := h.lt
  have HBL := Lib.hid hbl
  obtain ⟨n, hn⟩ : ∃ x, Pk.numV s most = x := ⟨_, rfl⟩
  obtain ⟨s1, hs1⟩ : ∃ x, Pk.numS s most = x := ⟨_, rfl⟩
  have hn100 : n ≤ 100 := by have := numV_le s hm0; omega
  have HC := Lib.hid (rnum_is w b s most h n s1 hn hs1)
  rw [hn, hs1] at hR hs'
  have HG : Hid (getP n s1 = (R, s')) := Lib.hid (by rw [← hR, ← hs'])
  have H0 : Hid (RgSt w w b s) := Lib.hid ⟨h, only_refl b w⟩
  clear hR hs' hn hs1 h
  go_enter Try.func43, Try.ntmps43
  go_wp2_with (first
    | (go_at_call 15; refine HC.out.mono ?_; rintro en w1 ⟨rfl, hr1, hb1⟩; have HS1 := Lib.hid (H0.out.call hr1 hb1); clear hr1 hb1 HC)
    | fail)
  go_loopw [7, 11] (fun s7 s11 wr => ∃ (k : Nat) (A1 : Option Addr) (c1 : Nat) (acc : List Pr) (sk : Pk.St), k ≤ n ∧ s11 = .int .i64 (k : Int) ∧ s7 = .slice A1 k c1 ∧ Hid (RgSt w wr b sk) ∧ Hid (OwnP w wr A1 k c1 acc) ∧ Hid (getP n s1 = (acc ++ (getP (n - k) sk).1, (getP (n - k) sk).2))) (fun _ s11 _ => n - (intOf s11).toNat)
  case atStart => exact ⟨0, none, 0, [], s1, Nat.zero_le _, rfl, rfl, HS1, Lib.hid (OwnP.nil _ _), Lib.hid (by simp)⟩
  case round =>
    clear HS1 H0
    obtain ⟨k, A1, c1, acc, sk, hk, rfl, rfl, HS, HO, HQ⟩ := hrel
    by_cases hlt : k < n
    · obtain ⟨m, hm1⟩ : ∃ m, n - k = m + 1 := ⟨n - k - 1, by omega⟩
      have hstep : getP (m + 1) sk = ((getP1 sk).1 :: (getP m (getP1 sk).2).1, (getP m (getP1 sk).2).2) := rfl
      have hq := HQ.out
      rw [hm1, hstep] at hq
      obtain ⟨x, ex⟩ : ∃ x, (getP1 sk).1 = x := ⟨_, rfl⟩
      obtain ⟨t, et⟩ : ∃ x, (getP1 sk).2 = x := ⟨_, rfl⟩
      rw [ex, et] at hq
      have HC := Lib.hid (getPair_any wr b sk HS.out.r)
      rw [ex, et] at HC
      have hmk : n - (k + 1) = m := by omega
      have HQN : Hid (getP n s1 = ((acc ++ [x]) ++ (getP (n - (k + 1)) t).1, (getP (n - (k + 1)) t).2)) := Lib.hid (by rw [hmk, hq]; simp)
      clear hq hstep ex et hm1 hmk HQ
      go_wp2_with (first
        | (go_at_call 44; refine HC.out.mono ?_; rintro en w1 ⟨A2, c2, A4, c4, rfl, ho2, ho4, hr2, hb2⟩
           have b1 : Below w1.heap.size w1 (w1.alloc (.cells #[.slice A2 x.1.length c2, .slice A4 x.2.length c4] 68)) := (Below.refl _ _).alloc (Nat.le_refl _) _
           have HS2 := Lib.hid ((HS.out.call hr2 hb2).below b1)
           obtain ⟨vs, hv1, hv2⟩ := (HO.out.old hb2 (Old.some HBL.out)).below b1
           have HO2 := Lib.hid (own_below (own_of HS.out.size ho2) b1)
           have HO4 := Lib.hid (own_below (own_of HS.out.size ho4) b1)
           have hsz : w.heap.size ≤ (w1.alloc (.cells #[.slice A2 x.1.length c2, .slice A4 x.2.length c4] 68)).heap.size := HS2.out.size)
        | (at_builtin
           refine wpList_append_atS w.heap.size hsz cellP (.tmp 13) (.tmp 17) rfl (by rfl) rfl hv1 rfl (Rd.twoAt _ _ _ _ rfl) (by intro u hu; simp at hu; rcases hu with rfl | rfl <;> rfl) (by omega) (by omega) ?_
           intro A3 c3 w3 hown3 hg3)
        | fail)
      go_roundw
      case rel =>
        refine ⟨k + 1, A3, c3, acc ++ [x], t, by omega, by go_num, rfl, Lib.hid (HS2.out.row hv1 (by decide) (by decide) hg3), Lib.hid ?_, HQN⟩
        refine ⟨vs ++ [.slice A2 x.1.length c2, .slice A4 x.2.length c4], hown3, ?_⟩
        rw [flat_append]
        exact (hv2.two HO2.out HO4.out).grownP hv1 hg3
      case measure => simp only [intOf]; omega
    · have hq := HQ.out
      have hnk : n - k = 0 := by omega
      rw [hnk, show getP 0 sk = ([], sk) from rfl, List.append_nil, HG.out] at hq
      injection hq with h1 h2
      subst h1 h2
      have hlen : R.length = k := HO.out.length
      subst hlen
      go_wp2_with fail
      go_ret
      exact ⟨A1, c1, rfl, HO.out, HS.out.r, HS.out.only⟩
set_option maxHeartbeats 2000000 in
set_option maxRecDepth 100000 in
theorem getEachT_any (w : World) (b : Nat) (s : Pk.St) {most : Int} (hm0 : 0 ≤ most) (hm : most ≤ 100) (h : RdrAt w b s) {R : List Ls} {s' : Pk.St} (hR : (getT (Pk.numV s most) (Pk.numS s most)).1 = R) (hs' : (getT (Pk.numV s most) (Pk.numS s most)).2 = s') :
    Calls Try.prog 45 #[.pointer (some ⟨b, 0, none⟩), .int .i64 most, .func (.func 46) #[] #[]] w fun en w' => ∃ A c, en = .returned (.slice A R.length c) ∧ OwnL w w' A R.length c R ∧ RdrAt w' b s' ∧ Only b w w' := by
  have hbl := h.lt
  have HBL := Lib.hid hbl
  obtain ⟨n, hn⟩ : ∃ x, Pk.numV s most = x := ⟨_, rfl⟩
  obtain ⟨s1, hs1⟩ : ∃ x, Pk.numS s most = x := ⟨_, rfl⟩
  have hn100 : n ≤ 100 := by have := numV_le s hm0; omega
  have HC := Lib.hid (rnum_is w b s most h n s1 hn hs1)
  rw [hn, hs1] at hR hs'
  have HG : Hid (getT n s1 = (R, s')) := Lib.hid (by rw [← hR, ← hs'])
  have H0 : Hid (RgSt w w b s) := Lib.hid ⟨h, only_refl b w⟩
  clear hR hs' hn hs1 h
  go_enter Try.func45, Try.ntmps45
  go_wp2_with (first
    | (go_at_call 15; refine HC.out.mono ?_; rintro en w1 ⟨rfl, hr1, hb1⟩; have HS1 := Lib.hid (H0.out.call hr1 hb1); clear hr1 hb1 HC)
    | fail)
  go_loopw [7, 11] (fun s7 s11 wr => ∃ (k : Nat) (A1 : Option Addr) (c1 : Nat) (acc : List Ls) (sk : Pk.St), k ≤ n ∧ s11 = .int .i64 (k : Int) ∧ s7 = .slice A1 k c1 ∧ Hid (RgSt w wr b sk) ∧ Hid (OwnL w wr A1 k c1 acc) ∧ Hid (getT n s1 = (acc ++ (getT (n - k) sk).1, (getT (n - k) sk).2))) (fun _ s11 _ => n - (intOf s11).toNat)
  case atStart => exact ⟨0, none, 0, [], s1, Nat.zero_le _, rfl, rfl, HS1, Lib.hid (OwnL.nil _ _), Lib.hid (by simp)⟩
  case round =>
    clear HS1 H0
    obtain ⟨k, A1, c1, acc, sk, hk, rfl, rfl, HS, HO, HQ⟩ := hrel
    by_cases hlt : k < n
    · obtain ⟨m, hm1⟩ : ∃ m, n - k = m + 1 := ⟨n - k - 1, by omega⟩
      have hstep : getT (m + 1) sk = ((getT1 sk).1 :: (getT m (getT1 sk).2).1, (getT m (getT1 sk).2).2) := rfl
      have hq := HQ.out
      rw [hm1, hstep] at hq
      obtain ⟨x, ex⟩ : ∃ x, (getT1 sk).1 = x := ⟨_, rfl⟩
      obtain ⟨t, et⟩ : ∃ x, (getT1 sk).2 = x := ⟨_, rfl⟩
      rw [ex, et] at hq
      have HC := Lib.hid (getLast_any wr b sk HS.out.r)
      rw [ex, et] at HC
      have hmk : n - (k + 1) = m := by omega
      have HQN : Hid (getT n s1 = ((acc ++ [x]) ++ (getT (n - (k + 1)) t).1, (getT (n - (k + 1)) t).2)) := Lib.hid (by rw [hmk, hq]; simp)
      clear hq hstep ex et hm1 hmk HQ
      go_wp2_with (first
        | (go_at_call 46; refine HC.out.mono ?_; rintro en w1 ⟨A2, c2, rfl, ho2, hr2, hb2⟩
           have b1 : Below w1.heap.size w1 (w1.alloc (.cells #[.int .i64 x.s, .int .i64 x.q, .int .i64 x.e, .slice A2 x.v.length c2, .int .i64 x.n] 75)) := (Below.refl _ _).alloc (Nat.le_refl _) _
           have HS2 := Lib.hid ((HS.out.call hr2 hb2).below b1)
           obtain ⟨vs, hv1, hv2⟩ := (HO.out.old hb2 (Old.some HBL.out)).below b1
           have HO2 := Lib.hid (own_below (own_of HS.out.size ho2) b1)
           have hsz : w.heap.size ≤ (w1.alloc (.cells #[.int .i64 x.s, .int .i64 x.q, .int .i64 x.e, .slice A2 x.v.length c2, .int .i64 x.n] 75)).heap.size := HS2.out.size)
        | (at_builtin
           refine wpList_append_atS w.heap.size hsz cellL (.tmp 13) (.tmp 17) rfl (by rfl) rfl hv1 rfl (Rd.lastAt _ A2 c2 x _ rfl) (lastC_one _ _ _) (by omega) (by omega) ?_
           intro A3 c3 w3 hown3 hg3)
        | fail)
      go_roundw
      case rel =>
        refine ⟨k + 1, A3, c3, acc ++ [x], t, by omega, by go_num, rfl, Lib.hid (HS2.out.row hv1 (by decide) (by decide) hg3), Lib.hid ?_, HQN⟩
        refine ⟨vs ++ lastC A2 c2 x, hown3, (hv2.snoc HO2.out).grown (by decide) hv1 hg3⟩
      case measure => simp only [intOf]; omega
    · have hq := HQ.out
      have hnk : n - k = 0 := by omega
      rw [hnk, show getT 0 sk = ([], sk) from rfl, List.append_nil, HG.out] at hq
      injection hq with h1 h2
      subst h1 h2
      have hlen : R.length = k := HO.out.length
      subst hlen
      go_wp2_with fail
      go_ret
      exact ⟨A1, c1, rfl, HO.out, HS.out.r, HS.out.only⟩
end Go.Proofs.Ytmekamgohonffaa

namespace Go.Proofs.Ytmekamgohonffaa
open Go.RowKit
set_option linter.unusedVariables false
/-- a machine that is being read: the answer's variable, the machine's, its rows, the reader -/
structure DcSt (w w1 wx : World) (rb g2 : Nat) (a : MA) (m : Mc) (s : Pk.St) : Prop where
  res : Blk wx w.heap.size 35 #[.slice none 0 0, .slice none 0 0, .slice none 0 0, .slice none 0 0, .slice none 0 0]
  blk : Blk wx g2 35 (machC a m)
  own : OwnM w1 wx a m
  rd : RgSt w1 wx rb s
section
variable {w w1 wx wy : World} {rb g2 : Nat} {a : MA} {m : Mc} {s s' : Pk.St}
theorem DcSt.call (h : DcSt w w1 wx rb g2 a m s) (hb : rb < w1.heap.size) (h0 : w.heap.size ≠ rb) (h2 : g2 ≠ rb) (hr : RdrAt wy rb s') (ho : Only rb wx wy) : DcSt w w1 wy rb g2 a m s' :=
  ⟨h.res.grown ho (by simpa using h0), h.blk.grown ho (by simpa using h2), h.own.old ho (Old.some hb), h.rd.call hr ho⟩
theorem DcSt.put {a' : MA} {m' : Mc} {i : Nat} {u : Value} (h : DcSt w w1 wx rb g2 a m s) (ho : OwnM w1 wx a' m') (h0 : w.heap.size ≠ g2) (hg : w1.heap.size ≤ g2) (hc : (machC a m).setIfInBounds i u = machC a' m') : DcSt w w1 (wx.setCell ⟨g2, i, none⟩ u) rb g2 a' m' s :=
  ⟨h.res.set_other h0, hc ▸ h.blk.set_ i u, ho.set_t h.blk (by decide) (by decide) (by decide) (by decide) (by decide), h.rd.set h.blk (by decide) (by decide) hg⟩
end
/-- the answer's variable is written -/
theorem dec_end {w wx : World} (hk : Blk wx w.heap.size 35 #[.slice none 0 0, .slice none 0 0, .slice none 0 0, .slice none 0 0, .slice none 0 0]) (hB : Below w.heap.size w wx) {a : MA} {m : Mc} (ho : OwnM w wx a m) :
    let wy := (((((wx.setCell ⟨w.heap.size, 0, none⟩ (.slice a.o.A0 m.o.reg.length a.o.c0)).setCell ⟨w.heap.size, 1, none⟩ (.slice a.o.A1 m.o.q.length a.o.c1)).setCell ⟨w.heap.size, 2, none⟩ (.slice a.o.A2 m.o.lk.length a.o.c2)).setCell ⟨w.heap.size, 3, none⟩ (.slice a.o.A3 m.o.mp.length a.o.c3)).setCell ⟨w.heap.size, 4, none⟩ (.slice a.At m.t.length a.ct))
    Blk wy w.heap.size 35 (machC a m) ∧ OwnM w wy a m ∧ Below w.heap.size w wy := by
  intro wy
  obtain ⟨k1, k2, k3, _, _⟩ := put5 hk (.slice a.o.A0 m.o.reg.length a.o.c0) (.slice a.o.A1 m.o.q.length a.o.c1) (.slice a.o.A2 m.o.lk.length a.o.c2) (.slice a.o.A3 m.o.mp.length a.o.c3) (.slice a.At m.t.length a.ct)
  exact ⟨k1, k3 w a m ho (by decide) (by decide) (by decide) (by decide) (by decide), k2 w (Nat.le_refl _) hB⟩
set_option maxHeartbeats 8000000 in
set_option maxRecDepth 100000 in
theorem decode_raw {w : World} {A : Option Addr} {n c B : Nat} {l : List Nat} (hl : l.length ≤ 100000) (hb : ∀ x ∈ l, x < 256) (h : Rd w B A n (bv l)) :
    Calls Try.prog 16 #[.slice A n c] w (GotMB w w (Mc.dec l)) := by
  obtain rfl := h.length
  have HN := Lib.hid (Mc.get_near (s := some l) (fun l' hl' => by injection hl' with hl'; subst hl'; exact hb))
  have HDEC : Hid (Mc.dec l = if (Mc.get (some l)).1.wf = true ∧ (Mc.get (some l)).2 = some [] then some (Mc.get (some l)).1 else none) := Lib.hid rfl
  obtain ⟨R, hR⟩ : ∃ R, Mc.dec l = R := ⟨_, rfl⟩
  rw [hR] at HDEC ⊢
  -- the names of what is read
  obtain ⟨v0, d0⟩ : ∃ x, Pk.bytV (some l) 16 = x := ⟨_, rfl⟩
  obtain ⟨s1, e1⟩ : ∃ x, Pk.bytS (some l) 16 = x := ⟨_, rfl⟩
  obtain ⟨qs, d1⟩ : ∃ x, (stQ s1).1 = x := ⟨_, rfl⟩
  obtain ⟨s2, e2⟩ : ∃ x, (stQ s1).2 = x := ⟨_, rfl⟩
  obtain ⟨zs, d2⟩ : ∃ x, (stI s2).1 = x := ⟨_, rfl⟩
  obtain ⟨s3, e3⟩ : ∃ x, (stI s2).2 = x := ⟨_, rfl⟩
  obtain ⟨ps, d3⟩ : ∃ x, (stP s3).1 = x := ⟨_, rfl⟩
  obtain ⟨s4, e4⟩ : ∃ x, (stP s3).2 = x := ⟨_, rfl⟩
  obtain ⟨ts, d4⟩ : ∃ x, (stT s4).1 = x := ⟨_, rfl⟩
  obtain ⟨s5, e5⟩ : ∃ x, (stT s4).2 = x := ⟨_, rfl⟩
  have HGET : Hid (Mc.get (some l) = (⟨⟨v0, qs, zs, ps⟩, ts⟩, s5)) := Lib.hid (by
    unfold Mc.get getO
    simp only [d0, e1, d1, e2, d2, e3, d3, e4, d4, e5])
  rw [HGET.out] at HN HDEC
  simp only [] at HN HDEC
  have C0 := Lib.hid (fun w rb h => getVal_any w rb (some l) h d0 e1)
  have C1 := Lib.hid (fun w rb h => getEachQ_any w rb s1 (most := 8) (by omega) (by omega) h d1 e2)
  have C2 := Lib.hid (fun w rb h => getEachI_any w rb s2 (most := 5) (by omega) (by omega) h d2 e3)
  have C3 := Lib.hid (fun w rb h => getEachP_any w rb s3 (most := 8) (by omega) (by omega) h d3 e4)
  have C4 := Lib.hid (fun w rb h => getEachT_any w rb s4 (most := 8) (by omega) (by omega) h d4 e5)
  have k1 : zs.length ≤ 5 := HN.out.ll
  have k2 : ps.length ≤ 8 := HN.out.ml
  have k3 : ts.length ≤ 8 := HN.out.tl
  clear d0 e1 d1 e2 d2 e3 d3 e4 d4 e5 hR HGET
  have HREAD : Hid (∀ wx, Below w.heap.size w wx → Calls Try.prog 14 #[.slice A l.length c] wx fun e w' => ∃ b, e = .returned (.pointer (some ⟨b, 0, none⟩)) ∧ RdrAt w' b (some l) ∧ wx.heap.size ≤ b ∧ Below wx.heap.size wx w') :=
    Lib.hid (fun wx hbx => (read_in (W := wx) (c := c) (by unfold Lim; omega) hb (h.fit.below hbx) (Below.refl _ _)).mono fun e w' ⟨b, h1, h2, h3, h4, h5, h6⟩ => ⟨b, h1, h2, h4, h6⟩)
  have HB0 : Hid (Below w.heap.size w (w.alloc (.cells #[.slice none 0 0, .slice none 0 0, .slice none 0 0, .slice none 0 0, .slice none 0 0] 35))) := Lib.hid ((Below.refl _ _).alloc (Nat.le_refl _) _)
  have HK0 := Lib.hid (Blk.new w 35 #[.slice none 0 0, .slice none 0 0, .slice none 0 0, .slice none 0 0, .slice none 0 0])
  clear h hb hl
  go_enter Try.func16, Try.ntmps16
  go_upto_region 3 with (first
    | (go_at_call 14; refine (HREAD.out _ HB0.out).mono ?_; rintro en w1 ⟨rb, rfl, hr1, hrb, hb1⟩)
    | fail)
  have hsz : w.heap.size + 1 ≤ rb := by simpa using hrb
  have hlt1 : rb < w1.heap.size := hr1.lt
  have HB1 : Hid (Below w.heap.size w w1) := Lib.hid (HB0.out.trans (hb1.mono HB0.out.size))
  have bb : Below w1.heap.size w1 (w1.alloc (.cells #[.slice none 0 0, .slice none 0 0, .slice none 0 0, .slice none 0 0, .slice none 0 0] 35)) := (Below.refl _ _).alloc (Nat.le_refl _) _
  have HD : Hid (DcSt w w1 (w1.alloc (.cells #[.slice none 0 0, .slice none 0 0, .slice none 0 0, .slice none 0 0, .slice none 0 0] 35)) rb w1.heap.size ⟨⟨none, 0, none, 0, none, 0, none, 0⟩, none, 0⟩ Mc.zero (some l)) :=
    Lib.hid ⟨(HK0.out.below hb1).below bb, Blk.new _ _ _, OwnM.zero _ _, ⟨hr1.below bb, only_below (only_refl rb w1) bb (Nat.le_refl _)⟩⟩
  obtain ⟨g2, hg2⟩ : ∃ x, w1.heap.size = x := ⟨_, rfl⟩
  rw [hg2] at HD
  rw [hg2]
  have HG2 : Hid (w1.heap.size ≤ g2) := Lib.hid (by omega)
  have HN0 : Hid (w.heap.size ≠ rb) := Lib.hid (by omega)
  have HN2 : Hid (g2 ≠ rb) := Lib.hid (by omega)
  have HN1 : Hid (w.heap.size ≠ g2) := Lib.hid (by omega)
  have HRB : Hid (rb < w1.heap.size) := Lib.hid hlt1
  have HRW : Hid (w.heap.size ≤ rb) := Lib.hid (by omega)
  have HZ1 : Hid (w.heap.size ≤ w1.heap.size) := Lib.hid (by omega)
  clear hr1 hrb hb1 bb hsz hlt1 hg2 HREAD HB0 HK0
  generalize w1.alloc (.cells #[.slice none 0 0, .slice none 0 0, .slice none 0 0, .slice none 0 0, .slice none 0 0] 35) = wx0 at HD ⊢
  have HDX := HD
  go_upto_region 4 with (first
    | (go_at_call 39; refine (C0.out _ _ HD.out.rd.r).mono ?_; rintro en w2 ⟨A0, c0, rfl, hv, hr, ho⟩
       have HDC := Lib.hid (HD.out.call HRB.out HN0.out HN2.out hr ho)
       have HOW : Hid (OwnM w1 w2 ⟨⟨A0, c0, none, 0, none, 0, none, 0⟩, none, 0⟩ ⟨⟨v0, [], [], []⟩, []⟩) := Lib.hid ⟨⟨own_of HDX.out.rd.size hv, HDC.out.own.o.o1, HDC.out.own.o.o2, HDC.out.own.o.o3⟩, HDC.out.own.t⟩
       obtain ⟨x0, x1, x2, x3, x4⟩ := five HDC.out.blk
       obtain ⟨f0, f1, f2, f3, f4⟩ := five_frozen HDC.out.blk
       clear hv hr ho C0)
    | fail)
  have HD : Hid (DcSt w w1 (w2.setCell ⟨g2, 0, none⟩ (.slice A0 v0.length c0)) rb g2 ⟨⟨A0, c0, none, 0, none, 0, none, 0⟩, none, 0⟩ ⟨⟨v0, [], [], []⟩, []⟩ s1) := Lib.hid (HDC.out.put HOW.out HN1.out HG2.out rfl)
  clear HDC HOW HDX x0 x1 x2 x3 x4 f0 f1 f2 f3 f4
  generalize w2.setCell ⟨g2, 0, none⟩ (.slice A0 v0.length c0) = wx1 at HD ⊢
  have HDX := HD
  go_upto_region 5 with (first
    | (go_at_call 40; refine (C1.out _ _ HD.out.rd.r).mono ?_; rintro en w2 ⟨A1, c1, rfl, hv, hr, ho⟩
       have HDC := Lib.hid (HD.out.call HRB.out HN0.out HN2.out hr ho)
       have HOW : Hid (OwnM w1 w2 ⟨⟨A0, c0, A1, c1, none, 0, none, 0⟩, none, 0⟩ ⟨⟨v0, qs, [], []⟩, []⟩) := Lib.hid ⟨⟨HDC.out.own.o.o0, hv.of HDX.out.rd.size, HDC.out.own.o.o2, HDC.out.own.o.o3⟩, HDC.out.own.t⟩
       obtain ⟨x0, x1, x2, x3, x4⟩ := five HDC.out.blk
       obtain ⟨f0, f1, f2, f3, f4⟩ := five_frozen HDC.out.blk
       clear hv hr ho C1)
    | fail)
  have HD : Hid (DcSt w w1 (w2.setCell ⟨g2, 1, none⟩ (.slice A1 qs.length c1)) rb g2 ⟨⟨A0, c0, A1, c1, none, 0, none, 0⟩, none, 0⟩ ⟨⟨v0, qs, [], []⟩, []⟩ s2) := Lib.hid (HDC.out.put HOW.out HN1.out HG2.out rfl)
  clear HDC HOW HDX x0 x1 x2 x3 x4 f0 f1 f2 f3 f4
  generalize w2.setCell ⟨g2, 1, none⟩ (.slice A1 qs.length c1) = wx2 at HD ⊢
  have HDX := HD
  go_upto_region 6 with (first
    | (go_at_call 41; refine (C2.out _ _ HD.out.rd.r).mono ?_; rintro en w2 ⟨A2, c2, rfl, hv, hr, ho⟩
       have HDC := Lib.hid (HD.out.call HRB.out HN0.out HN2.out hr ho)
       have HOW : Hid (OwnM w1 w2 ⟨⟨A0, c0, A1, c1, A2, c2, none, 0⟩, none, 0⟩ ⟨⟨v0, qs, zs, []⟩, []⟩) := Lib.hid ⟨⟨HDC.out.own.o.o0, HDC.out.own.o.o1, own_of HDX.out.rd.size hv, HDC.out.own.o.o3⟩, HDC.out.own.t⟩
       obtain ⟨x0, x1, x2, x3, x4⟩ := five HDC.out.blk
       obtain ⟨f0, f1, f2, f3, f4⟩ := five_frozen HDC.out.blk
       clear hv hr ho C2)
    | fail)
  have HD : Hid (DcSt w w1 (w2.setCell ⟨g2, 2, none⟩ (.slice A2 zs.length c2)) rb g2 ⟨⟨A0, c0, A1, c1, A2, c2, none, 0⟩, none, 0⟩ ⟨⟨v0, qs, zs, []⟩, []⟩ s3) := Lib.hid (HDC.out.put HOW.out HN1.out HG2.out rfl)
  clear HDC HOW HDX x0 x1 x2 x3 x4 f0 f1 f2 f3 f4
  generalize w2.setCell ⟨g2, 2, none⟩ (.slice A2 zs.length c2) = wx3 at HD ⊢
  have HDX := HD
  go_upto_region 7 with (first
    | (go_at_call 43; refine (C3.out _ _ HD.out.rd.r).mono ?_; rintro en w2 ⟨A3, c3, rfl, hv, hr, ho⟩
       have HDC := Lib.hid (HD.out.call HRB.out HN0.out HN2.out hr ho)
       have HOW : Hid (OwnM w1 w2 ⟨⟨A0, c0, A1, c1, A2, c2, A3, c3⟩, none, 0⟩ ⟨⟨v0, qs, zs, ps⟩, []⟩) := Lib.hid ⟨⟨HDC.out.own.o.o0, HDC.out.own.o.o1, HDC.out.own.o.o2, hv.of HDX.out.rd.size⟩, HDC.out.own.t⟩
       obtain ⟨x0, x1, x2, x3, x4⟩ := five HDC.out.blk
       obtain ⟨f0, f1, f2, f3, f4⟩ := five_frozen HDC.out.blk
       clear hv hr ho C3)
    | fail)
  have HD : Hid (DcSt w w1 (w2.setCell ⟨g2, 3, none⟩ (.slice A3 ps.length c3)) rb g2 ⟨⟨A0, c0, A1, c1, A2, c2, A3, c3⟩, none, 0⟩ ⟨⟨v0, qs, zs, ps⟩, []⟩ s4) := Lib.hid (HDC.out.put HOW.out HN1.out HG2.out rfl)
  clear HDC HOW HDX x0 x1 x2 x3 x4 f0 f1 f2 f3 f4
  generalize w2.setCell ⟨g2, 3, none⟩ (.slice A3 ps.length c3) = wx4 at HD ⊢
  have HDX := HD
  go_upto_region 8 with (first
    | (go_at_call 45; refine (C4.out _ _ HD.out.rd.r).mono ?_; rintro en w2 ⟨A4, c4, rfl, hv, hr, ho⟩
       have HDC := Lib.hid (HD.out.call HRB.out HN0.out HN2.out hr ho)
       have HOW : Hid (OwnM w1 w2 ⟨⟨A0, c0, A1, c1, A2, c2, A3, c3⟩, A4, c4⟩ ⟨⟨v0, qs, zs, ps⟩, ts⟩) := Lib.hid ⟨HDC.out.own.o, hv.of HDX.out.rd.size⟩
       obtain ⟨x0, x1, x2, x3, x4⟩ := five HDC.out.blk
       obtain ⟨f0, f1, f2, f3, f4⟩ := five_frozen HDC.out.blk
       clear hv hr ho C4)
    | fail)
  have HD : Hid (DcSt w w1 (w2.setCell ⟨g2, 4, none⟩ (.slice A4 ts.length c4)) rb g2 ⟨⟨A0, c0, A1, c1, A2, c2, A3, c3⟩, A4, c4⟩ ⟨⟨v0, qs, zs, ps⟩, ts⟩ s5) := Lib.hid (HDC.out.put HOW.out HN1.out HG2.out rfl)
  clear HDC HOW HDX x0 x1 x2 x3 x4 f0 f1 f2 f3 f4
  generalize w2.setCell ⟨g2, 4, none⟩ (.slice A4 ts.length c4) = wx5 at HD ⊢
  have HBX : Hid (Below w.heap.size w wx5) := Lib.hid (below_only HB1.out HD.out.rd.only HRW.out)
  have HOWN : Hid (OwnM w wx5 ⟨⟨A0, c0, A1, c1, A2, c2, A3, c3⟩, A4, c4⟩ ⟨⟨v0, qs, zs, ps⟩, ts⟩) := Lib.hid (HD.out.own.of HZ1.out)
  have HRES := Lib.hid HD.out.res
  have HBLK := Lib.hid HD.out.blk
  have HRDR := Lib.hid HD.out.rd.r
  unfold machC at HBLK
  have hq2 : OwnI w wx5 A2 zs.length c2 zs := HOWN.out.o.o2
  have CE := Lib.hid (end_any _ _ _ HRDR.out)
  have CO := Lib.hid (isOnce_any wx5 (c := c2) (Rd.own_ hq2) (by omega) (own_cap hq2).1)
  have CP : Hid (∀ wy, Below wx5.heap.size wx5 wy → Calls Try.prog 48 #[.slice A3 ps.length c3, .func (.func 49) #[] #[]] wy fun e w' => e = .returned (.bool (okP ps)) ∧ Below wy.heap.size wy w') :=
    Lib.hid (fun wy hb => isRisingP_any wy (fun p hp => (HN.out.mp p hp).2.1) (HOWN.out.o.o3.rd.below hb) (by have := HN.out.ml; simp only [] at this; omega))
  have CT : Hid (∀ wy, Below wx5.heap.size wx5 wy → Calls Try.prog 50 #[.slice A4 ts.length c4] wy fun e w' => e = .returned (.bool (okT ts)) ∧ Below wy.heap.size wy w') :=
    Lib.hid (fun wy hb => isTable_any wy (fun t ht => ⟨(HN.out.t t ht).1.2.1, (HN.out.t t ht).1.2.2.2⟩) (by have := HN.out.tl; simp only [] at this; omega) (HOWN.out.t.rd.below hb))
  have HWF : Hid (R = if (decide zs.Nodup && okP ps && okT ts) = true ∧ s5 = some [] then some ⟨⟨v0, qs, zs, ps⟩, ts⟩ else none) := HDEC
  obtain ⟨E, hE⟩ : ∃ E, Pk.endOf s5 = E := ⟨_, rfl⟩
  have HE : Hid (E = true ↔ s5 = some []) := Lib.hid (by rw [← hE]; unfold Pk.endOf; exact decide_eq_true_iff)
  rw [hE] at CE
  obtain ⟨O, hO⟩ : ∃ O : Bool, decide zs.Nodup = O := ⟨_, rfl⟩
  rw [hO] at CO HWF
  obtain ⟨P, hP⟩ : ∃ P, okP ps = P := ⟨_, rfl⟩
  rw [hP] at CP HWF
  obtain ⟨T, hT⟩ : ∃ T, okT ts = T := ⟨_, rfl⟩
  rw [hT] at CT HWF
  clear hE hO hP hT HDEC HN hq2 k1 k2 k3
  cases E with
  | false =>
    go_upto_region 9 with (first
      | (go_at_call 19; refine CE.out.mono ?_; rintro en wq ⟨rfl, rfl⟩; obtain ⟨x0, x1, x2, x3, x4⟩ := five HBLK.out)
      | (go_at_call 47; refine CO.out.mono ?_; rintro en wq ⟨rfl, rfl⟩)
      | (go_at_call 48; refine (CP.out _ (Below.refl _ _)).mono ?_; rintro en w6 ⟨rfl, hb6⟩; obtain ⟨x0, x1, x2, x3, x4⟩ := five (HBLK.out.below hb6); have HB6 := Lib.hid hb6; clear hb6)
      | (go_at_call 50; refine (CT.out _ HB6.out).mono ?_; rintro en w7 ⟨rfl, hb7⟩; have HB7 := Lib.hid (HB6.out.trans (hb7.mono HB6.out.size)); clear hb7)
      | fail)
    have HRF : Hid (R = none) := Lib.hid (by rw [HWF.out, if_neg (by rw [← HE.out]; simp)])
    obtain ⟨y0, y1, y2, y3, y4⟩ := five (HRES.out)
    obtain ⟨f0, f1, f2, f3, f4⟩ := five_frozen (HRES.out)
    go_wp2_with fail
    obtain ⟨p1, p2, p3⟩ := dec_end (HRES.out) (HBX.out) (OwnM.zero w _)
    refine bodyPost_ret (results_cell_tmp rfl _ _ _ _ _ _ rfl p1 Try.underlying35 rfl (by kernel_rfl)) rfl ?_
    rw [HRF.out]
    exact ⟨_, rfl, p2, p3, p3⟩
  | true =>
  cases O with
  | false =>
    go_upto_region 9 with (first
      | (go_at_call 19; refine CE.out.mono ?_; rintro en wq ⟨rfl, rfl⟩; obtain ⟨x0, x1, x2, x3, x4⟩ := five HBLK.out)
      | (go_at_call 47; refine CO.out.mono ?_; rintro en wq ⟨rfl, rfl⟩)
      | (go_at_call 48; refine (CP.out _ (Below.refl _ _)).mono ?_; rintro en w6 ⟨rfl, hb6⟩; obtain ⟨x0, x1, x2, x3, x4⟩ := five (HBLK.out.below hb6); have HB6 := Lib.hid hb6; clear hb6)
      | (go_at_call 50; refine (CT.out _ HB6.out).mono ?_; rintro en w7 ⟨rfl, hb7⟩; have HB7 := Lib.hid (HB6.out.trans (hb7.mono HB6.out.size)); clear hb7)
      | fail)
    have HRF : Hid (R = none) := Lib.hid (by rw [HWF.out, if_neg (by rw [← HE.out]; simp)])
    obtain ⟨y0, y1, y2, y3, y4⟩ := five (HRES.out)
    obtain ⟨f0, f1, f2, f3, f4⟩ := five_frozen (HRES.out)
    go_wp2_with fail
    obtain ⟨p1, p2, p3⟩ := dec_end (HRES.out) (HBX.out) (OwnM.zero w _)
    refine bodyPost_ret (results_cell_tmp rfl _ _ _ _ _ _ rfl p1 Try.underlying35 rfl (by kernel_rfl)) rfl ?_
    rw [HRF.out]
    exact ⟨_, rfl, p2, p3, p3⟩
  | true =>
  cases P with
  | false =>
    go_upto_region 9 with (first
      | (go_at_call 19; refine CE.out.mono ?_; rintro en wq ⟨rfl, rfl⟩; obtain ⟨x0, x1, x2, x3, x4⟩ := five HBLK.out)
      | (go_at_call 47; refine CO.out.mono ?_; rintro en wq ⟨rfl, rfl⟩)
      | (go_at_call 48; refine (CP.out _ (Below.refl _ _)).mono ?_; rintro en w6 ⟨rfl, hb6⟩; obtain ⟨x0, x1, x2, x3, x4⟩ := five (HBLK.out.below hb6); have HB6 := Lib.hid hb6; clear hb6)
      | (go_at_call 50; refine (CT.out _ HB6.out).mono ?_; rintro en w7 ⟨rfl, hb7⟩; have HB7 := Lib.hid (HB6.out.trans (hb7.mono HB6.out.size)); clear hb7)
      | fail)
    have HRF : Hid (R = none) := Lib.hid (by rw [HWF.out, if_neg (by rw [← HE.out]; simp)])
    obtain ⟨y0, y1, y2, y3, y4⟩ := five (HRES.out.below HB6.out)
    obtain ⟨f0, f1, f2, f3, f4⟩ := five_frozen (HRES.out.below HB6.out)
    go_wp2_with fail
    obtain ⟨p1, p2, p3⟩ := dec_end (HRES.out.below HB6.out) (HBX.out.trans (HB6.out.mono HBX.out.size)) (OwnM.zero w _)
    refine bodyPost_ret (results_cell_tmp rfl _ _ _ _ _ _ rfl p1 Try.underlying35 rfl (by kernel_rfl)) rfl ?_
    rw [HRF.out]
    exact ⟨_, rfl, p2, p3, p3⟩
  | true =>
  cases T with
  | false =>
    go_upto_region 9 with (first
      | (go_at_call 19; refine CE.out.mono ?_; rintro en wq ⟨rfl, rfl⟩; obtain ⟨x0, x1, x2, x3, x4⟩ := five HBLK.out)
      | (go_at_call 47; refine CO.out.mono ?_; rintro en wq ⟨rfl, rfl⟩)
      | (go_at_call 48; refine (CP.out _ (Below.refl _ _)).mono ?_; rintro en w6 ⟨rfl, hb6⟩; obtain ⟨x0, x1, x2, x3, x4⟩ := five (HBLK.out.below hb6); have HB6 := Lib.hid hb6; clear hb6)
      | (go_at_call 50; refine (CT.out _ HB6.out).mono ?_; rintro en w7 ⟨rfl, hb7⟩; have HB7 := Lib.hid (HB6.out.trans (hb7.mono HB6.out.size)); clear hb7)
      | fail)
    have HRF : Hid (R = none) := Lib.hid (by rw [HWF.out, if_neg (by rw [← HE.out]; simp)])
    obtain ⟨y0, y1, y2, y3, y4⟩ := five (HRES.out.below HB7.out)
    obtain ⟨f0, f1, f2, f3, f4⟩ := five_frozen (HRES.out.below HB7.out)
    go_wp2_with fail
    obtain ⟨p1, p2, p3⟩ := dec_end (HRES.out.below HB7.out) (HBX.out.trans (HB7.out.mono HBX.out.size)) (OwnM.zero w _)
    refine bodyPost_ret (results_cell_tmp rfl _ _ _ _ _ _ rfl p1 Try.underlying35 rfl (by kernel_rfl)) rfl ?_
    rw [HRF.out]
    exact ⟨_, rfl, p2, p3, p3⟩
  | true =>
    go_upto_region 10 with (first
      | (go_at_call 19; refine CE.out.mono ?_; rintro en wq ⟨rfl, rfl⟩; obtain ⟨x0, x1, x2, x3, x4⟩ := five HBLK.out)
      | (go_at_call 47; refine CO.out.mono ?_; rintro en wq ⟨rfl, rfl⟩)
      | (go_at_call 48; refine (CP.out _ (Below.refl _ _)).mono ?_; rintro en w6 ⟨rfl, hb6⟩; obtain ⟨x0, x1, x2, x3, x4⟩ := five (HBLK.out.below hb6); have HB6 := Lib.hid hb6; clear hb6)
      | (go_at_call 50; refine (CT.out _ HB6.out).mono ?_; rintro en w7 ⟨rfl, hb7⟩; have HB7 := Lib.hid (HB6.out.trans (hb7.mono HB6.out.size)); clear hb7)
      | fail)
    have HRF : Hid (R = some ⟨⟨v0, qs, zs, ps⟩, ts⟩) := Lib.hid (by rw [HWF.out, if_pos ⟨rfl, HE.out.1 (by trivial)⟩])
    obtain ⟨y0, y1, y2, y3, y4⟩ := five (HRES.out.below HB7.out)
    obtain ⟨f0, f1, f2, f3, f4⟩ := five_frozen (HRES.out.below HB7.out)
    obtain ⟨z0, z1, z2, z3, z4⟩ := five (HBLK.out.below HB7.out)
    go_wp2_with fail
    obtain ⟨p1, p2, p3⟩ := dec_end (HRES.out.below HB7.out) (HBX.out.trans (HB7.out.mono HBX.out.size)) (HOWN.out.below HB7.out)
    refine bodyPost_ret (results_cell_tmp rfl _ _ _ _ _ _ rfl p1 Try.underlying35 rfl (by kernel_rfl)) rfl ?_
    rw [HRF.out]
    exact ⟨_, rfl, p2, p3, p3⟩
theorem decode10 : DecodeC10 := fun hl hb hn hc h hB => (decode_raw hl hb h).mono fun e w' h => GotMB.of hB h
end Go.Proofs.Ytmekamgohonffaa

