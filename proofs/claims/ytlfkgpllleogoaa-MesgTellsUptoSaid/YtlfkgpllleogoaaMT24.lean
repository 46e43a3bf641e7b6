/- MesgR -/
import Derived.Test.YtlfkgpllleogoaaMT16
import Derived.Test.YtlfkgpllleogoaaMT22
namespace Go.Proofs.Ytlfkgpllleogoaa
open Go.RowKit
set_option linter.unusedVariables false
theorem iv_snocR (l : List Int) (z : Int) : iv (l ++ [z]) = iv l ++ [.int .i64 z] := by simp [iv]
set_option maxRecDepth 100000 in
theorem rnum11_any (w : World) (b : Nat) (s : Pk.St) (z most : Int) (h : RdrAt w b s) {v : Nat} {s' : Pk.St} (hv : Pk.numV s most = v) (hs : Pk.numS s most = s') :
    Calls Try.prog 111 #[.agg #[.pointer (some ⟨b, 0, none⟩)], .int .i64 z, .int .i64 most] w (NumP w b v s') := by
  have bb : Below w.heap.size w (w.alloc (.cells #[.pointer (some ⟨b, 0, none⟩)] 72)) := (Below.refl _ _).alloc (Nat.le_refl _) _
  have HC := Lib.hid (rnum_is _ b s most (h.below bb) v s' hv hs)
  have HB := Lib.hid bb
  clear h hv hs bb
  go_enter Try.func111, Try.ntmps111
  go_wp2_with (first
    | (go_at_call 78; refine HC.out.mono ?_; rintro e w1 ⟨rfl, hr1, hb1⟩)
    | fail)
  go_ret
  exact ⟨rfl, hr1, only_trans (only_below (only_refl b w) HB.out (Nat.le_refl _)) hb1⟩
set_option maxRecDepth 100000 in
theorem rdata11_any (w : World) (b : Nat) (s : Pk.St) (A0 : Option Addr) (n0 c0 : Nat) (most : Int) (h : RdrAt w b s) {v : List Nat} {s' : Pk.St} (hv : Pk.bytV s most = v) (hs : Pk.bytS s most = s') :
    Calls Try.prog 109 #[.agg #[.pointer (some ⟨b, 0, none⟩)], .slice A0 n0 c0, .int .i64 most] w fun e w' => ∃ A c, e = .returned (.slice A v.length c) ∧ OwnB w w' A v.length c v ∧ RdrAt w' b s' ∧ Only b w w' := by
  have bb : Below w.heap.size w (w.alloc (.cells #[.pointer (some ⟨b, 0, none⟩)] 72)) := (Below.refl _ _).alloc (Nat.le_refl _) _
  have HC := Lib.hid (rbytes_is _ b s most (h.below bb) v s' hv hs)
  have HB := Lib.hid bb
  clear h hv hs bb
  go_enter Try.func109, Try.ntmps109
  go_wp2_with (first
    | (go_at_call 106; refine HC.out.mono ?_; rintro e w1 ⟨A1, n1, c1, rfl, ho1, hr1, hb1⟩; obtain rfl := own_len ho1)
    | fail)
  go_ret
  exact ⟨A1, c1, rfl, own_of HB.out.size ho1, hr1, only_trans (only_below (only_refl b w) HB.out (Nat.le_refl _)) hb1⟩
set_option maxRecDepth 100000 in
theorem rentry11_any (w : World) (b : Nat) (s : Pk.St) (ca : CA) (e0 : En) (h : RdrAt w b s) {e : En} {s' : Pk.St} (hv : En.read s = e) (hs : (En.get s).2 = s') :
    Calls Try.prog 110 #[.agg #[.pointer (some ⟨b, 0, none⟩)], entV ca e0] w fun en w' => ∃ ca, en = .returned (entV ca e) ∧ OwnC w w' ca e.c ∧ RdrAt w' b s' ∧ Only b w w' := by
  obtain ⟨wz, hwz⟩ : ∃ wz, ((w.alloc (.cells #[.pointer (some ⟨b, 0, none⟩)] 72)).alloc (.cells (entC ca e0) 27)).alloc (.cells #[.int .i64 0, .int .i64 0, .int .i64 0, .int .i64 0, .slice none 0 0, .slice none 0 0, .slice none 0 0] 27) = wz := ⟨_, rfl⟩
  have bb : Below w.heap.size w wz := by rw [← hwz]; exact (((Below.refl _ _).alloc (Nat.le_refl _) _).alloc (by rw [World.size_alloc]; omega) _).alloc (by rw [World.size_alloc, World.size_alloc]; omega) _
  obtain ⟨g, hg⟩ : ∃ g, w.heap.size = g := ⟨_, rfl⟩
  have k0 : Blk wz g 72 #[.pointer (some ⟨b, 0, none⟩)] := by rw [← hwz, ← hg]; exact ((Blk.new _ _ _).alloc _).alloc _
  have k2 : Blk wz (g + 1 + 1) 27 #[.int .i64 0, .int .i64 0, .int .i64 0, .int .i64 0, .slice none 0 0, .slice none 0 0, .slice none 0 0] := by
    rw [← hwz, ← hg]
    have := Blk.new ((w.alloc (.cells #[.pointer (some ⟨b, 0, none⟩)] 72)).alloc (.cells (entC ca e0) 27)) 27 #[.int .i64 0, .int .i64 0, .int .i64 0, .int .i64 0, .slice none 0 0, .slice none 0 0, .slice none 0 0]
    rwa [World.size_alloc, World.size_alloc] at this
  have hbl := h.lt
  have HC : Hid (Calls Try.prog 104 #[.pointer (some ⟨b, 0, none⟩)] wz fun en w' => ∃ ca, en = .returned (entV ca e) ∧ OwnC wz w' ca e.c ∧ RdrAt w' b s' ∧ Only b wz w') := Lib.hid (by
    have q := getEntry_any wz b s (h.below bb)
    rw [hv, hs] at q
    exact q)
  have HB := Lib.hid bb
  have HK := Lib.hid k2
  have HWZ := Lib.hid hwz
  have HG := Lib.hid hg
  have x0 : wz.cell? ⟨g, 0, none⟩ = some (.pointer (some ⟨b, 0, none⟩)) := k0.cell 0
  have hne : g + 1 + 1 ≠ b := by omega
  clear h hv hs bb k0 k2 hwz hg
  unfold entV entC
  unfold entV entC at HC
  unfold entC at HWZ
  go_enter Try.func110, Try.ntmps110
  go_upto_region 1 with fail
  rw [HG.out, HWZ.out]
  go_wp2_with (first
    | (go_at_call 104; refine HC.out.mono ?_; rintro en w1 ⟨ca1, rfl, hq, hr1, hb1⟩
       have HK1 := Lib.hid (HK.out.grown hb1 (by simpa using hne))
       have HQ := Lib.hid hq
       have HO := Lib.hid hb1
       have HR := Lib.hid hr1
       obtain ⟨y0, y1, y2, y3, y4, y5, y6⟩ := seven HK1.out
       have z0 := HK1.out.frozen 0
       have z1 := HK1.out.frozen 1
       have z2 := HK1.out.frozen 2
       have z3 := HK1.out.frozen 3
       have z4 := HK1.out.frozen 4
       have z5 := HK1.out.frozen 5
       have z6 := HK1.out.frozen 6
       clear hq hr1 hb1 x0)
    | fail)
  have q0 := HK1.out
  have q1 := q0.set_ 0 (.int .i64 e.s)
  have q2 := q1.set_ 1 (.int .i64 e.q)
  have q3 := q2.set_ 2 (.int .i64 e.c.kind)
  have q4 := q3.set_ 3 (.int .i64 e.c.who)
  have q5 := q4.set_ 4 (.slice ca1.Ak e.c.key.length ca1.ck)
  have q6 := q5.set_ 5 (.slice ca1.Av e.c.val.length ca1.cv)
  have q7 := q6.set_ 6 (.slice ca1.Ao e.c.old.length ca1.co)
  refine bodyPost_ret (results_cell_row rfl _ _ _ _ _ _ _ rfl q7 Try.underlying27 rfl (by kernel_rfl)) rfl ?_
  have hg := HG.out
  have hr0 : RgSt w w1 b s' := ⟨HR.out, only_trans (only_below (only_refl b w) HB.out (Nat.le_refl _)) HO.out⟩
  have hrg := (((((((hr0).set (i := 0) (u := .int .i64 e.s) q0 (by decide) (by decide) (by omega)).set (i := 1) (u := .int .i64 e.q) q1 (by decide) (by decide) (by omega)).set (i := 2) (u := .int .i64 e.c.kind) q2 (by decide) (by decide) (by omega)).set (i := 3) (u := .int .i64 e.c.who) q3 (by decide) (by decide) (by omega)).set (i := 4) (u := .slice ca1.Ak e.c.key.length ca1.ck) q4 (by decide) (by decide) (by omega)).set (i := 5) (u := .slice ca1.Av e.c.val.length ca1.cv) q5 (by decide) (by decide) (by omega)).set (i := 6) (u := .slice ca1.Ao e.c.old.length ca1.co) q6 (by decide) (by decide) (by omega)
  have own : ∀ {A : Option Addr} {n c : Nat} {l : List Nat}, OwnB wz w1 A n c l → OwnB w (((((((w1.setCell ⟨g + 1 + 1, 0, none⟩ (.int .i64 e.s)).setCell ⟨g + 1 + 1, 1, none⟩ (.int .i64 e.q)).setCell ⟨g + 1 + 1, 2, none⟩ (.int .i64 e.c.kind)).setCell ⟨g + 1 + 1, 3, none⟩ (.int .i64 e.c.who)).setCell ⟨g + 1 + 1, 4, none⟩ (.slice ca1.Ak e.c.key.length ca1.ck)).setCell ⟨g + 1 + 1, 5, none⟩ (.slice ca1.Av e.c.val.length ca1.cv)).setCell ⟨g + 1 + 1, 6, none⟩ (.slice ca1.Ao e.c.old.length ca1.co)) A n c l :=
    fun h => own_of HB.out.size (own_set_t (own_set_t (own_set_t (own_set_t (own_set_t (own_set_t (own_set_t h q0 (by decide)) q1 (by decide)) q2 (by decide)) q3 (by decide)) q4 (by decide)) q5 (by decide)) q6 (by decide))
  exact ⟨ca1, rfl, ⟨own HQ.out.k, own HQ.out.v, own HQ.out.o⟩, hrg.r, hrg.only⟩
set_option maxHeartbeats 2000000 in
set_option maxRecDepth 100000 in
theorem rnums11_any (w : World) (b : Nat) (s : Pk.St) (A0 : Option Addr) (n0 c0 : Nat) {most : Int} (hm0 : 0 ≤ most) (hm : most ≤ 100) (h : RdrAt w b s) {R : List Int} {s' : Pk.St} (hR : (stF most s).1 = R) (hs' : (stF most s).2 = s') :
    Calls Try.prog 112 #[.agg #[.pointer (some ⟨b, 0, none⟩)], .slice A0 n0 c0, .int .i64 most] w fun en w' => ∃ A c, en = .returned (.slice A R.length c) ∧ OwnI w w' A R.length c R ∧ RdrAt w' b s' ∧ Only b w w' := by
  unfold stF at hR hs'
  have hbl := h.lt
  have HBL := Lib.hid hbl
  obtain ⟨wz, hwz⟩ : ∃ wz, w.alloc (.cells #[.pointer (some ⟨b, 0, none⟩)] 72) = wz := ⟨_, rfl⟩
  have bb : Below w.heap.size w wz := by rw [← hwz]; exact (Below.refl _ _).alloc (Nat.le_refl _) _
  obtain ⟨g, hg⟩ : ∃ g, w.heap.size = g := ⟨_, rfl⟩
  have k0 : Blk wz g 72 #[.pointer (some ⟨b, 0, none⟩)] := by rw [← hwz, ← hg]; exact Blk.new _ _ _
  have HWZ := Lib.hid hwz
  have HG := Lib.hid hg
  have hgb : g ≠ b := by omega
  obtain ⟨n, hn⟩ : ∃ x, Pk.numV s most = x := ⟨_, rfl⟩
  obtain ⟨s1, hs1⟩ : ∃ x, Pk.numS s most = x := ⟨_, rfl⟩
  have hn100 : n ≤ 100 := by have := numV_le s hm0; omega
  have HC := Lib.hid (rnum_is wz b s most (h.below bb) n s1 hn hs1)
  rw [hn, hs1] at hR hs'
  have HQ0 : Hid (getF n s1 = (R, s')) := Lib.hid (by rw [← hR, ← hs'])
  have H0 : Hid (RgSt w wz b s) := Lib.hid ((⟨h, only_refl b w⟩ : RgSt w w b s).below bb)
  have HK0 := Lib.hid k0
  have x0 : wz.cell? ⟨g, 0, none⟩ = some (.pointer (some ⟨b, 0, none⟩)) := k0.cell 0
  clear hR hs' hn hs1 h bb k0 hwz hg
  go_enter Try.func112, Try.ntmps112
  go_upto_region 1 with fail
  rw [HG.out, HWZ.out]
  go_wp2_with (first
    | (go_at_call 78; refine HC.out.mono ?_; rintro en w1 ⟨rfl, hr1, hb1⟩; have HS1 := Lib.hid (H0.out.call hr1 hb1); have HK1 := Lib.hid (HK0.out.grown hb1 (by simpa using hgb)); clear hr1 hb1 HC x0)
    | fail)
  go_loopw [7, 12] (fun s7 s12 wr => ∃ (k : Nat) (A1 : Option Addr) (c1 : Nat) (acc : List Int) (sk : Pk.St), k ≤ n ∧ s12 = .int .i64 (k : Int) ∧ s7 = .slice A1 k c1 ∧ Hid (RgSt w wr b sk) ∧ Hid (Blk wr g 72 #[.pointer (some ⟨b, 0, none⟩)]) ∧ Hid (OwnI w wr A1 k c1 acc) ∧ Hid (getF n s1 = (acc ++ (getF (n - k) sk).1, (getF (n - k) sk).2))) (fun _ s12 _ => n - (intOf s12).toNat)
  case atStart => exact ⟨0, none, 0, [], s1, Nat.zero_le _, rfl, rfl, HS1, HK1, Lib.hid (ownI_nil _ _), Lib.hid (by simp)⟩
  case round =>
    clear HS1 H0 HK1 HK0
    obtain ⟨k, A1, c1, acc, sk, hk, rfl, rfl, HS, HK, HO, HQ⟩ := hrel
    by_cases hlt : k < n
    · obtain ⟨m, hm1⟩ : ∃ m, n - k = m + 1 := ⟨n - k - 1, by omega⟩
      have hstep : getF (m + 1) sk = ((Pk.numV sk 1099511627776 : Int) :: (getF m (Pk.numS sk 1099511627776)).1, (getF m (Pk.numS sk 1099511627776)).2) := rfl
      have hq := HQ.out
      rw [hm1, hstep] at hq
      obtain ⟨x, ex⟩ : ∃ x, Pk.numV sk 1099511627776 = x := ⟨_, rfl⟩
      obtain ⟨t, et⟩ : ∃ x, Pk.numS sk 1099511627776 = x := ⟨_, rfl⟩
      rw [ex, et] at hq
      have HC := Lib.hid (rnum_is wr b sk 1099511627776 HS.out.r x t ex et)
      have hmk : n - (k + 1) = m := by omega
      have HQN : Hid (getF n s1 = ((acc ++ [(x : Int)]) ++ (getF (n - (k + 1)) t).1, (getF (n - (k + 1)) t).2)) := Lib.hid (by rw [hmk, hq]; simp)
      clear hq hstep ex et hm1 hmk HQ
      have x0 : wr.cell? ⟨g, 0, none⟩ = some (.pointer (some ⟨b, 0, none⟩)) := HK.out.cell 0
      go_wp2_with (first
        | (go_at_call 78; refine HC.out.mono ?_; rintro en w1 ⟨rfl, hr2, hb2⟩
           have b1 : Below w1.heap.size w1 (w1.alloc (.cells #[.int .i64 (x : Int)] 3)) := (Below.refl _ _).alloc (Nat.le_refl _) _
           have HS2 := Lib.hid ((HS.out.call hr2 hb2).below b1)
           have HK2 := Lib.hid ((HK.out.grown hb2 (by simpa using hgb)).below b1)
           have hv1 := ownsRow_below (own_old HO.out hb2 (Old.some HBL.out)) b1
           have hsz : w.heap.size ≤ (w1.alloc (.cells #[.int .i64 (x : Int)] 3)).heap.size := HS2.out.size)
        | (at_builtin
           refine wpList_append_at w.heap.size hsz cellI (.tmp 14) (.tmp 18) rfl (by rfl) rfl hv1 rfl (Rd.oneV _ _ _) (by intro u hu; simp at hu; subst hu; rfl) (by omega) (by omega) ?_
           intro A3 c3 w3 hown3 hg3)
        | fail)
      go_roundw
      case rel =>
        refine ⟨k + 1, A3, c3, acc ++ [(x : Int)], t, by omega, by go_num, rfl, Lib.hid (HS2.out.row hv1 (by decide) (by decide) hg3), Lib.hid (HK2.out.apart_own hv1 (by decide) hg3), Lib.hid ?_, HQN⟩
        unfold OwnI
        rw [iv_snocR]
        exact hown3
      case measure => simp only [intOf]; omega
    · have hq := HQ.out
      have hnk : n - k = 0 := by omega
      rw [hnk, show getF 0 sk = ([], sk) from rfl, List.append_nil, HQ0.out] at hq
      injection hq with h1 h2
      subst h1 h2
      have hlen : R.length = k := ownI_len HO.out
      subst hlen
      go_wp2_with fail
      go_ret
      exact ⟨A1, c1, rfl, HO.out, HS.out.r, HS.out.only⟩
end Go.Proofs.Ytlfkgpllleogoaa

