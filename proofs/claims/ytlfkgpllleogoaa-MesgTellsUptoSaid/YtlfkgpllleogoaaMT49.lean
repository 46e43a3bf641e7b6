/- Ref11Row Ref11DecK -/
import Derived.Test.YtlfkgpllleogoaaMT15
import Derived.Test.YtlfkgpllleogoaaMT24
import Derived.Test.YtlfkgpllleogoaaMT35
import Derived.Test.YtlfkgpllleogoaaMT48
namespace Go.Proofs.Ytlfkgpllleogoaa
open Go.RowKit
set_option linter.unusedVariables false
theorem RdSt.bel {w wx wy : World} {B b : Nat} {s : Pk.St} (h : RdSt w wx B b s) (hb : b < w.heap.size) (hbel : Below w.heap.size wx wy) : RdSt w wy B b s := by
  refine ⟨?_, only_below h.only hbel (Nat.le_refl _)⟩
  obtain ⟨A', n', c', h1, h2, h3, h4, h5, h6⟩ := h.r
  exact ⟨A', n', c', (hbel.block b hb).trans h1, h2, h3, h4, h5, fun l hl => ⟨(h6 l hl).1.below (hbel.mono (by omega)), (h6 l hl).2⟩⟩
theorem RdSt.grow {w wx wy : World} {B b size n : Nat} {e : TypeId} {v : Value} {xs : List Value} {s : Pk.St} (h : RdSt w wx B b s) (hb : b < w.heap.size) (hv : wx.ownsRow w.heap.size e size v n xs) (hg : wx.grownBy wy v.ownBlock) : RdSt w wy B b s :=
  h.bel hb ((Below.refl w.heap.size wx).grown hg h.size (fun k hk => (hv.lt k hk).1))
set_option maxHeartbeats 2000000 in
set_option maxRecDepth 100000 in
theorem refRow_any (w : World) (B b : Nat) (s : Pk.St) {most : Int} (hm0 : 0 ≤ most) (hm : most ≤ 100) (h : RefAt w B b s) {R : List Int} {s' : Pk.St} (hR : (stF most s).1 = R) (hs' : (stF most s).2 = s') :
    Calls Try.prog 49 #[.pointer (some ⟨b, 0, none⟩), .int .i64 most] w fun en w' => ∃ A c, en = .returned (.slice A R.length c) ∧ OwnI w w' A R.length c R ∧ RefAt w' B b s' ∧ Only b w w' := by
  unfold stF at hR hs'
  have hbl := h.lt
  have HBL := Lib.hid hbl
  obtain ⟨n, hn⟩ : ∃ x, Pk.numV s most = x := ⟨_, rfl⟩
  obtain ⟨s1, hs1⟩ : ∃ x, Pk.numS s most = x := ⟨_, rfl⟩
  have hn100 : n ≤ 100 := by have := numV_le s hm0; omega
  have HC := Lib.hid (refrnum_any w B b s most h)
  rw [hn, hs1] at hR hs' HC
  have HQ0 : Hid (getF n s1 = (R, s')) := Lib.hid (by rw [← hR, ← hs'])
  have H0 : Hid (RdSt w w B b s) := Lib.hid ⟨h, only_refl b w⟩
  clear hR hs' hn hs1 h
  go_enter Try.func49, Try.ntmps49
  go_wp2_with (first
    | (go_at_call 47; refine HC.out.mono ?_; rintro en w1 ⟨rfl, hr1, hb1, hz0⟩; clear hz0; have HS1 := Lib.hid (H0.out.call hr1 hb1); clear hr1 hb1 HC)
    | fail)
  go_loopw [5, 6] (fun s5 s6 wr => ∃ (k j : Nat) (A1 : Option Addr) (c1 : Nat) (acc : List Int) (sk : Pk.St), j + k = n ∧ s6 = .int .i64 (k : Int) ∧ s5 = .slice A1 j c1 ∧ Hid (RdSt w wr B b sk) ∧ Hid (OwnI w wr A1 j c1 acc) ∧ Hid (getF n s1 = (acc ++ (getF k sk).1, (getF k sk).2))) (fun _ s6 _ => (intOf s6).toNat)
  case atStart => exact ⟨n, 0, none, 0, [], s1, by omega, rfl, rfl, HS1, Lib.hid (ownI_nil _ _), Lib.hid (by simp)⟩
  case round =>
    clear HS1 H0
    obtain ⟨k, j, A1, c1, acc, sk, hk, rfl, rfl, HS, HO, HQ⟩ := hrel
    by_cases hlt : 0 < k
    · obtain ⟨m, rfl⟩ : ∃ m, k = m + 1 := ⟨k - 1, by omega⟩
      have hstep : getF (m + 1) sk = ((Pk.numV sk 1099511627776 : Int) :: (getF m (Pk.numS sk 1099511627776)).1, (getF m (Pk.numS sk 1099511627776)).2) := rfl
      have hq := HQ.out
      rw [hstep] at hq
      obtain ⟨x, ex⟩ : ∃ x, Pk.numV sk 1099511627776 = x := ⟨_, rfl⟩
      obtain ⟨t, et⟩ : ∃ x, Pk.numS sk 1099511627776 = x := ⟨_, rfl⟩
      rw [ex, et] at hq
      have hc := refrnum_any wr B b sk 1099511627776 HS.out.r
      rw [ex, et] at hc
      have HC := Lib.hid hc
      have HQN : Hid (getF n s1 = ((acc ++ [(x : Int)]) ++ (getF m t).1, (getF m t).2)) := Lib.hid (by rw [hq]; simp)
      obtain ⟨K, hKK⟩ : ∃ K : Int, ((m + 1 : Nat) : Int) = K := ⟨_, rfl⟩
      have hK0 : (0 : Int) < K := by omega
      have hK1 : IntKind.i64.wrap (K - 1) = (m : Int) := by rw [IntWalk.i64_in _ (by omega)]; omega
      have HKK := Lib.hid hKK
      rw [hKK]
      clear hq hstep ex et HQ hc hKK
      go_wp2_with (first
        | (go_at_call 47; refine HC.out.mono ?_; rintro en w1 ⟨rfl, hr2, hb2, hz0⟩; clear hz0
           have b1 : Below w1.heap.size w1 (w1.alloc (.cells #[.int .i64 (x : Int)] 3)) := (Below.refl _ _).alloc (Nat.le_refl _) _
           have HS2 := Lib.hid ((HS.out.call hr2 hb2).below b1)
           have hv1 := ownsRow_below (own_old HO.out hb2 (Old.some HBL.out)) b1
           have hsz : w.heap.size ≤ (w1.alloc (.cells #[.int .i64 (x : Int)] 3)).heap.size := HS2.out.size)
        | (at_builtin
           refine wpList_append_at w.heap.size hsz cellI (.tmp 14) (.tmp 17) rfl (by rfl) rfl hv1 rfl (Rd.oneV w1 (.int .i64 (x : Int)) 3) (fun u hu => by rw [List.mem_singleton.1 hu]; rfl) (by omega) (by omega) ?_
           intro A3 c3 w3 hown3 hg3)
        | fail)
      go_roundw
      case rel =>
        refine ⟨m, j + 1, A3, c3, acc ++ [(x : Int)], t, by omega, by go_num, rfl, Lib.hid (HS2.out.grow HBL.out hv1 hg3), Lib.hid ?_, HQN⟩
        unfold OwnI
        rw [iv_snocR]
        exact hown3
      case measure => simp only [intOf]; have := HKK.out; omega
    · have hq := HQ.out
      have hk0 : k = 0 := by omega
      subst hk0
      rw [show getF 0 sk = ([], sk) from rfl, List.append_nil, HQ0.out] at hq
      injection hq with h1 h2
      subst h1 h2
      have hlen : R.length = j := ownI_len HO.out
      subst hlen
      go_wp2_with fail
      go_ret
      exact ⟨A1, c1, rfl, HO.out, HS.out.r, HS.out.only⟩
end Go.Proofs.Ytlfkgpllleogoaa

namespace Go.Proofs.Ytlfkgpllleogoaa
open Go.RowKit
set_option linter.unusedVariables false
/-- a message that is read into block g: the reader at b, the answer's variable at gr -/
structure DcSt (wb wx : World) (B b g gr : Nat) (cs : Array Value) (s : Pk.St) : Prop where
  r : RdSt wb wx B b s
  blk : Blk wx g 29 cs
  res : Blk wx gr 29 msgZ
  hb : b < wb.heap.size
  hg : wb.heap.size ≤ g
  hgr : gr < wb.heap.size
section
variable {wb wx wy : World} {B b g gr i : Nat} {cs : Array Value} {s s' : Pk.St} {u : Value}
theorem DcSt.step (h : DcSt wb wx B b g gr cs s) (hr : RefAt wy B b s') (ho : Only b wx wy) : DcSt wb wy B b g gr cs s' := by
  have hne : gr ≠ b := by
    obtain ⟨_, _, _, h1, _⟩ := h.r.r
    exact h.res.apart h1 (by decide)
  exact ⟨h.r.call hr ho, h.blk.grown ho (by have := h.hb; have := h.hg; simp; omega), h.res.grown ho (by simpa using hne), h.hb, h.hg, h.hgr⟩
theorem DcSt.put (h : DcSt wb wx B b g gr cs s) (i : Nat) (u : Value) : DcSt wb (wx.setCell ⟨g, i, none⟩ u) B b g gr (cs.setIfInBounds i u) s :=
  ⟨h.r.set h.hb h.hg, h.blk.set_ i u, h.res.set_other (by have := h.hg; have := h.hgr; omega), h.hb, h.hg, h.hgr⟩
theorem DcSt.num (h : DcSt wb wx B b g gr cs s) (most : Int) {v : Nat} (hv : Pk.numV s most = v) (hs : Pk.numS s most = s') : Calls Try.prog 47 #[.pointer (some ⟨b, 0, none⟩), .int .i64 most] wx fun e w' => e = .returned (.int .i64 (v : Int)) ∧ DcSt wb w' B b g gr cs s' ∧ Only b wx w' := by
  subst hv; subst hs
  exact (refrnum_any wx B b s most h.r.r).mono fun e w' ⟨h1, h2, h3, _⟩ => ⟨h1, h.step h2 h3, h3⟩
theorem own_len_ {W w : World} {A : Option Addr} {n c : Nat} {l : List Nat} (h : OwnB W w A n c l) : n = l.length := (own_len h).symm
theorem DcSt.data (h : DcSt wb wx B b g gr cs s) (most : Int) {v : List Nat} (hv : Pk.bytV s most = v) (hs : Pk.bytS s most = s') : Calls Try.prog 48 #[.pointer (some ⟨b, 0, none⟩), .int .i64 most] wx fun e w' => ∃ A c, e = .returned (.slice A v.length c) ∧ OwnB wb w' A v.length c v ∧ DcSt wb w' B b g gr cs s' ∧ Only b wx w' := by
  subst hv; subst hs
  refine (refrbytes_any wx B b s most h.r.r).mono ?_
  rintro e w' ⟨A, n, c, h1, h2, h3, h4⟩
  obtain rfl := own_len_ h2
  exact ⟨A, c, h1, own_of h.r.size h2, h.step h3 h4, h4⟩
theorem DcSt.nums (h : DcSt wb wx B b g gr cs s) {most : Int} (hm0 : 0 ≤ most) (hm : most ≤ 100) {R : List Int} (hR : (stF most s).1 = R) (hs : (stF most s).2 = s') : Calls Try.prog 49 #[.pointer (some ⟨b, 0, none⟩), .int .i64 most] wx fun e w' => ∃ A c, e = .returned (.slice A R.length c) ∧ OwnI wb w' A R.length c R ∧ DcSt wb w' B b g gr cs s' ∧ Only b wx w' :=
  (refRow_any wx B b s hm0 hm h.r.r hR hs).mono fun e w' ⟨A, c, h1, h2, h3, h4⟩ => ⟨A, c, h1, own_of h.r.size h2, h.step h3 h4, h4⟩
theorem DcSt.entry (h : DcSt wb wx B b g gr cs s) {v : En} (hv : En.read s = v) (hs : (En.get s).2 = s') : Calls Try.prog 50 #[.pointer (some ⟨b, 0, none⟩)] wx fun e w' => ∃ ca, e = .returned (.agg #[.int .i64 v.s, .int .i64 v.q, .int .i64 v.c.kind, .int .i64 v.c.who, .slice ca.Ak v.c.key.length ca.ck, .slice ca.Av v.c.val.length ca.cv, .slice ca.Ao v.c.old.length ca.co]) ∧ OwnC wb w' ca v.c ∧ DcSt wb w' B b g gr cs s' ∧ Only b wx w' := by
  subst hv; subst hs
  refine (refGetEntry_any wx B b s h.r.r).mono ?_
  rintro e w' ⟨ca, h1, h2, h3, h4⟩
  exact ⟨ca, h1, h2.of h.r.size, h.step h3 h4, h4⟩
theorem DcSt.ends (h : DcSt wb wx B b g gr cs s) : Calls Try.prog 51 #[.pointer (some ⟨b, 0, none⟩)] wx fun e w' => e = .returned (.bool (Pk.endOf s)) ∧ wx = w' := refend_any wx B b s h.r.r
end
end Go.Proofs.Ytlfkgpllleogoaa

