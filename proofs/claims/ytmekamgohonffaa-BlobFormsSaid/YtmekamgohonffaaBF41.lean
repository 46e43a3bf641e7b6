/- BlobCodeMath BlobCode1 -/
import Derived.Test.YtmekamgohonffaaBF18
import Derived.Test.YtmekamgohonffaaBF35
import Derived.Test.YtmekamgohonffaaBF36
import Derived.Test.YtmekamgohonffaaBF39
import Derived.Test.YtmekamgohonffaaBF40
namespace Go.Proofs.Ytmekamgohonffaa
set_option linter.unusedVariables false
/-- a lesser bound reads the same, or nothing -/
theorem numN_less (s : Pk.St) {m m' : Int} (h : m ≤ m') : Pk.numN s m = Pk.numN s m' ∨ (Pk.numN s m = none ∧ ∃ v r, Pk.numN s m' = some (v, r) ∧ Pk.held m < v) := by
  cases s with
  | none => left; rfl
  | some l =>
    have hh : Pk.held m ≤ Pk.held m' := by unfold Pk.held; omega
    show Pk.rNum l (Pk.held m) = Pk.rNum l (Pk.held m') ∨ (Pk.rNum l (Pk.held m) = none ∧ ∃ v r, Pk.rNum l (Pk.held m') = some (v, r) ∧ Pk.held m < v)
    unfold Pk.rNum
    by_cases h0 : (Pk.first l).2 = 0
    · left; rw [if_pos (.inl h0), if_pos (.inl h0)]
    · by_cases h1 : Pk.held m' < (Pk.first l).1
      · left; rw [if_pos (.inr (by omega)), if_pos (.inr h1)]
      · by_cases h2 : Pk.held m < (Pk.first l).1
        · right; rw [if_pos (.inr h2), if_neg (by omega)]; exact ⟨rfl, _, _, rfl, h2⟩
        · left; rw [if_neg (by omega), if_neg (by omega)]
theorem numN_len {s : Pk.St} {m : Int} {v : Nat} {r : List Nat} (h : Pk.numN s m = some (v, r)) : r.length ≤ (s.getD []).length := by
  have := Pk.numS_len s m
  rw [(Pk.numV_is h).2] at this
  simpa using this
theorem bytN_long (s : Pk.St) {m m' : Int} (h : ((s.getD []).length : Int) ≤ m) (h' : m ≤ m') (ht : m' ≤ 4611686018427387904) : Pk.bytN s m = Pk.bytN s m' := by
  unfold Pk.bytN
  rcases numN_less s h' with e | ⟨e, v, r, e2, hv⟩
  · rw [e]
  · have hl := numN_len e2
    rw [e, e2]
    have hm : (Pk.held m : Int) = m := by unfold Pk.held Pk.top; omega
    simp only [Option.bind_none, Option.bind_some]
    rw [if_pos (by omega)]
namespace Sb
/-- as the code reads it: a body -/
def cpos (x : List Nat) : Nat := Pk.numV (some x) 549755813888
def c1 (x : List Nat) : Pk.St := Pk.numS (some x) 549755813888
def cmb (x : List Nat) : List Nat := Pk.bytV (c1 x) (x.length : Int)
def c2 (x : List Nat) : Pk.St := Pk.bytS (c1 x) (x.length : Int)
def cmost (x : List Nat) : Int := min 64 (549755813888 - (cpos x : Int))
def cn (x : List Nat) : Nat := Pk.numV (c2 x) (cmost x)
def c3 (x : List Nat) : Pk.St := Pk.numS (c2 x) (cmost x)
def ces (x : List Nat) : List En × Pk.St := getE (cn x) (c3 x)
def cgood (x : List Nat) : Bool := (Mc.dec (cmb x)).isSome && Pk.endOf (ces x).2
def cdec (x : List Nat) : Option Sb := if cgood x = true then some ⟨cpos x, (Mc.dec (cmb x)).getD Mc.zero, (ces x).1⟩ else none
end Sb
theorem getE_none : ∀ k, (getE k none).2 = none
  | 0 => rfl
  | k + 1 => by
    show (getE k (En.get none).2).2 = none
    have : (En.get none).2 = none := rfl
    rw [this]; exact getE_none k
theorem Sb.cpos_le (x : List Nat) : (Sb.cpos x : Int) ≤ 549755813888 := numV_le _ (by decide)
theorem Sb.cmost_le (x : List Nat) : 0 ≤ Sb.cmost x ∧ Sb.cmost x ≤ 64 := by
  have := Sb.cpos_le x
  unfold Sb.cmost; omega
theorem Sb.dec_cdec {l x : List Nat} (hu : Fr.unf l = some x) (hx : x.length ≤ 1073741824) : Sb.dec l = Sb.cdec x := by
  have e0 : Sb.st0 l = some x := by unfold Sb.st0; rw [hu]; rfl
  have hp := Sb.cpos_le x
  rcases numN_less (some x) (m := 549755813888) (m' := 1099511627776) (by omega) with e | ⟨e, v, r, e2, hv⟩
  · have a1 : Sb.cpos x = Sb.pos0 l := by unfold Sb.cpos Sb.pos0 Pk.numV; rw [e0, e]
    have a2 : Sb.c1 x = Sb.st1 l := by unfold Sb.c1 Sb.st1 Pk.numS; rw [e0, e]
    have hl1 : (((Sb.st1 l).getD []).length : Int) ≤ x.length := by
      have := Pk.numS_len (some x) 1099511627776
      unfold Sb.st1; rw [e0]
      simp only [Option.getD_some] at this; omega
    have e3 : Pk.bytN (Sb.st1 l) (x.length : Int) = Pk.bytN (Sb.st1 l) 1073741824 := bytN_long _ hl1 (by omega) (by omega)
    have a3 : Sb.cmb x = Sb.mb l := by unfold Sb.cmb Sb.mb Pk.bytV; rw [a2, e3]
    have a4 : Sb.c2 x = Sb.st2 l := by unfold Sb.c2 Sb.st2 Pk.bytS; rw [a2, e3]
    have hm : Sb.cmost x ≤ 64 := (Sb.cmost_le x).2
    have hm0 := (Sb.cmost_le x).1
    rcases numN_less (Sb.st2 l) (m := Sb.cmost x) (m' := 64) hm with f | ⟨f, v, r, f2, hv⟩
    · have b1 : Sb.cn x = Sb.n0 l := by unfold Sb.cn Sb.n0 Pk.numV; rw [a4, f]
      have b2 : Sb.c3 x = Sb.st3 l := by unfold Sb.c3 Sb.st3 Pk.numS; rw [a4, f]
      have b3 : Sb.ces x = Sb.es0 l := by unfold Sb.ces Sb.es0; rw [b1, b2]
      have hn : (Sb.n0 l : Int) ≤ Sb.cmost x := by rw [← b1]; exact numV_le _ hm0
      have hq : (Sb.pos0 l : Int) ≤ 549755813888 - (Sb.n0 l : Int) := by unfold Sb.cmost at hn; omega
      have hg : Sb.good l = Sb.cgood x := by
        unfold Sb.good Sb.cgood
        rw [hu, a3, b3, Pk.endOf_is, decide_eq_true hq]; simp
      unfold Sb.dec Sb.cdec
      rw [hg, a1, a3, b3]
    · have hno : ¬ ((Sb.pos0 l : Int) ≤ 549755813888 - (Sb.n0 l : Int)) := by
        have hv0 : Sb.n0 l = v := by unfold Sb.n0; exact (Pk.numV_is f2).1
        have h64 := Sb.n0_le l
        have hh : (Pk.held (Sb.cmost x) : Int) = Sb.cmost x := by unfold Pk.held Pk.top; omega
        unfold Sb.cmost at hh hv
        omega
      have hg : Sb.good l = false := by unfold Sb.good; rw [decide_eq_false hno]; simp
      have hc : Sb.cgood x = false := by
        unfold Sb.cgood Sb.ces Sb.cn Sb.c3
        rw [a4, (Pk.numV_no f).2, getE_none]
        simp [Pk.endOf]
      unfold Sb.dec Sb.cdec
      rw [hg, hc]; simp only [Bool.false_eq_true, if_false]
  · have hpos : Sb.pos0 l = v := by unfold Sb.pos0; rw [e0]; exact (Pk.numV_is e2).1
    have hh : Pk.held 549755813888 = 549755813888 := by unfold Pk.held Pk.top; omega
    rw [hh] at hv
    have hg : Sb.good l = false := by unfold Sb.good; rw [decide_eq_false (p := (Sb.pos0 l : Int) ≤ 549755813888 - (Sb.n0 l : Int)) (by omega)]; simp
    have hc : Sb.cgood x = false := by
      have k1 : Sb.c1 x = none := (Pk.numV_no e).2
      have k2 : Sb.c2 x = none := by unfold Sb.c2; rw [k1]; rfl
      have k3 : Sb.c3 x = none := by unfold Sb.c3; rw [k2]; rfl
      unfold Sb.cgood Sb.ces
      rw [k3, getE_none]
      simp [Pk.endOf]
    unfold Sb.dec Sb.cdec
    rw [hg, hc]; simp only [Bool.false_eq_true, if_false]
theorem Sb.cmb_len (x : List Nat) : (Sb.cmb x).length ≤ x.length := by
  have h1 := Pk.bytV_len (Sb.c1 x) (x.length : Int)
  have h2 := Pk.numS_len (some x) 549755813888
  unfold Sb.cmb
  unfold Sb.c1 at h1 ⊢
  simp only [Option.getD_some] at h2
  omega
theorem Sb.c_facts {x : List Nat} (hb : ∀ y ∈ x, y < 256) : (∀ y ∈ Sb.cmb x, y < 256) ∧ BytesSt (Sb.c3 x) := by
  have h0 : BytesSt (some x) := by intro l hl y hy; injection hl with hl; subst hl; exact hb y hy
  have h1 : BytesSt (Sb.c1 x) := numS_bytes h0 _
  have h2 := bytV_facts h1 (m := (x.length : Int)) (by omega)
  exact ⟨h2.2.1, numS_bytes h2.2.2 _⟩
end Go.Proofs.Ytmekamgohonffaa

namespace Go.Proofs.Ytmekamgohonffaa
open Go.RowKit
set_option linter.unusedVariables false
theorem run_min64a {P : Program} (w : World) (ts : Array TypeId) (t : TypeId) (n : Nat) :
    (Builtin.min_ ts t #[.int .i64 (n : Int), .int .i64 64]).run P w = .ok (.int .i64 ((min n 64 : Nat) : Int)) w := by
  rw [run_min_int2]
  by_cases h : (64 : Int) < (n : Int)
  · rw [if_pos h, show min n 64 = 64 by omega]; rfl
  · rw [if_neg h, show min n 64 = n by omega]
set_option maxRecDepth 100000 in
theorem part_raw {w : World} {A : Option Addr} {n c B : Nat} {l : List Nat} {i : Int} (hi : -9223372036854775808 ≤ i ∧ i ≤ 9223372036854775807) (hl : l.length ≤ 100000) (hc : n ≤ c ∧ c ≤ maxLen) (h : Rd w B A n (bv l)) :
    Calls Try.prog 21 #[.slice A n c, .int .i64 i] w (GotU w w (Sb.part l i)) := by
  obtain ⟨i1, i2⟩ := hi
  obtain ⟨hc1, hc2⟩ := hc
  have hn := h.length
  have hn' : n ≤ 100000 := by omega
  by_cases h0 : i < 0
  · have hp : Sb.part l i = none := by unfold Sb.part; rw [if_pos (.inl h0)]
    rw [hp]
    go_enter Try.func21, Try.ntmps21
    go_wp2_with fail
    go_ret2
    exact ⟨none, 0, rfl, own_nil _ _, Below.refl _ _, Below.refl _ _⟩
  · obtain ⟨k, rfl⟩ := Int.eq_ofNat_of_zero_le (show 0 ≤ i by omega)
    by_cases h1 : n ≤ k
    · have hp : Sb.part l (k : Int) = none := by unfold Sb.part; rw [if_pos (.inr (by omega))]
      rw [hp]
      go_enter Try.func21, Try.ntmps21
      go_wp2_with fail
      go_ret2
      exact ⟨none, 0, rfl, own_nil _ _, Below.refl _ _, Below.refl _ _⟩
    · have hp : Sb.part l (k : Int) = some ((l.drop k).take 64) := by unfold Sb.part; rw [if_neg (by omega), Int.toNat_natCast]
      rw [hp]
      obtain ⟨q, hq⟩ : ∃ q : Nat, n - k = q := ⟨_, rfl⟩
      obtain ⟨m, hm, hm1, hm2⟩ : ∃ m : Nat, min q 64 = m ∧ m ≤ q ∧ m ≤ 64 := ⟨_, rfl, by omega, by omega⟩
      have hlen : ((l.drop k).take 64).length = m := by rw [List.length_take, List.length_drop]; omega
      have hr2 : Rd w B (cutAt A c k) m (bv ((l.drop k).take 64)) := by
        have := (h.drop (show k ≤ n by omega) hc1).take (show m ≤ n - k by omega)
        rw [← bv_drop, ← bv_take] at this
        rw [show (l.drop k).take 64 = (l.drop k).take m by
          rw [List.take_eq_take_iff, List.length_drop]; omega]
        exact this
      obtain ⟨i9, hi1, hi2, hi3, hi4⟩ := info_parts byteT.info
      have hs1 : ∀ w : World, (Instr.slice 22 (.slice A n c) (some (.int .i64 (k : Int))) none none).run Try.prog w = .ok (.slice (cutAt A c k) q (c - k)) w := fun w => by rw [← hq]; exact run_slice_from (P := Try.prog) (t := 22) (e := 5) byteT.under hi1 hi3 A n c k (by omega) w
      have hs2 : ∀ w : World, (Instr.slice 22 (.slice (cutAt A c k) q (c - k)) none (some (.int .i64 (m : Int))) none).run Try.prog w = .ok (.slice (cutAt A c k) m (c - k)) w := fun w => run_slice_to (P := Try.prog) (t := 22) (e := 5) byteT.under hi1 (cutAt A c k) q (c - k) m (by omega) w
      have hmin := fun (w : World) ts t => run_min64a (P := Try.prog) w ts t q
      rw [hm] at hmin
      have HC := Lib.hid (clone_any (W := w) (c := c - k) (show Lim 0 m by unfold Lim; omega) hr2 (Below.refl _ _))
      clear hr2 h hi1 hi2 hi3 hi4 hl h0 hm
      have hkn : (k : Int) < (n : Int) := by omega
      go_enter Try.func21, Try.ntmps21
      go_wp2_with (first
        | (go_at_call 33; refine HC.out.mono ?_; rintro e w1 ⟨A1, c1, rfl, ho, hb, hb'⟩)
        | fail)
      go_ret2
      exact ⟨A1, c1, by simp [hlen], by simpa [hlen] using ho, hb, hb'⟩
theorem part15 : PartC15 := fun he hi hl hc h hB => by
  subst he
  exact (part_raw hi hl hc h).mono fun e w' hh => GotU.ofW hB hh
set_option maxHeartbeats 2000000 in
set_option maxRecDepth 100000 in
theorem getRest15 (w : World) (b : Nat) (s : Pk.St) {most : Int} (hm0 : 0 ≤ most) (hm : most ≤ 100) (h : RdrAt w b s) {R : List En} {s' : Pk.St} (hR : (getE (Pk.numV s most) (Pk.numS s most)).1 = R) (hs' : (getE (Pk.numV s most) (Pk.numS s most)).2 = s') :
    Calls Try.prog 18 #[.pointer (some ⟨b, 0, none⟩), .int .i64 most] w fun en w' => ∃ A c, en = .returned (.slice A R.length c) ∧ OwnEs w w' A R.length c R ∧ RdrAt w' b s' ∧ Only b w w' := by
  have hbl := h.lt
  have HBL := Lib.hid hbl
  obtain ⟨n, hn⟩ : ∃ x, Pk.numV s most = x := ⟨_, rfl⟩
  obtain ⟨s1, hs1⟩ : ∃ x, Pk.numS s most = x := ⟨_, rfl⟩
  have hn100 : n ≤ 100 := by have := numV_le s hm0; omega
  have HC := Lib.hid (rnum_is w b s most h n s1 hn hs1)
  rw [hn, hs1] at hR hs'
  have HG : Hid (getE n s1 = (R, s')) := Lib.hid (by rw [← hR, ← hs'])
  have H0 : Hid (RgSt w w b s) := Lib.hid ⟨h, only_refl b w⟩
  clear hR hs' hn hs1 h
  go_enter Try.func18, Try.ntmps18
  go_wp2_with (first
    | (go_at_call 15; refine HC.out.mono ?_; rintro en w1 ⟨rfl, hr1, hb1⟩; have HS1 := Lib.hid (H0.out.call hr1 hb1); clear hr1 hb1 HC)
    | fail)
  go_loopw [5, 9] (fun s5 s9 wr => ∃ (k : Nat) (A1 : Option Addr) (c1 : Nat) (acc : List En) (sk : Pk.St), k ≤ n ∧ acc.length = k ∧ s9 = .int .i64 (k : Int) ∧ s5 = .slice A1 k c1 ∧ Hid (RgSt w wr b sk) ∧ Hid (OwnEs w wr A1 k c1 acc) ∧ Hid (getE n s1 = (acc ++ (getE (n - k) sk).1, (getE (n - k) sk).2))) (fun _ s9 _ => n - (intOf s9).toNat)
  case atStart => exact ⟨0, none, 0, [], s1, Nat.zero_le _, rfl, rfl, rfl, HS1, Lib.hid (OwnEs.nil _ _), Lib.hid (by simp)⟩
  case round =>
    clear HS1 H0
    obtain ⟨k, A1, c1, acc, sk, hk, hacc, rfl, rfl, HS, HO, HQ⟩ := hrel
    by_cases hlt : k < n
    · obtain ⟨m, hm1⟩ : ∃ m, n - k = m + 1 := ⟨n - k - 1, by omega⟩
      have hstep : getE (m + 1) sk = (En.read sk :: (getE m (En.get sk).2).1, (getE m (En.get sk).2).2) := rfl
      have hq := HQ.out
      rw [hm1, hstep] at hq
      obtain ⟨x, ex⟩ : ∃ x, En.read sk = x := ⟨_, rfl⟩
      obtain ⟨t, et⟩ : ∃ x, (En.get sk).2 = x := ⟨_, rfl⟩
      rw [ex, et] at hq
      have HC := Lib.hid (getEntry_any wr b sk HS.out.r)
      rw [ex, et] at HC
      have hmk : n - (k + 1) = m := by omega
      have HQN : Hid (getE n s1 = ((acc ++ [x]) ++ (getE (n - (k + 1)) t).1, (getE (n - (k + 1)) t).2)) := Lib.hid (by rw [hmk, hq]; simp)
      clear hq hstep ex et hm1 hmk HQ
      unfold entV entC at HC
      go_wp2_with (first
        | (go_at_call 51; refine HC.out.mono ?_; rintro en w1 ⟨ca, rfl, ho2, hr2, hb2⟩
           have b1 : Below w1.heap.size w1 (w1.alloc (.cells #[.int .i64 x.s, .int .i64 x.q, .int .i64 x.c.kind, .int .i64 x.c.who, .slice ca.Ak x.c.key.length ca.ck, .slice ca.Av x.c.val.length ca.cv, .slice ca.Ao x.c.old.length ca.co] 26)) := (Below.refl _ _).alloc (Nat.le_refl _) _
           have HS2 := Lib.hid ((HS.out.call hr2 hb2).below b1)
           obtain ⟨vs, hv1, hv2⟩ := (HO.out.old hb2 (Old.some HBL.out)).below b1
           have HV2 := Lib.hid hv2
           have HO2 := Lib.hid ((ho2.below b1).of HS.out.size)
           have hsz : w.heap.size ≤ (w1.alloc (.cells #[.int .i64 x.s, .int .i64 x.q, .int .i64 x.c.kind, .int .i64 x.c.who, .slice ca.Ak x.c.key.length ca.ck, .slice ca.Av x.c.val.length ca.cv, .slice ca.Ao x.c.old.length ca.co] 26)).heap.size := HS2.out.size
           clear hv2 ho2)
        | (at_builtin
           refine wpList_append_atE w.heap.size hsz cellE (.tmp 11) (.tmp 14) rfl (by rfl) rfl hv1 rfl (Rd.entAt _ ca x _ rfl) (entL_one _ _) (by omega) (by omega) ?_
           intro A3 c3 w3 hown3 hg3)
        | fail)
      go_roundw
      case rel =>
        exact ⟨k + 1, A3, c3, acc ++ [x], t, by omega, by simp [hacc], by go_num, rfl, Lib.hid (HS2.out.row hv1 (by decide) (by decide) hg3), Lib.hid (OwnEs.snoc hv1 HV2.out HO2.out hg3 hown3), HQN⟩
      case measure => simp only [intOf]; omega
    · have hq := HQ.out
      have hnk : n - k = 0 := by omega
      rw [hnk, show getE 0 sk = ([], sk) from rfl, List.append_nil, HG.out] at hq
      injection hq with h1 h2
      subst h1 h2
      subst hacc
      go_wp2_with fail
      go_ret
      exact ⟨A1, c1, rfl, HO.out, HS.out.r, HS.out.only⟩
end Go.Proofs.Ytmekamgohonffaa

